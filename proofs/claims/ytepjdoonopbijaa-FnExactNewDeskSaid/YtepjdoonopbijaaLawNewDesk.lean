/- 'NewDesk' of the program answers as the specification's model; what it answers is its own memory. Conditions: none. -/
import Derived.Test.YtepjdoonopbijaaOpen
import Derived.Test.YtepjdoonopbijaaDkNew
import Derived.Test.YtepjdoonopbijaaDkLen
import Derived.Deep.RegionHeld3
namespace Go.Proofs.Ytepjdoonopbijaa.fnExactNewDesk
open Go.ChangeShapes Go.WideShapes Go.ChangeAt Go.RowKit Go.Joins
open Go.ChangeMaps (open_string)
set_option linter.unusedVariables false

set_option maxRecDepth 100000 in
set_option maxHeartbeats 8000000 in
theorem core  (P G : Int) (L : List Int) (LL : List (List Int)) (hnL : L.length ≤ 1048576) (hsm : (LL.map List.length).sum + LL.length ≤ 1048576)
    (hspec : ∀ W, Calls Try.prog 4 #[] W (RetDk W P L G LL)) (himpl : ∀ W, Calls Try.prog 5 #[] W (RetDk W P L G LL)) (w : World) :
    Calls Try.prog 3 #[] w fun e w' => e = .returned (.bool true) ∧ Below w.heap.size w w' := by
  have HS := Lib.hid hspec
  have HP := Lib.hid himpl
  clear hspec himpl
  go_enter Try.func3, Try.ntmps3
  go_wp2_with fail
  refine (HS.out _).mono ?_
  rintro e w1 ⟨A0, n0, c0, H0, m0, d0, rs0, rfl, hO, hLL, hb⟩
  obtain ⟨HL0, Hl0, hn0, hm0, Ht0, Hr0⟩ := dk_len hO hLL hnL hsm
  have hba : Below w1.heap.size w1 (w1.alloc (.cells #[.int .i64 P, .slice A0 n0 c0, .int .i64 G, .slice H0 m0 d0] 29)) := (Below.refl _ w1).alloc (Nat.le_refl _) _
  have Z0 := Lib.hid (Box.new w1 29 #[.int .i64 P, .slice A0 n0 c0, .int .i64 G, .slice H0 m0 d0])
  have I0 := Lib.hid (hO.ints.below hba)
  have HB0 := Lib.hid (hb.trans (hba.mono hb.size))
  have E0 := Lib.hid hLL
  clear hO hLL hb hba
  go_wp2_with fail
  generalize hW1 : w1.alloc (.cells #[.int .i64 P, .slice A0 n0 c0, .int .i64 G, .slice H0 m0 d0] 29) = W1 at *
  clear hW1
  generalize w1.heap.size = b0 at *
  have hz0 := Z0.out.lt
  refine (HP.out _).mono ?_
  rintro e w2 ⟨A, n, c, H, m, d, rs, rfl, hO, hLL, hb⟩
  obtain ⟨HLn, Hl, hn, hm, Ht, Hr⟩ := dk_len hO hLL hnL hsm
  have hba : Below w2.heap.size w2 (w2.alloc (.cells #[.int .i64 P, .slice A n c, .int .i64 G, .slice H m d] 29)) := (Below.refl _ w2).alloc (Nat.le_refl _) _
  have U0 := Lib.hid (Box.new w2 29 #[.int .i64 P, .slice A n c, .int .i64 G, .slice H m d])
  have O0 := Lib.hid (hO.below hba)
  have HC0 := Lib.hid (hb.trans (hba.mono hb.size))
  have E1 : Hid (LLof rs = LLof rs0) := by unfold Hid; rw [hLL, E0.out]
  have Z1 := Lib.hid (Z0.out.below HC0.out hz0)
  clear hO hLL hb hba
  obtain ⟨x0, x1, x2, x3⟩ := Z1.out.four
  obtain ⟨y0, y1, y2, y3⟩ := U0.out.four
  go_wp2_with fail
  generalize hW2 : w2.alloc (.cells #[.int .i64 P, .slice A n c, .int .i64 G, .slice H m d] 29) = W2 at *
  clear hW2
  generalize w2.heap.size = b1 at *
  have hq : n0 = n := by rw [← HL0.out, ← HLn.out]
  subst hq
  have hq2 : m0 = m := by rw [← Hl0.out, ← Hl.out, ← LL_len, ← LL_len, E1.out]
  subst hq2
  refine (eqDesk_same A A0 H H0 n0 c c0 m0 d d0 P G L rs rs0 _ HLn.out hn Hl.out Hl0.out hm Hr.out Hr0.out O0.out.ints (I0.out.below HC0.out) E1.out).mono ?_
  rintro e w3 ⟨rfl, hb⟩
  have O1 := Lib.hid (O0.out.below hb)
  have U1 := Lib.hid (U0.out.below hb U0.out.lt)
  have HC1 := Lib.hid (HC0.out.trans (hb.mono HC0.out.size))
  clear hb x0 x1 x2 x3 y0 y1 y2 y3 O0 U0 HC0 Z1
  obtain ⟨y0, y1, y2, y3⟩ := U1.out.four
  go_wp2_with fail
  refine (markDesk_calls W1.heap.size A H n0 c m0 d P G L rs 1 _ O1.out HC1.out.size hn hm Ht.out (by omega) (by omega)).mono ?_
  rintro e w4 ⟨rfl, hO, hb, hk⟩
  have U2 := Lib.hid (U1.out.of_block (hk _ U1.out.lt (fun h => by have := O1.out.1; rw [h] at this; exact this.ne_box U1.out (by decide) rfl) (fun r hr h => by have := O1.out.2.1.2.1 r hr; rw [h] at this; exact this.ne_box U1.out (by decide) rfl)))
  have O2 := Lib.hid hO
  have HC2 := Lib.hid (HC1.out.trans hb)
  clear hO hb hk y0 y1 y2 y3 U1 O1 HC1
  obtain ⟨y0, y1, y2, y3⟩ := U2.out.four
  have hp1 : ¬ (1 + (n0 : Int) + totN rs : Int) < 0 := by omega
  go_wp2_with fail
  refine (heldDesk_calls A H n0 c m0 d P G rs 1 _ Hl.out O2.out.ints hn hm Ht.out (by omega) (by omega)).mono ?_
  rintro e w5 ⟨rfl, hb⟩
  have O3 := Lib.hid (O2.out.below hb)
  have U3 := Lib.hid (U2.out.below hb U2.out.lt)
  have HC3 := Lib.hid (HC2.out.trans (hb.mono HC2.out.size))
  clear hb y0 y1 y2 y3 U2 O2 HC2
  go_wp2_with fail
  refine (HP.out _).mono ?_
  rintro e w6 ⟨A6, n6, c6, H6, m6, d6, rs6, rfl, hO, hLL, hb⟩
  obtain ⟨HL6, Hl6, hn6, hm6, Ht6, Hr6⟩ := dk_len hO hLL hnL hsm
  have hba : Below w6.heap.size w6 (w6.alloc (.cells #[.int .i64 P, .slice A6 n6 c6, .int .i64 G, .slice H6 m6 d6] 29)) := (Below.refl _ w6).alloc (Nat.le_refl _) _
  have K4 := Lib.hid (Box.new w6 29 #[.int .i64 P, .slice A6 n6 c6, .int .i64 G, .slice H6 m6 d6])
  have I6 := Lib.hid (hO.ints.below hba)
  have E6 : Hid (LLof rs6 = LLof rs0) := by unfold Hid; rw [hLL, E0.out]
  have hbb := hb.trans (hba.mono hb.size)
  have O4 := Lib.hid (O3.out.below hbb)
  have U4 := Lib.hid (U3.out.below hbb U3.out.lt)
  have HC4 := Lib.hid (HC3.out.trans (hbb.mono HC3.out.size))
  have Z4 := Lib.hid (Z0.out.below HC4.out hz0)
  clear hO hLL hb hba hbb U3 O3 HC3
  obtain ⟨x0, x1, x2, x3⟩ := Z4.out.four
  obtain ⟨k0, k1, k2, k3⟩ := K4.out.four
  go_wp2_with fail
  generalize hW6 : w6.alloc (.cells #[.int .i64 P, .slice A6 n6 c6, .int .i64 G, .slice H6 m6 d6] 29) = W6 at *
  clear hW6
  generalize w6.heap.size = b6 at *
  have hq : n6 = n0 := by rw [← HL6.out, ← HL0.out]
  subst hq
  have hq2 : m6 = m0 := by rw [← Hl6.out, ← Hl0.out, ← LL_len, ← LL_len, E6.out]
  subst hq2
  refine (eqDesk_same A6 A0 H6 H0 n6 c6 c0 m6 d6 d0 P G L rs6 rs0 _ HL6.out hn Hl6.out Hl0.out hm Hr6.out Hr0.out I6.out (I0.out.below HC4.out) E6.out).mono ?_
  rintro e w7 ⟨rfl, hb⟩
  have O5 := Lib.hid (O4.out.below hb)
  have U5 := Lib.hid (U4.out.below hb U4.out.lt)
  have HC5 := Lib.hid (HC4.out.trans (hb.mono HC4.out.size))
  clear hb x0 x1 x2 x3 k0 k1 k2 k3 O4 U4 HC4 Z4 K4
  obtain ⟨y0, y1, y2, y3⟩ := U5.out.four
  go_wp2_with fail
  refine (heldDesk_calls A H n6 c m6 d P G rs 1 _ Hl.out O5.out.ints hn hm Ht.out (by omega) (by omega)).mono ?_
  rintro e w8 ⟨rfl, hb⟩
  have HC6 := Lib.hid (HC5.out.trans (hb.mono HC5.out.size))
  clear hb y0 y1 y2 y3 U5 O5 HC5
  go_wp2
  go_ret
  exact ⟨rfl, HB0.out.trans (HC6.out.mono HB0.out.size)⟩

theorem walk (w : World) : Calls Try.prog 3 #[] w fun e w' => e = .returned (.bool true) ∧ Below w.heap.size w w' :=
  core 3 2 [0, 0, 0] [[0, 1, 2], [], []] (by simp) (by simp) specNewDesk_ret implNewDesk_ret w

set_option maxRecDepth 100000 in
theorem lifted (os : Os) (started : os.Started) (H : Type) (enc : TypeId × Value → H) :
    ReturnsInHanded {} Try.checked os 3 .any (Rows.fnExactNewDeskSpec.pre6 enc Try.prog Try.f3 Rows.fnExactNewDeskRow.domain false) (Rows.fnExactNewDeskSpec.post enc Try.prog Try.f3 false true false false) := by
  refine returnsInHanded_of_change (C := Try.checked) own started (by kernel_rfl) Try.func3
    (ChangeSpec.witness6 (enc := enc) (C := Try.checked) false ⟨#[], #[], []⟩ 8 (by kernel_rfl) (by kernel_rfl) (by kernel_rfl) (by kernel_rfl)) ?_
  intro W base args ds gs before hval0 hW hcnd _
  have hval : ∀ (j : Nat) t v, Try.f3.params[j]? = some t → args[j]? = some v → Value.okWide Try.prog W .any base t v := hval0
  have hW' := hW
  obtain ⟨p, q, hA0, hV, rfl, hfz, hnd⟩ := hW
  have hA : DataW.TrodAll enc Try.prog W 0 (fun _ => true) true Try.f3.params.toList args.toList ds p := hA0
  rw [Try.params3] at hA hval
  obtain ⟨hargs, rfl, rfl⟩ := trodAll_nil hA
  obtain rfl : args = #[] := by cases args; simp_all
  obtain ⟨rfl, rfl⟩ := trodVars_none hV
  clear hA0 hval0
  refine (walk  W ).mono fun e W' ⟨he, bel⟩ => ?_
  subst he
  exact ⟨_, rfl, _, _, _, [], _, [], hW', trodAll_mk1 (shut_bool Try.underlying4 _), trodAll_mk0, rfl, bel.frame _, fun h => by cases h⟩

theorem over : Rows.fnExactNewDeskRow.holds Try.pinned (OpenSpec.ofChange Rows.fnExactNewDeskSpec) :=
  OpenClaim.holds_of_wide 3 Try.f3 rfl rfl rfl rfl rfl rfl rfl ⟨rfl, rfl, rfl, rfl, rfl⟩ rfl rfl rfl rfl rfl (by kernel_rfl) Try.func3 (by kernel_rfl)
    (of_decide_eq_true (by kernel_rfl)) (by unfold Func.isWrapper; first | (rw [if_pos (by decide +kernel)]; kernel_rfl) | (rw [if_neg (by decide +kernel)]; exact ⟨rfl, rfl⟩))
    (fun os started H enc _ => lifted os started H enc)

theorem proved : Rows.FnExactNewDeskSaid := over
#print axioms proved
end Go.Proofs.Ytepjdoonopbijaa.fnExactNewDesk
