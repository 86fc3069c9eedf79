/- 'RingsText' of the program answers at every argument as the specification's model, and leaves its arguments as they were. Conditions: none. -/
import Derived.Test.YtakcacppkgfcfaaOpen
import Derived.Test.YtakcacppkgfcfaaOpen
import Derived.Test.YtakcacppkgfcfaaRgText
import Derived.Deep.RegionHeld3
namespace Go.Proofs.Ytakcacppkgfcfaa.fnExactRingsText
open Go.ChangeShapes Go.WideShapes Go.ChangeAt Go.RowKit Go.Joins
open Go.ChangeMaps (open_string)
set_option linter.unusedVariables false

theorem szI_no' {n : Nat} {l : Int} (h : l < n) : szI n l = -1 := by unfold szI; omega
theorem szI_yes' {n : Nat} {l : Int} (h : ¬ l < n) : szI n l = l - n := by unfold szI; omega

set_option maxRecDepth 100000 in
set_option maxHeartbeats 4000000 in
theorem core (A0 : Option Addr) (n0 c0 : Nat) (L0 : List Int) (R0 : ByteArray) (R1 : Int) (w : World) (hL0 : L0.length = n0) (hn0 : n0 ≤ 1048576) (hI0 : Ints w A0 L0)
    (hspec : ∀ g0 W, Ints W (some ⟨g0, 0, none⟩) L0 → Calls Try.prog 5 #[.slice (some ⟨g0, 0, none⟩) n0 n0] W fun e w' => e = .returned (.tuple #[.string R0, .int .i64 R1]) ∧ Below W.heap.size W w')
    (himpl : ∀ g0 W, Ints W (some ⟨g0, 0, none⟩) L0 → Calls Try.prog 7 #[.slice (some ⟨g0, 0, none⟩) n0 n0] W fun e w' => e = .returned (.tuple #[.string R0, .int .i64 R1]) ∧ Below W.heap.size W w') :
    Calls Try.prog 3 #[.slice A0 n0 c0] w fun e w' => e = .returned (.bool true) ∧ Below w.heap.size w w' := by
  have HS := Lib.hid hspec
  have HP := Lib.hid himpl
  have HL0 := Lib.hid hL0
  have I0_0 := Lib.hid hI0
  have HB0 := Lib.hid (Below.refl w.heap.size w)
  clear hspec himpl hL0 hI0
  go_enter Try.func3, Try.ntmps3
  go_wp2_with fail
  refine (toInt64S_calls A0 n0 c0 L0 _ HL0.out hn0 I0_0.out).mono ?_
  rintro e w1 ⟨g0, rfl, hg, hr, hb⟩
  have I0_1 := Lib.hid (I0_0.out.below hb)
  have HB1 := Lib.hid (HB0.out.trans ((hb).mono HB0.out.size))
  clear I0_0 HB0
  have Q0_0 := Lib.hid (hr.ints)
  clear hb hg hr
  go_wp2_with fail
  refine (HS.out g0 _ Q0_0.out).mono ?_
  rintro e w2 ⟨rfl, hb⟩
  have I0_2 := Lib.hid (I0_1.out.below hb)
  have HB2 := Lib.hid (HB1.out.trans ((hb).mono HB1.out.size))
  clear I0_1 Q0_0 HB1
  clear hb
  go_wp2_with fail
  refine (toInt64S_calls A0 n0 c0 L0 _ HL0.out hn0 I0_2.out).mono ?_
  rintro e w3 ⟨g0, rfl, hg, hr, hb⟩
  have I0_3 := Lib.hid (I0_2.out.below hb)
  have HB3 := Lib.hid (HB2.out.trans ((hb).mono HB2.out.size))
  clear I0_2 HB2
  have Q0_0 := Lib.hid (hr.ints)
  clear hb hg hr
  go_wp2_with fail
  refine (HP.out g0 _ Q0_0.out).mono ?_
  rintro e w4 ⟨rfl, hb⟩
  have I0_4 := Lib.hid (I0_3.out.below hb)
  have Q0_1 := Lib.hid (Q0_0.out.below hb)
  have HB4 := Lib.hid (HB3.out.trans ((hb).mono HB3.out.size))
  clear I0_3 Q0_0 HB3
  clear hb
  go_wp2_with fail
  refine (toInt64S_calls A0 n0 c0 L0 _ HL0.out hn0 I0_4.out).mono ?_
  rintro e w5 ⟨gr, rfl, hg, hr, hb⟩
  have I0_5 := Lib.hid (I0_4.out.below hb)
  have Q0_2 := Lib.hid (Q0_1.out.below hb)
  have HB5 := Lib.hid (HB4.out.trans ((hb).mono HB4.out.size))
  clear I0_4 Q0_1 HB4
  go_wp2_with fail
  refine (eqInt64S_calls (some ⟨g0, 0, none⟩) (some ⟨gr, 0, none⟩) n0 n0 n0 n0 L0 L0 _ HL0.out HL0.out hn0 hn0 Q0_2.out hr.ints).mono ?_
  rintro e w6 ⟨rfl, mq, rfl⟩
  clear hb hg hr
  have I0_6 := Lib.hid (I0_5.out.below (belowDraws (Below.refl _ _) mq))
  have Q0_3 := Lib.hid (Q0_2.out.below (belowDraws (Below.refl _ _) mq))
  have HB6 := Lib.hid (HB5.out.trans (((belowDraws (Below.refl _ _) mq)).mono HB5.out.size))
  clear I0_5 Q0_2 HB5
  go_wp2
  go_ret
  exact ⟨rfl, by first | exact HB6.out | (rw [← World.drewN_drewN]; exact HB6.out)⟩

theorem walk (A0 : Option Addr) (n0 c0 : Nat) (L0 : List Int) (w : World) (hA0 : ArgInts w A0 n0 L0) :
    Calls Try.prog 3 #[.slice A0 n0 c0] w fun e w' => e = .returned (.bool true) ∧ Below w.heap.size w w' := by
  obtain ⟨hL0, hm0, hI0⟩ := hA0
  by_cases hn0 : (1048576 : Int) < n0
  · go_enter Try.func3, Try.ntmps3
    go_wp2
    go_ret
    exact ⟨rfl, Below.refl _ _⟩
  exact core A0 n0 c0 L0 (rtV L0) (rtE L0) w hL0 (by omega) hI0
    (fun g0 W hW0 => specRingsText_calls (some ⟨g0, 0, none⟩) n0 n0 L0 W hL0 (by omega) hW0)
    (fun g0 W hW0 => implRingsText_calls (some ⟨g0, 0, none⟩) n0 n0 L0 W hL0 (by omega) hW0)

set_option maxRecDepth 100000 in
theorem lifted (os : Os) (started : os.Started) (H : Type) (enc : TypeId × Value → H) :
    ReturnsInHanded {} Try.checked os 3 .any (Rows.fnExactRingsTextSpec.pre6 enc Try.prog Try.f3 Rows.fnExactRingsTextRow.domain false) (Rows.fnExactRingsTextSpec.post enc Try.prog Try.f3 false true false false) := by
  refine returnsInHanded_of_change (C := Try.checked) own started (by kernel_rfl) Try.func3
    (ChangeSpec.witness6 (enc := enc) (C := Try.checked) false ⟨#[], #[.slice none 0 0], []⟩ 8 (by kernel_rfl) (by kernel_rfl) (by kernel_rfl) (by kernel_rfl)) ?_
  intro W base args ds gs before hval0 hW hcnd _
  have hval : ∀ (j : Nat) t v, Try.f3.params[j]? = some t → args[j]? = some v → Value.okWide Try.prog W .any base t v := hval0
  have hW' := hW
  obtain ⟨p, q, hA0, hV, rfl, hfz, hnd⟩ := hW
  have hA : DataW.TrodAll enc Try.prog W 0 (fun _ => true) true Try.f3.params.toList args.toList ds p := hA0
  rw [Try.params3] at hA hval
  obtain ⟨v0, vs0, d0, ds0, p0, q0, hargs, rfl, rfl, h0, r0⟩ := trodAll_cons hA
  obtain ⟨rfl, rfl, rfl⟩ := trodAll_nil r0
  obtain rfl : args = #[v0] := by cases args; simp_all
  obtain ⟨rfl, rfl⟩ := trodVars_none hV
  have lt0 : ∀ x ∈ p0, x.block < W.heap.size := by obtain ⟨m, hm⟩ := h0; exact DataW.trod_lt m _ _ _ hm
  have k0 := h0
  obtain ⟨fu0, hf0⟩ := h0
  obtain ⟨A0, n0, c0, rfl⟩ := okWide_slice Try.underlying22 (hval 0 22 v0 rfl rfl)
  obtain ⟨A'0, n'0, c'0, L0, he0, hAI0⟩ := open_slice_ints (by simpa [Value.cells] using hf0)
  injection he0 with e1 e2 e3; subst e1 e2 e3
  clear hA0 hval0
  refine (walk A0 n0 c0 L0 W hAI0).mono fun e W' ⟨he, bel⟩ => ?_
  subst he
  exact ⟨_, rfl, _, _, _, [], _, [], hW', trodAll_mk1 (shut_bool Try.underlying4 _), (trodAll_cons_mk (Below.trod laidOut (by kernel_rfl) (of_decide_eq_true (by kernel_rfl)) k0 bel lt0) trodAll_mk0), rfl, bel.frame _, fun h => by cases h⟩

theorem over : Rows.fnExactRingsTextRow.holds Try.pinned (OpenSpec.ofChange Rows.fnExactRingsTextSpec) :=
  OpenClaim.holds_of_wide 3 Try.f3 rfl rfl rfl rfl rfl rfl rfl ⟨rfl, rfl, rfl, rfl, rfl⟩ rfl rfl rfl rfl rfl (by kernel_rfl) Try.func3 (by kernel_rfl)
    (of_decide_eq_true (by kernel_rfl)) (by unfold Func.isWrapper; first | (rw [if_pos (by decide +kernel)]; kernel_rfl) | (rw [if_neg (by decide +kernel)]; exact ⟨rfl, rfl⟩))
    (fun os started H enc _ => lifted os started H enc)

theorem proved : Rows.FnExactRingsTextSaid := over
#print axioms proved
end Go.Proofs.Ytakcacppkgfcfaa.fnExactRingsText
