/- 'CountWordWays' of the program answers at every argument as the specification's model, and leaves its arguments as they were. Conditions: none. -/
import Derived.Test.YtnfjdggiaodhmaaOpen
import Derived.Test.YtnfjdggiaodhmaaOpen
import Derived.Test.YtnfjdggiaodhmaaWDist
import Derived.Deep.RegionHeld3
namespace Go.Proofs.Ytnfjdggiaodhmaa.fnExactCountWordWays
open Go.ChangeShapes Go.WideShapes Go.ChangeAt Go.RowKit Go.Joins
open Go.ChangeMaps (open_string)
set_option linter.unusedVariables false

theorem szI_no' {n : Nat} {l : Int} (h : l < n) : szI n l = -1 := by unfold szI; omega
theorem szI_yes' {n : Nat} {l : Int} (h : ¬ l < n) : szI n l = l - n := by unfold szI; omega

set_option maxRecDepth 100000 in
set_option maxHeartbeats 4000000 in
theorem core (a0 : Int) (A1 : Option Addr) (n1 c1 : Nat) (L1 : List Int) (A2 : Option Addr) (n2 c2 : Nat) (L2 : List Int) (R0 : Int) (R1 : Int) (w : World) (hL1 : L1.length = n1) (hn1 : n1 ≤ 1048576) (hI1 : Ints w A1 L1) (hL2 : L2.length = n2) (hn2 : n2 ≤ 1048576) (hI2 : Ints w A2 L2)
    (hspec : ∀ g1 g2 W, Ints W (some ⟨g1, 0, none⟩) L1 → Ints W (some ⟨g2, 0, none⟩) L2 → Calls Try.prog 14 #[.int .i64 a0, .slice (some ⟨g1, 0, none⟩) n1 n1, .slice (some ⟨g2, 0, none⟩) n2 n2] W fun e w' => e = .returned (.tuple #[.int .i64 R0, .int .i64 R1]) ∧ Below W.heap.size W w')
    (himpl : ∀ g1 g2 W, Ints W (some ⟨g1, 0, none⟩) L1 → Ints W (some ⟨g2, 0, none⟩) L2 → Calls Try.prog 15 #[.int .i64 a0, .slice (some ⟨g1, 0, none⟩) n1 n1, .slice (some ⟨g2, 0, none⟩) n2 n2] W fun e w' => e = .returned (.tuple #[.int .i64 R0, .int .i64 R1]) ∧ Below W.heap.size W w') :
    Calls Try.prog 5 #[.int .i64 a0, .slice A1 n1 c1, .slice A2 n2 c2] w fun e w' => e = .returned (.bool true) ∧ Below w.heap.size w w' := by
  have HS := Lib.hid hspec
  have HP := Lib.hid himpl
  have HL1 := Lib.hid hL1
  have I1_0 := Lib.hid hI1
  have HL2 := Lib.hid hL2
  have I2_0 := Lib.hid hI2
  have HB0 := Lib.hid (Below.refl w.heap.size w)
  clear hspec himpl hL1 hI1 hL2 hI2
  go_enter Try.func5, Try.ntmps5
  go_wp2_with fail
  refine (toInt64S_calls A1 n1 c1 L1 _ HL1.out hn1 I1_0.out).mono ?_
  rintro e w1 ⟨g1, rfl, hg, hr, hb⟩
  have I1_1 := Lib.hid (I1_0.out.below hb)
  have I2_1 := Lib.hid (I2_0.out.below hb)
  have HB1 := Lib.hid (HB0.out.trans ((hb).mono HB0.out.size))
  clear I1_0 I2_0 HB0
  have Q1_0 := Lib.hid (hr.ints)
  clear hb hg hr
  go_wp2_with fail
  refine (toInt64S_calls A2 n2 c2 L2 _ HL2.out hn2 I2_1.out).mono ?_
  rintro e w1 ⟨g2, rfl, hg, hr, hb⟩
  have I1_2 := Lib.hid (I1_1.out.below hb)
  have I2_2 := Lib.hid (I2_1.out.below hb)
  have Q1_1 := Lib.hid (Q1_0.out.below hb)
  have HB2 := Lib.hid (HB1.out.trans ((hb).mono HB1.out.size))
  clear I1_1 I2_1 Q1_0 HB1
  have Q2_0 := Lib.hid (hr.ints)
  clear hb hg hr
  go_wp2_with fail
  refine (HS.out g1 g2 _ Q1_1.out Q2_0.out).mono ?_
  rintro e w2 ⟨rfl, hb⟩
  have I1_3 := Lib.hid (I1_2.out.below hb)
  have I2_3 := Lib.hid (I2_2.out.below hb)
  have HB3 := Lib.hid (HB2.out.trans ((hb).mono HB2.out.size))
  clear I1_2 I2_2 Q1_1 Q2_0 HB2
  clear hb
  go_wp2_with fail
  refine (toInt64S_calls A1 n1 c1 L1 _ HL1.out hn1 I1_3.out).mono ?_
  rintro e w3 ⟨g1, rfl, hg, hr, hb⟩
  have I1_4 := Lib.hid (I1_3.out.below hb)
  have I2_4 := Lib.hid (I2_3.out.below hb)
  have HB4 := Lib.hid (HB3.out.trans ((hb).mono HB3.out.size))
  clear I1_3 I2_3 HB3
  have Q1_0 := Lib.hid (hr.ints)
  clear hb hg hr
  go_wp2_with fail
  refine (toInt64S_calls A2 n2 c2 L2 _ HL2.out hn2 I2_4.out).mono ?_
  rintro e w3 ⟨g2, rfl, hg, hr, hb⟩
  have I1_5 := Lib.hid (I1_4.out.below hb)
  have I2_5 := Lib.hid (I2_4.out.below hb)
  have Q1_1 := Lib.hid (Q1_0.out.below hb)
  have HB5 := Lib.hid (HB4.out.trans ((hb).mono HB4.out.size))
  clear I1_4 I2_4 Q1_0 HB4
  have Q2_0 := Lib.hid (hr.ints)
  clear hb hg hr
  go_wp2_with fail
  refine (HP.out g1 g2 _ Q1_1.out Q2_0.out).mono ?_
  rintro e w4 ⟨rfl, hb⟩
  have I1_6 := Lib.hid (I1_5.out.below hb)
  have I2_6 := Lib.hid (I2_5.out.below hb)
  have Q1_2 := Lib.hid (Q1_1.out.below hb)
  have Q2_1 := Lib.hid (Q2_0.out.below hb)
  have HB6 := Lib.hid (HB5.out.trans ((hb).mono HB5.out.size))
  clear I1_5 I2_5 Q1_1 Q2_0 HB5
  clear hb
  go_wp2_with fail
  refine (toInt64S_calls A1 n1 c1 L1 _ HL1.out hn1 I1_6.out).mono ?_
  rintro e w5 ⟨gr, rfl, hg, hr, hb⟩
  have I1_7 := Lib.hid (I1_6.out.below hb)
  have I2_7 := Lib.hid (I2_6.out.below hb)
  have Q1_3 := Lib.hid (Q1_2.out.below hb)
  have Q2_2 := Lib.hid (Q2_1.out.below hb)
  have HB7 := Lib.hid (HB6.out.trans ((hb).mono HB6.out.size))
  clear I1_6 I2_6 Q1_2 Q2_1 HB6
  go_wp2_with fail
  refine (eqInt64S_calls (some ⟨g1, 0, none⟩) (some ⟨gr, 0, none⟩) n1 n1 n1 n1 L1 L1 _ HL1.out HL1.out hn1 hn1 Q1_3.out hr.ints).mono ?_
  rintro e w6 ⟨rfl, mq, rfl⟩
  clear hb hg hr
  have I1_8 := Lib.hid (I1_7.out.below (belowDraws (Below.refl _ _) mq))
  have I2_8 := Lib.hid (I2_7.out.below (belowDraws (Below.refl _ _) mq))
  have Q1_4 := Lib.hid (Q1_3.out.below (belowDraws (Below.refl _ _) mq))
  have Q2_3 := Lib.hid (Q2_2.out.below (belowDraws (Below.refl _ _) mq))
  have HB8 := Lib.hid (HB7.out.trans (((belowDraws (Below.refl _ _) mq)).mono HB7.out.size))
  clear I1_7 I2_7 Q1_3 Q2_2 HB7
  go_wp2_with fail
  refine (toInt64S_calls A2 n2 c2 L2 _ HL2.out hn2 I2_8.out).mono ?_
  rintro e w5 ⟨gr, rfl, hg, hr, hb⟩
  have I1_9 := Lib.hid (I1_8.out.below hb)
  have I2_9 := Lib.hid (I2_8.out.below hb)
  have Q1_5 := Lib.hid (Q1_4.out.below hb)
  have Q2_4 := Lib.hid (Q2_3.out.below hb)
  have HB9 := Lib.hid (HB8.out.trans ((hb).mono HB8.out.size))
  clear I1_8 I2_8 Q1_4 Q2_3 HB8
  go_wp2_with fail
  refine (eqInt64S_calls (some ⟨g2, 0, none⟩) (some ⟨gr, 0, none⟩) n2 n2 n2 n2 L2 L2 _ HL2.out HL2.out hn2 hn2 Q2_4.out hr.ints).mono ?_
  rintro e w6 ⟨rfl, mq, rfl⟩
  clear hb hg hr
  have I1_10 := Lib.hid (I1_9.out.below (belowDraws (Below.refl _ _) mq))
  have I2_10 := Lib.hid (I2_9.out.below (belowDraws (Below.refl _ _) mq))
  have Q1_6 := Lib.hid (Q1_5.out.below (belowDraws (Below.refl _ _) mq))
  have Q2_5 := Lib.hid (Q2_4.out.below (belowDraws (Below.refl _ _) mq))
  have HB10 := Lib.hid (HB9.out.trans (((belowDraws (Below.refl _ _) mq)).mono HB9.out.size))
  clear I1_9 I2_9 Q1_5 Q2_4 HB9
  go_wp2
  go_ret
  exact ⟨rfl, by first | exact HB10.out | (rw [← World.drewN_drewN]; exact HB10.out)⟩

theorem walk (a0 : Int) (A1 : Option Addr) (n1 c1 : Nat) (L1 : List Int) (A2 : Option Addr) (n2 c2 : Nat) (L2 : List Int) (w : World) (w0 : (Lit.int .i64 a0).wf = true) (hA1 : ArgInts w A1 n1 L1) (hA2 : ArgInts w A2 n2 L2) :
    Calls Try.prog 5 #[.int .i64 a0, .slice A1 n1 c1, .slice A2 n2 c2] w fun e w' => e = .returned (.bool true) ∧ Below w.heap.size w w' := by
  obtain ⟨hL1, hm1, hI1⟩ := hA1
  obtain ⟨hL2, hm2, hI2⟩ := hA2
  by_cases hn1 : (1048576 : Int) < n1
  · go_enter Try.func5, Try.ntmps5
    go_wp2
    go_ret
    exact ⟨rfl, Below.refl _ _⟩
  by_cases hn2 : (1048576 : Int) < n2
  · go_enter Try.func5, Try.ntmps5
    go_wp2
    go_ret
    exact ⟨rfl, Below.refl _ _⟩
  exact core a0 A1 n1 c1 L1 A2 n2 c2 L2 (wwV a0 L1 L2) (wcode2 a0 L1 L2) w hL1 (by omega) hI1 hL2 (by omega) hI2
    (fun g1 g2 W hW1 hW2 => specCountWordWays_calls a0 (some ⟨g1, 0, none⟩) n1 n1 L1 (some ⟨g2, 0, none⟩) n2 n2 L2 W hL1 (by omega) hW1 hL2 (by omega) hW2 (Nat.le_refl _) (Nat.le_refl _))
    (fun g1 g2 W hW1 hW2 => implCountWordWays_calls a0 (some ⟨g1, 0, none⟩) n1 n1 L1 (some ⟨g2, 0, none⟩) n2 n2 L2 W hL1 (by omega) hW1 hL2 (by omega) hW2 (Nat.le_refl _) (Nat.le_refl _))

set_option maxRecDepth 100000 in
theorem lifted (os : Os) (started : os.Started) (H : Type) (enc : TypeId × Value → H) :
    ReturnsInHanded {} Try.checked os 5 .any (Rows.fnExactCountWordWaysSpec.pre6 enc Try.prog Try.f5 Rows.fnExactCountWordWaysRow.domain false) (Rows.fnExactCountWordWaysSpec.post enc Try.prog Try.f5 false true false false) := by
  refine returnsInHanded_of_change (C := Try.checked) own started (by kernel_rfl) Try.func5
    (ChangeSpec.witness6 (enc := enc) (C := Try.checked) false ⟨#[], #[.int .i64 0, .slice none 0 0, .slice none 0 0], []⟩ 8 (by kernel_rfl) (by kernel_rfl) (by kernel_rfl) (by kernel_rfl)) ?_
  intro W base args ds gs before hval0 hW hcnd _
  have hval : ∀ (j : Nat) t v, Try.f5.params[j]? = some t → args[j]? = some v → Value.okWide Try.prog W .any base t v := hval0
  have hW' := hW
  obtain ⟨p, q, hA0, hV, rfl, hfz, hnd⟩ := hW
  have hA : DataW.TrodAll enc Try.prog W 0 (fun _ => true) true Try.f5.params.toList args.toList ds p := hA0
  rw [Try.params5] at hA hval
  obtain ⟨v0, vs0, d0, ds0, p0, q0, hargs, rfl, rfl, h0, r0⟩ := trodAll_cons hA
  obtain ⟨v1, vs1, d1, ds1, p1, q1, rfl, rfl, rfl, h1, r1⟩ := trodAll_cons r0
  obtain ⟨v2, vs2, d2, ds2, p2, q2, rfl, rfl, rfl, h2, r2⟩ := trodAll_cons r1
  obtain ⟨rfl, rfl, rfl⟩ := trodAll_nil r2
  obtain rfl : args = #[v0, v1, v2] := by cases args; simp_all
  obtain ⟨rfl, rfl⟩ := trodVars_none hV
  have lt0 : ∀ x ∈ p0, x.block < W.heap.size := by obtain ⟨m, hm⟩ := h0; exact DataW.trod_lt m _ _ _ hm
  have k0 := h0
  obtain ⟨a0, rfl, rfl, rfl, w0⟩ := open_int Try.underlying2 (hval 0 2 v0 rfl rfl) h0
  have lt1 : ∀ x ∈ p1, x.block < W.heap.size := by obtain ⟨m, hm⟩ := h1; exact DataW.trod_lt m _ _ _ hm
  have k1 := h1
  obtain ⟨fu1, hf1⟩ := h1
  obtain ⟨A1, n1, c1, rfl⟩ := okWide_slice Try.underlying22 (hval 1 22 v1 rfl rfl)
  obtain ⟨A'1, n'1, c'1, L1, he1, hAI1⟩ := open_slice_ints (by simpa [Value.cells] using hf1)
  injection he1 with e1 e2 e3; subst e1 e2 e3
  have lt2 : ∀ x ∈ p2, x.block < W.heap.size := by obtain ⟨m, hm⟩ := h2; exact DataW.trod_lt m _ _ _ hm
  have k2 := h2
  obtain ⟨fu2, hf2⟩ := h2
  obtain ⟨A2, n2, c2, rfl⟩ := okWide_slice Try.underlying22 (hval 2 22 v2 rfl rfl)
  obtain ⟨A'2, n'2, c'2, L2, he2, hAI2⟩ := open_slice_ints (by simpa [Value.cells] using hf2)
  injection he2 with e1 e2 e3; subst e1 e2 e3
  clear hA0 hval0
  refine (walk a0 A1 n1 c1 L1 A2 n2 c2 L2 W w0 hAI1 hAI2).mono fun e W' ⟨he, bel⟩ => ?_
  subst he
  exact ⟨_, rfl, _, _, _, [], _, [], hW', trodAll_mk1 (shut_bool Try.underlying4 _), (trodAll_cons_mk (Below.trod laidOut (by kernel_rfl) (of_decide_eq_true (by kernel_rfl)) k0 bel lt0) (trodAll_cons_mk (Below.trod laidOut (by kernel_rfl) (of_decide_eq_true (by kernel_rfl)) k1 bel lt1) (trodAll_cons_mk (Below.trod laidOut (by kernel_rfl) (of_decide_eq_true (by kernel_rfl)) k2 bel lt2) trodAll_mk0))), rfl, bel.frame _, fun h => by cases h⟩

theorem over : Rows.fnExactCountWordWaysRow.holds Try.pinned (OpenSpec.ofChange Rows.fnExactCountWordWaysSpec) :=
  OpenClaim.holds_of_wide 5 Try.f5 rfl rfl rfl rfl rfl rfl rfl ⟨rfl, rfl, rfl, rfl, rfl⟩ rfl rfl rfl rfl rfl (by kernel_rfl) Try.func5 (by kernel_rfl)
    (of_decide_eq_true (by kernel_rfl)) (by unfold Func.isWrapper; first | (rw [if_pos (by decide +kernel)]; kernel_rfl) | (rw [if_neg (by decide +kernel)]; exact ⟨rfl, rfl⟩))
    (fun os started H enc _ => lifted os started H enc)

theorem proved : Rows.FnExactCountWordWaysSaid := over
#print axioms proved
end Go.Proofs.Ytnfjdggiaodhmaa.fnExactCountWordWays
