/- 'TableByRules' of the program answers at every argument as the specification's model, and its answer is its own memory. Conditions: none. -/
import Derived.Test.YtbcgoboeeigcgaaOpen
import Derived.Test.YtbcgoboeeigcgaaOpenRu
import Derived.Test.YtbcgoboeeigcgaaSSc
import Derived.Test.YtbcgoboeeigcgaaRuTb
import Derived.Deep.RegionHeld3
namespace Go.Proofs.Ytbcgoboeeigcgaa.fnExactTableByRules
open Go.ChangeShapes Go.WideShapes Go.ChangeAt Go.RowKit Go.Joins
open Go.ChangeMaps (open_string)
set_option linter.unusedVariables false

set_option maxRecDepth 100000 in
set_option maxHeartbeats 8000000 in
theorem core (r : Nat → Int) (n : Int) (E : Int) (LL : List (List Int)) (w : World) (hsm : (LL.map List.length).sum + LL.length ≤ 1048576)
    (hspec : ∀ W, Calls Try.prog 6 #[.agg (z9 r), .int .i64 n] W (RetSSr W LL E))
    (himpl : ∀ W, Calls Try.prog 8 #[.agg (z9 r), .int .i64 n] W (RetSS W LL E)) :
    Calls Try.prog 3 #[.agg (z9 r), .int .i64 n] w fun e w' => e = .returned (.bool true) ∧ Below w.heap.size w w' := by
  have HS := Lib.hid hspec
  have HP := Lib.hid himpl
  have X0 := Lib.hid (Box.new w 23 (z9 r))
  have HB0 := Lib.hid ((Below.refl w.heap.size w).alloc (Nat.le_refl _) (.cells (z9 r) 23))
  clear hspec himpl
  unfold z9
  go_enter Try.func3, Try.ntmps3
  go_wp2_with fail
  refine (toRules_calls r _).mono ?_
  rintro e w1 ⟨rfl, hb⟩
  have X1 := Lib.hid (X0.out.below hb X0.out.lt)
  have HB1 := Lib.hid (HB0.out.trans ((hb).mono HB0.out.size))
  clear X0 HB0
  clear hb
  go_wp2_with fail
  refine (HS.out _).mono ?_
  rintro e w3 ⟨A0, n0, c0, rs0, rfl, hOI, hl0, hL0, ht0, hb⟩
  have X2 := Lib.hid (X1.out.below hb X1.out.lt)
  have HB2 := Lib.hid (HB1.out.trans ((hb).mono HB1.out.size))
  clear X1 HB1
  have OI := Lib.hid hOI
  rw [hL0] at ht0
  have hn0 : n0 ≤ 1048576 := by rw [← hl0, ← LL_len rs0, hL0]; omega
  have hr0 : Hid (∀ r ∈ rs0, r.n ≤ 1048576) := rows_small (by rw [ht0]; omega)
  have Hl0 := Lib.hid hl0
  have HL0 := Lib.hid hL0
  have HO0 := Lib.hid (Below.refl w3.heap.size w3)
  clear hOI hL0 hl0 ht0 hb
  obtain ⟨x0, x1, x2, x3, x4, x5, x6, x7, x8⟩ := X2.out.nine
  go_wp2_with fail
  refine (toRules_calls r _).mono ?_
  rintro e w1 ⟨rfl, hb⟩
  have X3 := Lib.hid (X2.out.below hb X2.out.lt)
  have HB3 := Lib.hid (HB2.out.trans ((hb).mono HB2.out.size))
  clear X2 HB2
  have HO1 := Lib.hid (HO0.out.trans ((hb).mono HO0.out.size))
  clear HO0
  clear hb x0 x1 x2 x3 x4 x5 x6 x7 x8
  have hsQ := HO1.out.size
  have hsW := HB3.out.size
  have hXQ := X3.out.lt
  go_wp2_with fail
  refine (HP.out _).mono ?_
  rintro e w6 ⟨A9, n9, c9, rs9, rfl, hQ, hL9, hb⟩
  have X4 := Lib.hid (X3.out.below hb X3.out.lt)
  have HB4 := Lib.hid (HB3.out.trans ((hb).mono HB3.out.size))
  clear X3 HB3
  have HO2 := Lib.hid (HO1.out.trans ((hb).mono HO1.out.size))
  clear HO1
  have hl9 := hQ.len
  have ht9 := totN_LL hQ
  rw [hL9] at ht9
  have hn9 : n9 ≤ 1048576 := by rw [← hl9, ← LL_len rs9, hL9]; omega
  have ht9b : totN rs9 ≤ 1048576 := by rw [ht9]; omega
  have hr9 : Hid (∀ r ∈ rs9, r.n ≤ 1048576) := rows_small ht9b
  have Hl9 := Lib.hid hl9
  have HL9 := Lib.hid hL9
  have Q0 := Lib.hid hQ
  have HE9 : Hid (decide (LLof rs9 = LLof rs0) = true) := by unfold Hid; rw [HL9.out, HL0.out]; simp
  clear hb hQ hl9 hL9 ht9
  have hOI := Lib.hid (OI.out.below HO2.out)
  go_wp2_with fail
  refine (eqInt64SS_calls A9 A0 n9 c9 n0 c0 rs9 rs0 _ Hl9.out Hl0.out hn9 hn0 hr9.out hr0.out Q0.out.ints hOI.out).mono ?_
  rintro e w7 ⟨rfl, mq, rfl⟩
  rw [HE9.out]
  clear hOI
  have X5 := Lib.hid (X4.out.below (belowDraws (Below.refl _ _) mq) X4.out.lt)
  have Q1 := Lib.hid (Q0.out.below (belowDraws (Below.refl _ _) mq))
  have HB5 := Lib.hid (HB4.out.trans (((belowDraws (Below.refl _ _) mq)).mono HB4.out.size))
  clear X4 Q0 HB4
  have HO3 := Lib.hid (HO2.out.trans (((belowDraws (Below.refl _ _) mq)).mono HO2.out.size))
  clear HO2
  go_wp2_with fail
  refine (markInt64SS_calls _ A9 n9 c9 rs9 1 _ Q1.out hn9 ht9b (by omega) (by omega)).mono ?_
  rintro e w12 ⟨rfl, hO, hg⟩
  have Q2 := Lib.hid hO
  have X6 := Lib.hid (X5.out.below hg hXQ)
  have HB6 := Lib.hid (HB5.out.trans (hg.mono hsW))
  have HO4 := Lib.hid (HO3.out.trans (hg.mono hsQ))
  clear Q1 X5 HB5 HO3 hO hg
  go_wp2_with fail
  refine (heldInt64SS_calls A9 n9 c9 rs9 1 _ Hl9.out Q2.out.ints hn9 ht9b (by omega) (by omega)).mono ?_
  rintro e w13 ⟨rfl, mq, rfl⟩
  have X7 := Lib.hid (X6.out.below (belowDraws (Below.refl _ _) mq) X6.out.lt)
  have Q3 := Lib.hid (Q2.out.below (belowDraws (Below.refl _ _) mq))
  have HB7 := Lib.hid (HB6.out.trans (((belowDraws (Below.refl _ _) mq)).mono HB6.out.size))
  clear X6 Q2 HB6
  have HO5 := Lib.hid (HO4.out.trans (((belowDraws (Below.refl _ _) mq)).mono HO4.out.size))
  clear HO4
  obtain ⟨x0, x1, x2, x3, x4, x5, x6, x7, x8⟩ := X7.out.nine
  go_wp2_with fail
  refine (toRules_calls r _).mono ?_
  rintro e w1 ⟨rfl, hb⟩
  have X8 := Lib.hid (X7.out.below hb X7.out.lt)
  have Q4 := Lib.hid (Q3.out.below hb)
  have HB8 := Lib.hid (HB7.out.trans ((hb).mono HB7.out.size))
  clear X7 Q3 HB7
  have HO6 := Lib.hid (HO5.out.trans ((hb).mono HO5.out.size))
  clear HO5
  clear hb x0 x1 x2 x3 x4 x5 x6 x7 x8
  go_wp2_with fail
  refine (HP.out _).mono ?_
  rintro e w15 ⟨A14, n14, c14, rs14, rfl, hK, hL14, hb⟩
  have X9 := Lib.hid (X8.out.below hb X8.out.lt)
  have Q5 := Lib.hid (Q4.out.below hb)
  have HB9 := Lib.hid (HB8.out.trans ((hb).mono HB8.out.size))
  clear X8 Q4 HB8
  have HO7 := Lib.hid (HO6.out.trans ((hb).mono HO6.out.size))
  clear HO6
  have hl14 := hK.len
  have ht14 := totN_LL hK
  rw [hL14] at ht14
  have hn14 : n14 ≤ 1048576 := by rw [← hl14, ← LL_len rs14, hL14]; omega
  have hr14' : Hid (∀ r ∈ rs14, r.n ≤ 1048576) := rows_small (by rw [ht14]; omega)
  have Hl14 := Lib.hid hl14
  have HE14 : Hid (decide (LLof rs14 = LLof rs0) = true) := by unfold Hid; rw [hL14, HL0.out]; simp
  have K0 := Lib.hid hK.ints
  clear hK hb hl14 hL14 ht14
  have hOI := Lib.hid (OI.out.below HO7.out)
  go_wp2_with fail
  refine (eqInt64SS_calls A14 A0 n14 c14 n0 c0 rs14 rs0 _ Hl14.out Hl0.out hn14 hn0 hr14'.out hr0.out K0.out hOI.out).mono ?_
  rintro e w7 ⟨rfl, mq, rfl⟩
  rw [HE14.out]
  clear hOI
  have X10 := Lib.hid (X9.out.below (belowDraws (Below.refl _ _) mq) X9.out.lt)
  have Q6 := Lib.hid (Q5.out.below (belowDraws (Below.refl _ _) mq))
  have HB10 := Lib.hid (HB9.out.trans (((belowDraws (Below.refl _ _) mq)).mono HB9.out.size))
  clear X9 Q5 HB9
  have HO8 := Lib.hid (HO7.out.trans (((belowDraws (Below.refl _ _) mq)).mono HO7.out.size))
  clear HO7
  clear K0
  go_wp2_with fail
  refine (heldInt64SS_calls A9 n9 c9 rs9 1 _ Hl9.out Q6.out.ints hn9 ht9b (by omega) (by omega)).mono ?_
  rintro e w13 ⟨rfl, mq, rfl⟩
  have X11 := Lib.hid (X10.out.below (belowDraws (Below.refl _ _) mq) X10.out.lt)
  have Q7 := Lib.hid (Q6.out.below (belowDraws (Below.refl _ _) mq))
  have HB11 := Lib.hid (HB10.out.trans (((belowDraws (Below.refl _ _) mq)).mono HB10.out.size))
  clear X10 Q6 HB10
  have HO9 := Lib.hid (HO8.out.trans (((belowDraws (Below.refl _ _) mq)).mono HO8.out.size))
  clear HO8
  go_wp2
  go_ret
  exact ⟨rfl, by first | exact HB11.out | (rw [← World.drewN_drewN]; exact HB11.out)⟩

theorem walk (r : Nat → Int) (n : Int) (w : World) (hw : ∀ k, k < 9 → (Lit.int .i64 (r k)).wf = true) (hn : (Lit.int .i64 n).wf = true) :
    Calls Try.prog 3 #[.agg (z9 r), .int .i64 n] w fun e w' => e = .returned (.bool true) ∧ Below w.heap.size w w' :=
  core r n (tw0 r n) (taL r n) w (by exact taL_small r n) (fun W => specTableByRules_ret r n W) (fun W => implTableByRules_ret r hw n W)

set_option maxRecDepth 100000 in
theorem lifted (os : Os) (started : os.Started) (H : Type) (enc : TypeId × Value → H) :
    ReturnsInHanded {} Try.checked os 3 .any (Rows.fnExactTableByRulesSpec.pre6 enc Try.prog Try.f3 Rows.fnExactTableByRulesRow.domain false) (Rows.fnExactTableByRulesSpec.post enc Try.prog Try.f3 false true false false) := by
  refine returnsInHanded_of_change (C := Try.checked) own started (by kernel_rfl) Try.func3
    (ChangeSpec.witness6 (enc := enc) (C := Try.checked) false ⟨#[], #[.agg #[.int .i64 0, .int .i64 0, .int .i64 0, .int .i64 0, .int .i64 0, .int .i64 0, .int .i64 0, .int .i64 0, .int .i64 0], .int .i64 0], []⟩ 8 (by kernel_rfl) (by kernel_rfl) (by kernel_rfl) (by kernel_rfl)) ?_
  intro W base args ds gs before hval0 hW hcnd _
  have hval : ∀ (j : Nat) t v, Try.f3.params[j]? = some t → args[j]? = some v → Value.okWide Try.prog W .any base t v := hval0
  have hW' := hW
  obtain ⟨p, q, hA0, hV, rfl, hfz, hnd⟩ := hW
  have hA : DataW.TrodAll enc Try.prog W 0 (fun _ => true) true Try.f3.params.toList args.toList ds p := hA0
  rw [Try.params3] at hA hval
  obtain ⟨v0, vs0, d0, ds0, p0, q0, hargs, rfl, rfl, h0, r0⟩ := trodAll_cons hA
  obtain ⟨v1, vs1, d1, ds1, p1, q1, rfl, rfl, rfl, h1, r1⟩ := trodAll_cons r0
  obtain ⟨rfl, rfl, rfl⟩ := trodAll_nil r1
  obtain rfl : args = #[v0, v1] := by cases args; simp_all
  obtain ⟨rfl, rfl⟩ := trodVars_none hV
  have lt0 : ∀ x ∈ p0, x.block < W.heap.size := by obtain ⟨m, hm⟩ := h0; exact DataW.trod_lt m _ _ _ hm
  have k0 := h0
  obtain ⟨R0, rfl, w0⟩ := open_rules (hval 0 23 v0 rfl rfl) h0
  have lt1 : ∀ x ∈ p1, x.block < W.heap.size := by obtain ⟨m, hm⟩ := h1; exact DataW.trod_lt m _ _ _ hm
  have k1 := h1
  obtain ⟨a1, rfl, rfl, rfl, w1⟩ := open_int Try.underlying2 (hval 1 2 v1 rfl rfl) h1
  clear hA0 hval0
  refine (walk R0 a1 W w0 w1).mono fun e W' ⟨he, bel⟩ => ?_
  subst he
  exact ⟨_, rfl, _, _, _, [], _, [], hW', trodAll_mk1 (shut_bool Try.underlying4 _), (trodAll_cons_mk (Below.trod laidOut (by kernel_rfl) (of_decide_eq_true (by kernel_rfl)) k0 bel lt0) (trodAll_cons_mk (Below.trod laidOut (by kernel_rfl) (of_decide_eq_true (by kernel_rfl)) k1 bel lt1) trodAll_mk0)), rfl, bel.frame _, fun h => by cases h⟩

theorem over : Rows.fnExactTableByRulesRow.holds Try.pinned (OpenSpec.ofChange Rows.fnExactTableByRulesSpec) :=
  OpenClaim.holds_of_wide 3 Try.f3 rfl rfl rfl rfl rfl rfl rfl ⟨rfl, rfl, rfl, rfl, rfl⟩ rfl rfl rfl rfl rfl (by kernel_rfl) Try.func3 (by kernel_rfl)
    (of_decide_eq_true (by kernel_rfl)) (by unfold Func.isWrapper; first | (rw [if_pos (by decide +kernel)]; kernel_rfl) | (rw [if_neg (by decide +kernel)]; exact ⟨rfl, rfl⟩))
    (fun os started H enc _ => lifted os started H enc)

theorem proved : Rows.FnExactTableByRulesSaid := over
#print axioms proved
end Go.Proofs.Ytbcgoboeeigcgaa.fnExactTableByRules
