/- 'TurnRules' of the program answers at every argument as the specification's model. Conditions: none. -/
import Derived.Test.YtekakcpjfjmejaaOpen
import Derived.Test.YtekakcpjfjmejaaOpenRu
import Derived.Test.YtekakcpjfjmejaaRuTurn
import Derived.Deep.RegionHeld3
namespace Go.Proofs.Ytekakcpjfjmejaa.fnExactTurnRules
open Go.ChangeShapes Go.WideShapes Go.ChangeAt Go.RowKit Go.Joins
open Go.ChangeMaps (open_string)
set_option linter.unusedVariables false

set_option maxRecDepth 100000 in
set_option maxHeartbeats 2000000 in
theorem walk (r : Nat → Int) (w : World) (hw : ∀ k, k < 9 → (Lit.int .i64 (r k)).wf = true) :
    Calls Try.prog 7 #[.agg (z9 r)] w fun e w' => e = .returned (.bool true) ∧ Below w.heap.size w w' := by
  have HW := Lib.hid hw
  clear hw
  unfold z9
  go_enter Try.func7, Try.ntmps7
  have X0 := Lib.hid (Box.new w 23 (z9 r))
  have B0 := Lib.hid ((Below.refl w.heap.size w).alloc (Nat.le_refl _) (.cells (z9 r) 23))
  go_wp2_with fail
  refine (toRules_calls r _).mono ?_
  rintro e w1 ⟨rfl, hb⟩
  have X1 := Lib.hid (X0.out.below hb X0.out.lt)
  have B1 := Lib.hid (B0.out.trans (hb.mono B0.out.size))
  clear hb
  go_wp2_with fail
  refine (specTurnRules_calls r _).mono ?_
  rintro e w2 ⟨rfl, hb⟩
  have X2 := Lib.hid (X1.out.below hb X1.out.lt)
  have B2 := Lib.hid (B1.out.trans (hb.mono B1.out.size))
  clear hb
  have HRR : ∃ R, Hid (tuR r = R) := ⟨_, rfl⟩
  obtain ⟨R, HRR⟩ := HRR
  rw [HRR.out]
  generalize hcc : cR r = C
  have HCC := Lib.hid hcc
  clear hcc
  unfold z9
  have Y2 := Lib.hid (Box.new w2 25 (z9 R))
  have X2' := Lib.hid (X2.out.alloc (.cells (z9 R) 25))
  have B2' := Lib.hid (B2.out.alloc B2.out.size (.cells (z9 R) 25))
  have hx2 := X2.out.lt
  obtain ⟨x0, x1, x2, x3, x4, x5, x6, x7, x8⟩ := X2.out.nine
  go_wp2_with fail
  refine (toRules_calls r _).mono ?_
  rintro e w3 ⟨rfl, hb⟩
  have Y3 := Lib.hid (Y2.out.below hb Y2.out.lt)
  have B3 := Lib.hid (B2'.out.trans (hb.mono B2'.out.size))
  clear hb x0 x1 x2 x3 x4 x5 x6 x7 x8 X2 X2' Y2 hx2
  go_wp2_with fail
  refine (implTurnRules_calls r HW.out _).mono ?_
  rintro e w4 ⟨rfl, hb⟩
  rw [HRR.out, HCC.out]
  have Y4 := Lib.hid (Y3.out.below hb Y3.out.lt)
  have B4 := Lib.hid (B3.out.trans (hb.mono B3.out.size))
  clear hb Y3
  have hlt : w2.heap.size < w4.heap.size := Y4.out.lt
  unfold z9
  obtain ⟨x0, x1, x2, x3, x4, x5, x6, x7, x8⟩ := Y4.out.nine
  have B5 := Lib.hid (B4.out.alloc B4.out.size (.cells (z9 R) 25))
  go_wp2_with fail
  refine (eqRules_same R _).mono ?_
  rintro e w5 ⟨rfl, hb⟩
  have B6 := Lib.hid (B5.out.trans (hb.mono B5.out.size))
  clear hb x0 x1 x2 x3 x4 x5 x6 x7 x8
  go_wp2
  go_ret
  exact ⟨rfl, B6.out⟩

set_option maxRecDepth 100000 in
theorem lifted (os : Os) (started : os.Started) (H : Type) (enc : TypeId × Value → H) :
    ReturnsInHanded {} Try.checked os 7 .any (Rows.fnExactTurnRulesSpec.pre6 enc Try.prog Try.f7 Rows.fnExactTurnRulesRow.domain false) (Rows.fnExactTurnRulesSpec.post enc Try.prog Try.f7 false true false false) := by
  refine returnsInHanded_of_change (C := Try.checked) own started (by kernel_rfl) Try.func7
    (ChangeSpec.witness6 (enc := enc) (C := Try.checked) false ⟨#[], #[.agg #[.int .i64 0, .int .i64 0, .int .i64 0, .int .i64 0, .int .i64 0, .int .i64 0, .int .i64 0, .int .i64 0, .int .i64 0]], []⟩ 8 (by kernel_rfl) (by kernel_rfl) (by kernel_rfl) (by kernel_rfl)) ?_
  intro W base args ds gs before hval0 hW hcnd _
  have hval : ∀ (j : Nat) t v, Try.f7.params[j]? = some t → args[j]? = some v → Value.okWide Try.prog W .any base t v := hval0
  have hW' := hW
  obtain ⟨p, q, hA0, hV, rfl, hfz, hnd⟩ := hW
  have hA : DataW.TrodAll enc Try.prog W 0 (fun _ => true) true Try.f7.params.toList args.toList ds p := hA0
  rw [Try.params7] at hA hval
  obtain ⟨v0, vs0, d0, ds0, p0, q0, hargs, rfl, rfl, h0, r0⟩ := trodAll_cons hA
  obtain ⟨rfl, rfl, rfl⟩ := trodAll_nil r0
  obtain rfl : args = #[v0] := by cases args; simp_all
  obtain ⟨rfl, rfl⟩ := trodVars_none hV
  have lt0 : ∀ x ∈ p0, x.block < W.heap.size := by obtain ⟨m, hm⟩ := h0; exact DataW.trod_lt m _ _ _ hm
  have k0 := h0
  obtain ⟨R0, rfl, w0⟩ := open_rules (hval 0 23 v0 rfl rfl) h0
  clear hA0 hval0
  refine (walk R0 W w0).mono fun e W' ⟨he, bel⟩ => ?_
  subst he
  exact ⟨_, rfl, _, _, _, [], _, [], hW', trodAll_mk1 (shut_bool Try.underlying4 _), (trodAll_cons_mk (Below.trod laidOut (by kernel_rfl) (of_decide_eq_true (by kernel_rfl)) k0 bel lt0) trodAll_mk0), rfl, bel.frame _, fun h => by cases h⟩

theorem over : Rows.fnExactTurnRulesRow.holds Try.pinned (OpenSpec.ofChange Rows.fnExactTurnRulesSpec) :=
  OpenClaim.holds_of_wide 7 Try.f7 rfl rfl rfl rfl rfl rfl rfl ⟨rfl, rfl, rfl, rfl, rfl⟩ rfl rfl rfl rfl rfl (by kernel_rfl) Try.func7 (by kernel_rfl)
    (of_decide_eq_true (by kernel_rfl)) (by unfold Func.isWrapper; first | (rw [if_pos (by decide +kernel)]; kernel_rfl) | (rw [if_neg (by decide +kernel)]; exact ⟨rfl, rfl⟩))
    (fun os started H enc _ => lifted os started H enc)

theorem proved : Rows.FnExactTurnRulesSaid := over
#print axioms proved
end Go.Proofs.Ytekakcpjfjmejaa.fnExactTurnRules
