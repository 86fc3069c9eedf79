/- 'RenameRules' of the program answers at every argument as the specification's model, and leaves its list as it was. Conditions: none. -/
import Derived.Test.YtekakcpjfjmejaaOpen
import Derived.Test.YtekakcpjfjmejaaOpenRu
import Derived.Test.YtekakcpjfjmejaaTo
import Derived.Test.YtekakcpjfjmejaaEq
import Derived.Test.YtekakcpjfjmejaaRuRen
import Derived.Deep.RegionHeld3
namespace Go.Proofs.Ytekakcpjfjmejaa.fnExactRenameRules
open Go.ChangeShapes Go.WideShapes Go.ChangeAt Go.RowKit Go.Joins
open Go.ChangeMaps (open_string)
set_option linter.unusedVariables false

set_option maxRecDepth 100000 in
set_option maxHeartbeats 2000000 in
theorem walk (r : Nat → Int) (A : Option Addr) (n c : Nat) (L : List Int) (w : World) (hw : ∀ k, k < 9 → (Lit.int .i64 (r k)).wf = true) (hA : ArgInts w A n L) :
    Calls Try.prog 8 #[.agg (z9 r), .slice A n c] w fun e w' => e = .returned (.bool true) ∧ Below w.heap.size w w' := by
  obtain ⟨hL, hm, hI⟩ := hA
  have HW := Lib.hid hw
  have HL := Lib.hid hL
  have HI := Lib.hid hI
  clear hw hL hI
  by_cases hn : n ≤ 1048576
  · unfold z9
    go_enter Try.func8, Try.ntmps8
    have X0 := Lib.hid (Box.new w 23 (z9 r))
    have B0 := Lib.hid ((Below.refl w.heap.size w).alloc (Nat.le_refl _) (.cells (z9 r) 23))
    have I0 := Lib.hid (HI.out.below B0.out)
    go_wp2_with fail
    refine (toRules_calls r _).mono ?_
    rintro e w1 ⟨rfl, hb⟩
    have X1 := Lib.hid (X0.out.below hb X0.out.lt)
    have B1 := Lib.hid (B0.out.trans (hb.mono B0.out.size))
    clear hb
    go_wp2_with fail
    refine (toInt64S_calls A n c L _ HL.out hn (HI.out.below B1.out)).mono ?_
    rintro e w2 ⟨g1, rfl, hg1, hr1, hb⟩
    have X2 := Lib.hid (X1.out.below hb X1.out.lt)
    have B2 := Lib.hid (B1.out.trans (hb.mono B1.out.size))
    have R1 := Lib.hid hr1
    clear hb hr1 hg1
    go_wp2_with fail
    refine (specRenameRules_calls r _ n n L _ HL.out hn R1.out.ints).mono ?_
    rintro e w3 ⟨rfl, hb⟩
    have X3 := Lib.hid (X2.out.below hb X2.out.lt)
    have B3 := Lib.hid (B2.out.trans (hb.mono B2.out.size))
    clear hb R1
    have HRR : ∃ R, Hid (rnR r L = R) := ⟨_, rfl⟩
    obtain ⟨R, HRR⟩ := HRR
    rw [HRR.out]
    generalize hcc : rnC r L = C
    have HCC := Lib.hid hcc
    clear hcc
    unfold z9
    have Y3 := Lib.hid (Box.new w3 25 (z9 R))
    have X3' := Lib.hid (X3.out.alloc (.cells (z9 R) 25))
    have B3' := Lib.hid (B3.out.alloc B3.out.size (.cells (z9 R) 25))
    go_wp2_with fail
    refine (toInt64S_calls A n c L _ HL.out hn (HI.out.below B3'.out)).mono ?_
    rintro e w4 ⟨g2, rfl, hg2, hr2, hb⟩
    have X4 := Lib.hid (X3'.out.below hb X3'.out.lt)
    have Y4 := Lib.hid (Y3.out.below hb Y3.out.lt)
    have B4 := Lib.hid (B3'.out.trans (hb.mono B3'.out.size))
    have R4 := Lib.hid hr2
    clear hb hr2 hg2 X3 X3' Y3 B3 B3'
    obtain ⟨x0, x1, x2, x3, x4, x5, x6, x7, x8⟩ := X4.out.nine
    go_wp2_with fail
    refine (toRules_calls r _).mono ?_
    rintro e w5 ⟨rfl, hb⟩
    have R5 := Lib.hid (R4.out.below hb)
    have Y5 := Lib.hid (Y4.out.below hb Y4.out.lt)
    have B5 := Lib.hid (B4.out.trans (hb.mono B4.out.size))
    clear hb X4 Y4 R4 x0 x1 x2 x3 x4 x5 x6 x7 x8
    go_wp2_with fail
    refine (implRenameRules_calls r HW.out _ n n L _ HL.out hn R5.out.ints).mono ?_
    rintro e w6 ⟨rfl, hb⟩
    rw [HRR.out, HCC.out]
    have R6 := Lib.hid (R5.out.below hb)
    have Y6 := Lib.hid (Y5.out.below hb Y5.out.lt)
    have B6 := Lib.hid (B5.out.trans (hb.mono B5.out.size))
    clear hb R5 Y5
    have hlt : w3.heap.size < w6.heap.size := Y6.out.lt
    unfold z9
    obtain ⟨x0, x1, x2, x3, x4, x5, x6, x7, x8⟩ := Y6.out.nine
    have B7 := Lib.hid (B6.out.alloc B6.out.size (.cells (z9 R) 25))
    have R7 := Lib.hid (R6.out.below ((Below.refl w6.heap.size w6).alloc (Nat.le_refl _) (.cells (z9 R) 25)))
    go_wp2_with fail
    refine (eqRules_same R _).mono ?_
    rintro e w8 ⟨rfl, hb⟩
    have B8 := Lib.hid (B7.out.trans (hb.mono B7.out.size))
    have R8 := Lib.hid (R7.out.below hb)
    clear hb R6 R7 Y6 hlt x0 x1 x2 x3 x4 x5 x6 x7 x8
    go_wp2_with fail
    refine (toInt64S_calls A n c L _ HL.out hn (HI.out.below B8.out)).mono ?_
    rintro e w9 ⟨g3, rfl, hg3, hr3, hb⟩
    have R9 := Lib.hid (R8.out.below hb)
    have B9 := Lib.hid (B8.out.trans (hb.mono B8.out.size))
    have R3 := Lib.hid hr3
    clear hb hr3 hg3
    go_wp2_with fail
    refine (eqInt64S_calls _ _ n n n n L L _ HL.out HL.out hn hn R9.out.ints R3.out.ints).mono ?_
    rintro e w10 ⟨rfl, m10, rfl⟩
    have hdd : decide (L = L) = true := by simp
    rw [hdd]
    clear hdd
    go_wp2
    go_ret
    exact ⟨rfl, belowDraws B9.out _⟩
  · unfold z9
    go_enter Try.func8, Try.ntmps8
    go_wp2
    go_ret
    exact ⟨rfl, (Below.refl _ _).alloc (Nat.le_refl _) _⟩

set_option maxRecDepth 100000 in
theorem lifted (os : Os) (started : os.Started) (H : Type) (enc : TypeId × Value → H) :
    ReturnsInHanded {} Try.checked os 8 .any (Rows.fnExactRenameRulesSpec.pre6 enc Try.prog Try.f8 Rows.fnExactRenameRulesRow.domain false) (Rows.fnExactRenameRulesSpec.post enc Try.prog Try.f8 false true false false) := by
  refine returnsInHanded_of_change (C := Try.checked) own started (by kernel_rfl) Try.func8
    (ChangeSpec.witness6 (enc := enc) (C := Try.checked) false ⟨#[], #[.agg #[.int .i64 0, .int .i64 0, .int .i64 0, .int .i64 0, .int .i64 0, .int .i64 0, .int .i64 0, .int .i64 0, .int .i64 0], .slice none 0 0], []⟩ 8 (by kernel_rfl) (by kernel_rfl) (by kernel_rfl) (by kernel_rfl)) ?_
  intro W base args ds gs before hval0 hW hcnd _
  have hval : ∀ (j : Nat) t v, Try.f8.params[j]? = some t → args[j]? = some v → Value.okWide Try.prog W .any base t v := hval0
  have hW' := hW
  obtain ⟨p, q, hA0, hV, rfl, hfz, hnd⟩ := hW
  have hA : DataW.TrodAll enc Try.prog W 0 (fun _ => true) true Try.f8.params.toList args.toList ds p := hA0
  rw [Try.params8] at hA hval
  obtain ⟨v0, vs0, d0, ds0, p0, q0, hargs, rfl, rfl, h0, r0⟩ := trodAll_cons hA
  obtain ⟨v1, vs1, d1, ds1, p1, q1, rfl, rfl, rfl, h1, r1⟩ := trodAll_cons r0
  obtain ⟨rfl, rfl, rfl⟩ := trodAll_nil r1
  obtain rfl : args = #[v0, v1] := by cases args; simp_all
  obtain ⟨rfl, rfl⟩ := trodVars_none hV
  have lt0 : ∀ x ∈ p0, x.block < W.heap.size := by obtain ⟨m, hm⟩ := h0; exact DataW.trod_lt m _ _ _ hm
  have k0 := h0
  obtain ⟨R0, rfl, w0⟩ := open_rules (hval 0 23 v0 rfl rfl) h0
  have lt1 : ∀ x ∈ p1, x.block < W.heap.size := by obtain ⟨m, hm⟩ := h1; exact DataW.trod_lt m _ _ _ hm
  have k1 := h1
  obtain ⟨fu1, hf1⟩ := h1
  obtain ⟨A1, n1, c1, rfl⟩ := okWide_slice Try.underlying38 (hval 1 38 v1 rfl rfl)
  obtain ⟨A'1, n'1, c'1, L1, he1, hAI1⟩ := open_slice_ints (by simpa [Value.cells] using hf1)
  injection he1 with e1 e2 e3; subst e1 e2 e3
  clear hA0 hval0
  refine (walk R0 A1 n1 c1 L1 W w0 hAI1).mono fun e W' ⟨he, bel⟩ => ?_
  subst he
  exact ⟨_, rfl, _, _, _, [], _, [], hW', trodAll_mk1 (shut_bool Try.underlying4 _), (trodAll_cons_mk (Below.trod laidOut (by kernel_rfl) (of_decide_eq_true (by kernel_rfl)) k0 bel lt0) (trodAll_cons_mk (Below.trod laidOut (by kernel_rfl) (of_decide_eq_true (by kernel_rfl)) k1 bel lt1) trodAll_mk0)), rfl, bel.frame _, fun h => by cases h⟩

theorem over : Rows.fnExactRenameRulesRow.holds Try.pinned (OpenSpec.ofChange Rows.fnExactRenameRulesSpec) :=
  OpenClaim.holds_of_wide 8 Try.f8 rfl rfl rfl rfl rfl rfl rfl ⟨rfl, rfl, rfl, rfl, rfl⟩ rfl rfl rfl rfl rfl (by kernel_rfl) Try.func8 (by kernel_rfl)
    (of_decide_eq_true (by kernel_rfl)) (by unfold Func.isWrapper; first | (rw [if_pos (by decide +kernel)]; kernel_rfl) | (rw [if_neg (by decide +kernel)]; exact ⟨rfl, rfl⟩))
    (fun os started H enc _ => lifted os started H enc)

theorem proved : Rows.FnExactRenameRulesSaid := over
#print axioms proved
end Go.Proofs.Ytekakcpjfjmejaa.fnExactRenameRules
