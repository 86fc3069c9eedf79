/- 'LeastByRules' of the program answers at every argument as the specification's model, and its answer is its own memory. Conditions: none. -/
import Derived.Test.YtbcgoboeeigcgaaOpen
import Derived.Test.YtbcgoboeeigcgaaOpenRu
import Derived.Test.YtbcgoboeeigcgaaMark
import Derived.Test.YtbcgoboeeigcgaaApart
import Derived.Test.YtbcgoboeeigcgaaRuLsM
import Derived.Deep.RegionHeld3
namespace Go.Proofs.Ytbcgoboeeigcgaa.fnExactLeastByRules
open Go.ChangeShapes Go.WideShapes Go.ChangeAt Go.RowKit Go.Joins
open Go.ChangeMaps (open_string)
set_option linter.unusedVariables false

set_option maxRecDepth 100000 in
set_option maxHeartbeats 8000000 in
theorem core (r : Nat → Int) (n i j : Int) (E : Int) (LL : List Mv) (nn : Nat) (w : World) (hnn : nn ≤ 1048576) (hLL : LL.length = nn)
    (hspec : ∀ W, Calls Try.prog 12 #[.agg (z9 r), .int .i64 n, .int .i64 i, .int .i64 j] W (RetMvs W nn LL E))
    (himpl : ∀ W, Calls Try.prog 13 #[.agg (z9 r), .int .i64 n, .int .i64 i, .int .i64 j] W (RetMvs W nn LL E)) :
    Calls Try.prog 4 #[.agg (z9 r), .int .i64 n, .int .i64 i, .int .i64 j] w fun e w' => e = .returned (.bool true) ∧ Below w.heap.size w w' := by
  have HS := Lib.hid hspec
  have HP := Lib.hid himpl
  have X0 := Lib.hid (Box.new w 23 (z9 r))
  have HB0 := Lib.hid ((Below.refl w.heap.size w).alloc (Nat.le_refl _) (.cells (z9 r) 23))
  clear hspec himpl
  have HLL := Lib.hid hLL
  clear hLL
  unfold z9
  go_enter Try.func4, Try.ntmps4
  go_wp2_with fail
  refine (toRules_calls r _).mono ?_
  rintro e w1 ⟨rfl, hb⟩
  have X1 := Lib.hid (X0.out.below hb X0.out.lt)
  have HB1 := Lib.hid (HB0.out.trans ((hb).mono HB0.out.size))
  clear X0 HB0
  clear hb
  go_wp2_with fail
  refine (HS.out _).mono ?_
  rintro e w1 ⟨A0, c0, rfl, hO, hb⟩
  have X2 := Lib.hid (X1.out.below hb X1.out.lt)
  have HB2 := Lib.hid (HB1.out.trans ((hb).mono HB1.out.size))
  clear X1 HB1
  have O0 := Lib.hid hO
  clear hO hb
  obtain ⟨x0, x1, x2, x3, x4, x5, x6, x7, x8⟩ := X2.out.nine
  go_wp2_with fail
  refine (toRules_calls r _).mono ?_
  rintro e w1 ⟨rfl, hb⟩
  have X3 := Lib.hid (X2.out.below hb X2.out.lt)
  have O1 := Lib.hid (O0.out.below hb)
  have HB3 := Lib.hid (HB2.out.trans ((hb).mono HB2.out.size))
  clear X2 O0 HB2
  clear hb x0 x1 x2 x3 x4 x5 x6 x7 x8
  go_wp2_with fail
  refine (HP.out _).mono ?_
  rintro e w2 ⟨A9, c9, rfl, hQ, hb⟩
  have BQ := HB3.out.size
  have AZ := Lib.hid (ows_apart O1.out hQ (Nat.le_refl _))
  have AW := Lib.hid (ows_apart_back O1.out hQ (Nat.le_refl _))
  have X4 := Lib.hid (X3.out.below hb X3.out.lt)
  have O2 := Lib.hid (O1.out.below hb)
  have HB4 := Lib.hid (HB3.out.trans ((hb).mono HB3.out.size))
  clear X3 O1 HB3
  have Q0 := Lib.hid hQ
  clear hb hQ
  go_wp2_with fail
  refine (eqMoveS_calls A9 A0 nn c9 nn c0 LL LL _ HLL.out HLL.out hnn hnn (OwnM.mvs Q0.out) (OwnM.mvs O2.out)).mono ?_
  rintro e w7 ⟨rfl, hbq⟩
  have X5 := Lib.hid (X4.out.below hbq X4.out.lt)
  have O3 := Lib.hid (O2.out.below hbq)
  have Q1 := Lib.hid (Q0.out.below hbq)
  have HB5 := Lib.hid (HB4.out.trans ((hbq).mono HB4.out.size))
  clear X4 O2 Q0 HB4
  go_wp2_with fail
  refine (markMoveS_calls _ A9 nn c9 (mvF LL) 1 _ Q1.out hnn (by omega) (by omega)).mono ?_
  rintro e w12 ⟨rfl, hO, hg⟩
  have X6 := Lib.hid (X5.out.grown hg (Q1.out.box_ne X5.out (by decide)))
  have O4 := Lib.hid (O3.out.kept hg AZ.out)
  have Q2 := Lib.hid hO
  have HB6 := Lib.hid (HB5.out.grown hg HB5.out.size (fun k hk => by have h1 := ows_bk Q1.out k hk; omega))
  clear X5 O3 Q1 HB5 hO hg
  go_wp2_with fail
  refine (heldMoveS_calls _ A9 nn c9 1 _ Q2.out hnn (by omega) (by omega)).mono ?_
  rintro e w13 ⟨rfl, hbq⟩
  have X7 := Lib.hid (X6.out.below hbq X6.out.lt)
  have O5 := Lib.hid (O4.out.below hbq)
  have Q3 := Lib.hid (Q2.out.below hbq)
  have HB7 := Lib.hid (HB6.out.trans ((hbq).mono HB6.out.size))
  clear X6 O4 Q2 HB6
  obtain ⟨x0, x1, x2, x3, x4, x5, x6, x7, x8⟩ := X7.out.nine
  go_wp2_with fail
  refine (toRules_calls r _).mono ?_
  rintro e w1 ⟨rfl, hb⟩
  have X8 := Lib.hid (X7.out.below hb X7.out.lt)
  have O6 := Lib.hid (O5.out.below hb)
  have Q4 := Lib.hid (Q3.out.below hb)
  have HB8 := Lib.hid (HB7.out.trans ((hb).mono HB7.out.size))
  clear X7 O5 Q3 HB7
  clear hb x0 x1 x2 x3 x4 x5 x6 x7 x8
  go_wp2_with fail
  refine (HP.out _).mono ?_
  rintro e w15 ⟨A14, c14, rfl, hK, hb⟩
  have X9 := Lib.hid (X8.out.below hb X8.out.lt)
  have O7 := Lib.hid (O6.out.below hb)
  have Q5 := Lib.hid (Q4.out.below hb)
  have HB9 := Lib.hid (HB8.out.trans ((hb).mono HB8.out.size))
  clear X8 O6 Q4 HB8
  have K0 := Lib.hid hK
  clear hK hb
  go_wp2_with fail
  refine (eqMoveS_calls A14 A0 nn c14 nn c0 LL LL _ HLL.out HLL.out hnn hnn (OwnM.mvs K0.out) (OwnM.mvs O7.out)).mono ?_
  rintro e w7 ⟨rfl, hbq⟩
  have X10 := Lib.hid (X9.out.below hbq X9.out.lt)
  have O8 := Lib.hid (O7.out.below hbq)
  have Q6 := Lib.hid (Q5.out.below hbq)
  have K1 := Lib.hid (K0.out.below hbq)
  have HB10 := Lib.hid (HB9.out.trans ((hbq).mono HB9.out.size))
  clear X9 O7 Q5 K0 HB9
  go_wp2_with fail
  refine (heldMoveS_calls _ A9 nn c9 1 _ Q6.out hnn (by omega) (by omega)).mono ?_
  rintro e w13 ⟨rfl, hbq⟩
  have X11 := Lib.hid (X10.out.below hbq X10.out.lt)
  have O9 := Lib.hid (O8.out.below hbq)
  have Q7 := Lib.hid (Q6.out.below hbq)
  have K2 := Lib.hid (K1.out.below hbq)
  have HB11 := Lib.hid (HB10.out.trans ((hbq).mono HB10.out.size))
  clear X10 O8 Q6 K1 HB10
  go_wp2
  go_ret
  exact ⟨rfl, by first | exact HB11.out | (rw [← World.drewN_drewN]; exact HB11.out)⟩

theorem walk (r : Nat → Int) (n i j : Int) (w : World) (hw : ∀ k, k < 9 → (Lit.int .i64 (r k)).wf = true) (hn : (Lit.int .i64 n).wf = true) (hi : (Lit.int .i64 i).wf = true) (hj : (Lit.int .i64 j).wf = true) :
    Calls Try.prog 4 #[.agg (z9 r), .int .i64 n, .int .i64 i, .int .i64 j] w fun e w' => e = .returned (.bool true) ∧ Below w.heap.size w w' :=
  core r n i j (twE r n i j) (leV r n i j) (leV r n i j).length w (by exact leV_len r n i j) rfl (fun W => specLeastByRules_ret r n i j W) (fun W => implLeastByRules_ret r hw n i j W)

set_option maxRecDepth 100000 in
theorem lifted (os : Os) (started : os.Started) (H : Type) (enc : TypeId × Value → H) :
    ReturnsInHanded {} Try.checked os 4 .any (Rows.fnExactLeastByRulesSpec.pre6 enc Try.prog Try.f4 Rows.fnExactLeastByRulesRow.domain false) (Rows.fnExactLeastByRulesSpec.post enc Try.prog Try.f4 false true false false) := by
  refine returnsInHanded_of_change (C := Try.checked) own started (by kernel_rfl) Try.func4
    (ChangeSpec.witness6 (enc := enc) (C := Try.checked) false ⟨#[], #[.agg #[.int .i64 0, .int .i64 0, .int .i64 0, .int .i64 0, .int .i64 0, .int .i64 0, .int .i64 0, .int .i64 0, .int .i64 0], .int .i64 0, .int .i64 0, .int .i64 0], []⟩ 8 (by kernel_rfl) (by kernel_rfl) (by kernel_rfl) (by kernel_rfl)) ?_
  intro W base args ds gs before hval0 hW hcnd _
  have hval : ∀ (j : Nat) t v, Try.f4.params[j]? = some t → args[j]? = some v → Value.okWide Try.prog W .any base t v := hval0
  have hW' := hW
  obtain ⟨p, q, hA0, hV, rfl, hfz, hnd⟩ := hW
  have hA : DataW.TrodAll enc Try.prog W 0 (fun _ => true) true Try.f4.params.toList args.toList ds p := hA0
  rw [Try.params4] at hA hval
  obtain ⟨v0, vs0, d0, ds0, p0, q0, hargs, rfl, rfl, h0, r0⟩ := trodAll_cons hA
  obtain ⟨v1, vs1, d1, ds1, p1, q1, rfl, rfl, rfl, h1, r1⟩ := trodAll_cons r0
  obtain ⟨v2, vs2, d2, ds2, p2, q2, rfl, rfl, rfl, h2, r2⟩ := trodAll_cons r1
  obtain ⟨v3, vs3, d3, ds3, p3, q3, rfl, rfl, rfl, h3, r3⟩ := trodAll_cons r2
  obtain ⟨rfl, rfl, rfl⟩ := trodAll_nil r3
  obtain rfl : args = #[v0, v1, v2, v3] := by cases args; simp_all
  obtain ⟨rfl, rfl⟩ := trodVars_none hV
  have lt0 : ∀ x ∈ p0, x.block < W.heap.size := by obtain ⟨m, hm⟩ := h0; exact DataW.trod_lt m _ _ _ hm
  have k0 := h0
  obtain ⟨R0, rfl, w0⟩ := open_rules (hval 0 23 v0 rfl rfl) h0
  have lt1 : ∀ x ∈ p1, x.block < W.heap.size := by obtain ⟨m, hm⟩ := h1; exact DataW.trod_lt m _ _ _ hm
  have k1 := h1
  obtain ⟨a1, rfl, rfl, rfl, w1⟩ := open_int Try.underlying2 (hval 1 2 v1 rfl rfl) h1
  have lt2 : ∀ x ∈ p2, x.block < W.heap.size := by obtain ⟨m, hm⟩ := h2; exact DataW.trod_lt m _ _ _ hm
  have k2 := h2
  obtain ⟨a2, rfl, rfl, rfl, w2⟩ := open_int Try.underlying2 (hval 2 2 v2 rfl rfl) h2
  have lt3 : ∀ x ∈ p3, x.block < W.heap.size := by obtain ⟨m, hm⟩ := h3; exact DataW.trod_lt m _ _ _ hm
  have k3 := h3
  obtain ⟨a3, rfl, rfl, rfl, w3⟩ := open_int Try.underlying2 (hval 3 2 v3 rfl rfl) h3
  clear hA0 hval0
  refine (walk R0 a1 a2 a3 W w0 w1 w2 w3).mono fun e W' ⟨he, bel⟩ => ?_
  subst he
  exact ⟨_, rfl, _, _, _, [], _, [], hW', trodAll_mk1 (shut_bool Try.underlying4 _), (trodAll_cons_mk (Below.trod laidOut (by kernel_rfl) (of_decide_eq_true (by kernel_rfl)) k0 bel lt0) (trodAll_cons_mk (Below.trod laidOut (by kernel_rfl) (of_decide_eq_true (by kernel_rfl)) k1 bel lt1) (trodAll_cons_mk (Below.trod laidOut (by kernel_rfl) (of_decide_eq_true (by kernel_rfl)) k2 bel lt2) (trodAll_cons_mk (Below.trod laidOut (by kernel_rfl) (of_decide_eq_true (by kernel_rfl)) k3 bel lt3) trodAll_mk0)))), rfl, bel.frame _, fun h => by cases h⟩

theorem over : Rows.fnExactLeastByRulesRow.holds Try.pinned (OpenSpec.ofChange Rows.fnExactLeastByRulesSpec) :=
  OpenClaim.holds_of_wide 4 Try.f4 rfl rfl rfl rfl rfl rfl rfl ⟨rfl, rfl, rfl, rfl, rfl⟩ rfl rfl rfl rfl rfl (by kernel_rfl) Try.func4 (by kernel_rfl)
    (of_decide_eq_true (by kernel_rfl)) (by unfold Func.isWrapper; first | (rw [if_pos (by decide +kernel)]; kernel_rfl) | (rw [if_neg (by decide +kernel)]; exact ⟨rfl, rfl⟩))
    (fun os started H enc _ => lifted os started H enc)

theorem proved : Rows.FnExactLeastByRulesSaid := over
#print axioms proved
end Go.Proofs.Ytbcgoboeeigcgaa.fnExactLeastByRules
