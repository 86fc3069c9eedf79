/- 'TimeOf' of the program answers at every argument as the specification's model, and leaves its argument as it was. Conditions: none. -/
import Derived.Test.YtfkifodojhpegaaOpen
import Derived.Test.YtfkifodojhpegaaOpenState
import Derived.Test.YtfkifodojhpegaaTo
import Derived.Test.YtfkifodojhpegaaTmI
import Derived.Deep.RegionHeld3
namespace Go.Proofs.Ytfkifodojhpegaa.fnExactTimeOf
open Go.ChangeShapes Go.WideShapes Go.ChangeAt Go.RowKit Go.Joins
open Go.ChangeMaps (open_string)
set_option linter.unusedVariables false

theorem szI_no {n : Nat} (h : ¬ n ≤ 1048576) : szI n 1048576 = -1 := by unfold szI; omega
theorem szI_yes {n : Nat} (h : n ≤ 1048576) : 0 ≤ szI n 1048576 := by unfold szI; omega

set_option maxHeartbeats 2000000 in
theorem walk (p : Int) (A : Option Addr) (n c : Nat) (L : List Int) (w : World) (w0 : (Lit.int .i64 p).wf = true) (hA : ArgInts w A n L)  :
    Calls Try.prog 4 #[.agg #[.int .i64 p, .slice A n c]] w fun e w' => e = .returned (.bool true) ∧ Below w.heap.size w w' := by
  obtain ⟨hL, hm, hI⟩ := hA
  by_cases hn : n ≤ 1048576
  · have h0 := szI_yes hn
    have HL := Lib.hid hL
    clear hL
    go_enter Try.func4, Try.ntmps4
    go_wp2_with fail
    refine (szState_calls A n c p 1048576 _ hm (by omega) (by omega)).mono ?_
    rintro e w1 ⟨rfl, hb1⟩
    have HB1 := Lib.hid (hb1.mono (B' := w.heap.size + 1) (by simp))
    clear hb1
    obtain ⟨c0, c1, hz⟩ := boxed2 HB1.out
    have hI1 := hI.below (((Below.refl _ _).alloc (Nat.le_refl _) _).trans (HB1.out.mono (by omega)))
    go_wp2_with fail
    refine (toState_calls A n c p L _ HL.out hn hI1).mono ?_
    rintro e w2 ⟨g2, rfl, hg2, hr2, hb2⟩
    have HR2 := Lib.hid hr2
    have HB2 := Lib.hid (HB1.out.trans (hb2.mono hz))
    clear hb2 hr2 c0 c1
    obtain ⟨c0, c1, hz2⟩ := boxed2 HB2.out
    have hI2 := hI.below (((Below.refl _ _).alloc (Nat.le_refl _) _).trans (HB2.out.mono (by omega)))
    go_wp2_with fail
    refine (specTimeOf_calls _ n n p L  _ HL.out hn HR2.out.ints).mono ?_
    rintro e w3 ⟨rfl, hb3⟩
    have HB3 := Lib.hid (HB2.out.trans (hb3.mono hz2))
    clear hb3 c0 c1
    obtain ⟨c0, c1, hz3⟩ := boxed2 HB3.out
    have hI3 := hI.below (((Below.refl _ _).alloc (Nat.le_refl _) _).trans (HB3.out.mono (by omega)))
    go_wp2_with fail
    refine (toState_calls A n c p L _ HL.out hn hI3).mono ?_
    rintro e w4 ⟨g4, rfl, hg4, hr4, hb4⟩
    have HR4 := Lib.hid hr4
    have HB4 := Lib.hid (HB3.out.trans (hb4.mono hz3))
    clear hb4 hr4 c0 c1
    obtain ⟨c0, c1, hz4⟩ := boxed2 HB4.out
    go_wp2_with fail
    refine (implTimeOf_calls _ n n p L  _ HL.out hn (HR4.out.ints.below ((Below.refl _ _).alloc (Nat.le_refl _) _))).mono ?_
    rintro e w5 ⟨rfl, hb5⟩
    obtain ⟨d0, d1, hz5⟩ := boxed2 (hb5.mono (by simp))
    have HB54 := Lib.hid (((Below.refl w4.heap.size w4).alloc (Nat.le_refl _) _).trans (hb5.mono (by simp)))
    have HB5 := Lib.hid (HB4.out.trans (HB54.out.mono hz4))
    have HR5 := Lib.hid (HR4.out.below HB54.out)
    clear hb5 c0 c1
    obtain ⟨c0, c1, hz5'⟩ := boxed2 HB5.out
    have hI5 := hI.below (((Below.refl _ _).alloc (Nat.le_refl _) _).trans (HB5.out.mono (by omega)))
    go_wp2_with fail
    go_region_held3 (fun w' => w'.cell? ⟨w4.heap.size, 0, none⟩ = some (.int .i64 p) ∧ w'.cell? ⟨w4.heap.size, 1, none⟩ = some (.slice (some ⟨g4, 0, none⟩) n n) ∧ w'.cell? ⟨w.heap.size, 0, none⟩ = some (.int .i64 p) ∧ w'.cell? ⟨w.heap.size, 1, none⟩ = some (.slice A n c))
      (first | exact ⟨d0, d1, c0, c1⟩ | exact ⟨f0, f1, f2, f3⟩ | exact ⟨e0, e1, e2, e3⟩ | go_keep)
      (first
      | (go_at_call 14; refine (toState_calls A n c p L _ HL.out hn ?_).mono ?_; (exact hI5); rintro e w6 ⟨g6, rfl, hg6, hr6, hb6⟩; have e0 := (hb6.cell (p := ⟨w4.heap.size, 0, none⟩) (by exact hz5)).trans d0; have e1 := (hb6.cell (p := ⟨w4.heap.size, 1, none⟩) (by exact hz5)).trans d1; have e2 := (hb6.cell (p := ⟨w.heap.size, 0, none⟩) (by exact hz5')).trans c0; have e3 := (hb6.cell (p := ⟨w.heap.size, 1, none⟩) (by exact hz5')).trans c1)
      | (go_at_call 9; refine (eqState_calls (some ⟨g4, 0, none⟩) (some ⟨g6, 0, none⟩) n n n n p p L L _ HL.out HL.out hn hn ?_ ?_).mono ?_; (exact HR5.out.ints.below (undrew hb6)); (exact hr6.ints); rintro e w7 ⟨rfl, hb7⟩; have hs6 := Below.size hb6; have z1 := Nat.le_trans hz5 hs6; have z2 := Nat.le_trans hz5' hs6; have f0 := (hb7.cell (p := ⟨w4.heap.size, 0, none⟩) z1).trans e0; have f1 := (hb7.cell (p := ⟨w4.heap.size, 1, none⟩) z1).trans e1; have f2 := (hb7.cell (p := ⟨w.heap.size, 0, none⟩) z2).trans e2; have f3 := (hb7.cell (p := ⟨w.heap.size, 1, none⟩) z2).trans e3))
    have HB7 := Lib.hid ((HB5.out.trans ((undrew hb6).mono hz5')).trans (hb7.mono z2))
    clear hb6 hb7 hs6 z1 z2 e0 e1 e2 e3 f0 f1 f2 f3 d0 d1 c0 c1
    go_wp2
    go_ret
    exact ⟨rfl, ((Below.refl _ _).alloc (Nat.le_refl _) _).trans (HB7.out.mono (Nat.le_succ _))⟩
  · have h0 := szI_no hn
    go_enter Try.func4, Try.ntmps4
    go_wp2_with fail
    refine (szState_calls A n c p 1048576 _ hm (by omega) (by omega)).mono ?_
    rintro e w1 ⟨rfl, hb1⟩
    have HB1 := Lib.hid hb1
    clear hb1
    go_wp2
    go_ret
    exact ⟨rfl, ((Below.refl _ _).alloc (Nat.le_refl _) _).trans (HB1.out.mono (by simp))⟩

set_option maxRecDepth 100000 in
theorem lifted (os : Os) (started : os.Started) (H : Type) (enc : TypeId × Value → H) :
    ReturnsInHanded {} Try.checked os 4 .any (Rows.fnExactTimeOfSpec.pre6 enc Try.prog Try.f4 Rows.fnExactTimeOfRow.domain false) (Rows.fnExactTimeOfSpec.post enc Try.prog Try.f4 false true false false) := by
  refine returnsInHanded_of_change (C := Try.checked) own started (by kernel_rfl) Try.func4
    (ChangeSpec.witness6 (enc := enc) (C := Try.checked) false ⟨#[], #[.agg #[.int .i64 0, .slice none 0 0]], []⟩ 8 (by kernel_rfl) (by kernel_rfl) (by kernel_rfl) (by kernel_rfl)) ?_
  intro W base args ds gs before hval0 hW hcnd _
  have hval : ∀ (j : Nat) t v, Try.f4.params[j]? = some t → args[j]? = some v → Value.okWide Try.prog W .any base t v := hval0
  have hW' := hW
  obtain ⟨p, q, hA0, hV, rfl, hfz, hnd⟩ := hW
  have hA : DataW.TrodAll enc Try.prog W 0 (fun _ => true) true Try.f4.params.toList args.toList ds p := hA0
  rw [Try.params4] at hA hval
  obtain ⟨v0, vs0, d0, ds0, p0, q0, hargs, rfl, rfl, h0, r0⟩ := trodAll_cons hA
  obtain ⟨rfl, rfl, rfl⟩ := trodAll_nil r0
  obtain rfl : args = #[v0] := by cases args; simp_all
  obtain ⟨rfl, rfl⟩ := trodVars_none hV
  have lt0 : ∀ x ∈ p0, x.block < W.heap.size := by obtain ⟨m, hm⟩ := h0; exact DataW.trod_lt m _ _ _ hm
  have k0 := h0
  obtain ⟨a0, A0, n0, c0, L0, rfl, w0, hAI0⟩ := open_state (hval 0 30 v0 rfl rfl) h0
  clear hA0 hval0
  refine (walk a0 A0 n0 c0 L0 W w0 hAI0).mono fun e W' ⟨he, bel⟩ => ?_
  subst he
  exact ⟨_, rfl, _, _, _, [], _, [], hW', trodAll_mk1 (shut_bool Try.underlying4 _), (trodAll_cons_mk (Below.trod laidOut (by kernel_rfl) (of_decide_eq_true (by kernel_rfl)) k0 bel lt0) trodAll_mk0), rfl, bel.frame _, fun h => by cases h⟩

theorem over : Rows.fnExactTimeOfRow.holds Try.pinned (OpenSpec.ofChange Rows.fnExactTimeOfSpec) :=
  OpenClaim.holds_of_wide 4 Try.f4 rfl rfl rfl rfl rfl rfl rfl ⟨rfl, rfl, rfl, rfl, rfl⟩ rfl rfl rfl rfl rfl (by kernel_rfl) Try.func4 (by kernel_rfl)
    (of_decide_eq_true (by kernel_rfl)) (by unfold Func.isWrapper; first | (rw [if_pos (by decide +kernel)]; kernel_rfl) | (rw [if_neg (by decide +kernel)]; exact ⟨rfl, rfl⟩))
    (fun os started H enc _ => lifted os started H enc)

theorem proved : Rows.FnExactTimeOfSaid := over
#print axioms proved
end Go.Proofs.Ytfkifodojhpegaa.fnExactTimeOf
