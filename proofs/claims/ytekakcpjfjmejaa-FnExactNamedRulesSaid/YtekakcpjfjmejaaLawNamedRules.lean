/- 'NamedRules' of the program answers at every text as the specification's model. Conditions: none. -/
import Derived.Test.YtekakcpjfjmejaaOpen
import Derived.Test.YtekakcpjfjmejaaOpenRu
import Derived.Test.YtekakcpjfjmejaaRuName
import Derived.Deep.RegionHeld3
namespace Go.Proofs.Ytekakcpjfjmejaa.fnExactNamedRules
open Go.ChangeShapes Go.WideShapes Go.ChangeAt Go.RowKit Go.Joins
open Go.ChangeMaps (open_string)
set_option linter.unusedVariables false

set_option maxRecDepth 100000 in
set_option maxHeartbeats 2000000 in
theorem core (s0 : ByteArray) (r : Nat → Int) (c : Int) (hsz : s0.size ≤ 1048576) (w : World)
    (hspec : ∀ W, Calls Try.prog 12 #[.string s0] W fun e w' => e = .returned (.tuple #[.agg (z9 r), .int .i64 c]) ∧ Below W.heap.size W w')
    (himpl : ∀ W, Calls Try.prog 13 #[.string s0] W fun e w' => e = .returned (.tuple #[.agg (z9 r), .int .i64 c]) ∧ Below W.heap.size W w') :
    Calls Try.prog 4 #[.string s0] w fun e w' => e = .returned (.bool true) ∧ Below w.heap.size w w' := by
  have HS := Lib.hid hspec
  have HP := Lib.hid himpl
  have HB := Lib.hid (Below.refl w.heap.size w)
  clear hspec himpl
  go_enter Try.func4, Try.ntmps4
  go_wp2_with fail
  refine (HS.out _).mono ?_
  rintro e w1 ⟨rfl, hb1⟩
  have X1 := Lib.hid (Box.new w1 25 (z9 r))
  have B1 := Lib.hid (HB.out.trans (hb1.mono HB.out.size))
  have hz1 := B1.out.size
  clear hb1
  unfold z9
  go_wp2_with fail
  refine (HP.out _).mono ?_
  rintro e w2 ⟨rfl, hb2⟩
  have X2 := Lib.hid (X1.out.below hb2 (by simp))
  have B2 := Lib.hid ((B1.out.alloc (by omega) (.cells (z9 r) 25)).trans (hb2.mono (by simp; omega)))
  have hz2 := B2.out.size
  have hlt : w1.heap.size < w2.heap.size := by have := hb2.size; simp at this; omega
  clear hb2 X1
  unfold z9
  obtain ⟨x0, x1, x2, x3, x4, x5, x6, x7, x8⟩ := X2.out.nine
  have B3 := Lib.hid (B2.out.alloc (by omega) (.cells (z9 r) 25))
  clear X2
  go_wp2_with fail
  refine (eqRules_same r _).mono ?_
  rintro e w3 ⟨rfl, hb3⟩
  have B4 := Lib.hid (B3.out.trans (hb3.mono (by simp; omega)))
  clear hb3 x0 x1 x2 x3 x4 x5 x6 x7 x8
  go_wp2
  go_ret
  exact ⟨rfl, B4.out⟩

theorem walk (s0 : ByteArray) (w : World) (w0 : s0.size ≤ maxLen) :
    Calls Try.prog 4 #[.string s0] w fun e w' => e = .returned (.bool true) ∧ Below w.heap.size w w' := by
  by_cases hsz : s0.size ≤ 1048576
  · exact core s0 (nmR s0).1 (nmR s0).2 hsz w (specNamedRules_calls s0) (implNamedRules_calls s0)
  · unfold maxLen at w0
    go_enter Try.func4, Try.ntmps4
    go_wp2
    go_ret
    exact ⟨rfl, Below.refl _ _⟩

set_option maxRecDepth 100000 in
theorem lifted (os : Os) (started : os.Started) (H : Type) (enc : TypeId × Value → H) :
    ReturnsInHanded {} Try.checked os 4 .any (Rows.fnExactNamedRulesSpec.pre6 enc Try.prog Try.f4 Rows.fnExactNamedRulesRow.domain false) (Rows.fnExactNamedRulesSpec.post enc Try.prog Try.f4 false true false false) := by
  refine returnsInHanded_of_change (C := Try.checked) own started (by kernel_rfl) Try.func4
    (ChangeSpec.witness6 (enc := enc) (C := Try.checked) false ⟨#[], #[.string ByteArray.empty], []⟩ 8 (by kernel_rfl) (by kernel_rfl) (by kernel_rfl) (by kernel_rfl)) ?_
  intro W base args ds gs before hval0 hW hcnd _
  have hval : ∀ (j : Nat) t v, Try.f4.params[j]? = some t → args[j]? = some v → Value.okWide Try.prog W .any base t v := hval0
  have hW' := hW
  obtain ⟨p, q, hA0, hV, rfl, hfz, hnd⟩ := hW
  have hA : DataW.TrodAll enc Try.prog W 0 (fun _ => true) true Try.f4.params.toList args.toList ds p := hA0
  rw [Try.params4] at hA hval
  obtain ⟨v0, vs0, d0, ds0, p0, q0, hargs, rfl, rfl, h0, r0⟩ := trodAll_cons hA
  obtain ⟨rfl, rfl, rfl⟩ := trodAll_nil r0
  obtain rfl : args = #[v0] := by cases args; simp_all
  obtain ⟨rfl, rfl⟩ := trodVars_none hV
  have lt0 : ∀ x ∈ p0, x.block < W.heap.size := by obtain ⟨m, hm⟩ := h0; exact DataW.trod_lt m _ _ _ hm
  have k0 := h0
  obtain ⟨s0, rfl, rfl, rfl, hs0⟩ := open_string Try.underlying9 (hval 0 9 v0 rfl rfl) h0
  clear hA0 hval0
  refine (walk s0 W hs0).mono fun e W' ⟨he, bel⟩ => ?_
  subst he
  exact ⟨_, rfl, _, _, _, [], _, [], hW', trodAll_mk1 (shut_bool Try.underlying4 _), (trodAll_cons_mk (Below.trod laidOut (by kernel_rfl) (of_decide_eq_true (by kernel_rfl)) k0 bel lt0) trodAll_mk0), rfl, bel.frame _, fun h => by cases h⟩

theorem over : Rows.fnExactNamedRulesRow.holds Try.pinned (OpenSpec.ofChange Rows.fnExactNamedRulesSpec) :=
  OpenClaim.holds_of_wide 4 Try.f4 rfl rfl rfl rfl rfl rfl rfl ⟨rfl, rfl, rfl, rfl, rfl⟩ rfl rfl rfl rfl rfl (by kernel_rfl) Try.func4 (by kernel_rfl)
    (of_decide_eq_true (by kernel_rfl)) (by unfold Func.isWrapper; first | (rw [if_pos (by decide +kernel)]; kernel_rfl) | (rw [if_neg (by decide +kernel)]; exact ⟨rfl, rfl⟩))
    (fun os started H enc _ => lifted os started H enc)

theorem proved : Rows.FnExactNamedRulesSaid := over
#print axioms proved
end Go.Proofs.Ytekakcpjfjmejaa.fnExactNamedRules
