/- 'ParseMove' of the program answers at every argument as the specification's model. Conditions: none. -/
import Derived.Test.YteokldpodaknpaaOpen
import Derived.Test.YteokldpodaknpaaOpen
import Derived.Test.YteokldpodaknpaaMvS
import Derived.Test.YteokldpodaknpaaParseMoveI
import Derived.Deep.RegionHeld3
namespace Go.Proofs.Yteokldpodaknpaa.fnExactParseMove
open Go.ChangeShapes Go.WideShapes Go.ChangeAt Go.RowKit Go.Joins
open Go.ChangeMaps (open_string)
set_option linter.unusedVariables false

set_option maxRecDepth 100000 in
set_option maxHeartbeats 4000000 in
theorem core (s0 : ByteArray) (a b d E : Int) (hsz : s0.size ≤ 1048576) (hspec : ∀ w, Calls Try.prog 14 #[.string s0] w (RetMv w a b d E)) (himpl : ∀ w, Calls Try.prog 15 #[.string s0] w (RetMv w a b d E)) (w : World) :
    Calls Try.prog 4 #[.string s0] w fun e w' => e = .returned (.bool true) ∧ Below w.heap.size w w' := by
  have HS := Lib.hid hspec
  have HP := Lib.hid himpl
  clear hspec himpl
  go_enter Try.func4, Try.ntmps4
  go_wp2_with fail
  refine (HS.out _).mono ?_
  rintro e w1 ⟨rfl, hb⟩
  have hba : Below w1.heap.size w1 (w1.alloc (.cells #[.int .i64 a, .int .i64 b, .int .i64 d] 37)) := (Below.refl _ w1).alloc (Nat.le_refl _) _
  have G0 := Lib.hid (Box.new w1 37 #[.int .i64 a, .int .i64 b, .int .i64 d])
  have HB1 := Lib.hid (hb.trans (hba.mono hb.size))
  clear hb hba
  go_wp2_with fail
  generalize hW1 : w1.alloc (.cells #[.int .i64 a, .int .i64 b, .int .i64 d] 37) = W1 at *
  clear hW1
  generalize w1.heap.size = gG at *
  refine (HP.out _).mono ?_
  rintro e w2 ⟨rfl, hb⟩
  have hba : Below w2.heap.size w2 (w2.alloc (.cells #[.int .i64 a, .int .i64 b, .int .i64 d] 37)) := (Below.refl _ w2).alloc (Nat.le_refl _) _
  have G1 := Lib.hid ((G0.out.below hb G0.out.lt).alloc (.cells #[.int .i64 a, .int .i64 b, .int .i64 d] 37))
  have F1 := Lib.hid (Box.new w2 37 #[.int .i64 a, .int .i64 b, .int .i64 d])
  have HB2 := Lib.hid (HB1.out.trans ((hb.trans (hba.mono hb.size)).mono HB1.out.size))
  clear hb hba G0 HB1
  obtain ⟨g0, g1, g2⟩ := G1.out.three
  obtain ⟨f0, f1, f2⟩ := F1.out.three
  go_wp2_with fail
  refine (eqMove_calls a b d a b d _).mono ?_
  rintro e w3 ⟨rfl, hb⟩
  have HB3 := Lib.hid (HB2.out.trans (hb.mono HB2.out.size))
  have hm : mvEqB (a, b, d) (a, b, d) = true := by unfold mvEqB; simp
  rw [hm]
  clear hb g0 g1 g2 f0 f1 f2 hm
  go_wp2
  go_ret
  exact ⟨rfl, HB3.out⟩

theorem walk (s0 : ByteArray) (w : World) (w0 : s0.size ≤ maxLen) :
    Calls Try.prog 4 #[.string s0] w fun e w' => e = .returned (.bool true) ∧ Below w.heap.size w w' := by
  by_cases hsz : s0.size ≤ 1048576
  · exact core s0 (pmV s0 0) (pmV s0 2) (pmV s0 4) (pmE s0) hsz (fun W => specParseMove_ret s0 W hsz) (fun W => implParseMove_ret s0 W hsz) w
  · unfold maxLen at w0
    go_enter Try.func4, Try.ntmps4
    go_wp2
    go_ret
    exact ⟨rfl, Below.refl _ _⟩

set_option maxRecDepth 100000 in
theorem lifted (os : Os) (started : os.Started) (H : Type) (enc : TypeId × Value → H) :
    ReturnsInHanded {} Try.checked os 4 .any (Rows.fnExactParseMoveSpec.pre6 enc Try.prog Try.f4 Rows.fnExactParseMoveRow.domain false) (Rows.fnExactParseMoveSpec.post enc Try.prog Try.f4 false true false false) := by
  refine returnsInHanded_of_change (C := Try.checked) own started (by kernel_rfl) Try.func4
    (ChangeSpec.witness6 (enc := enc) (C := Try.checked) false ⟨#[], #[.string ByteArray.empty], []⟩ 8 (by kernel_rfl) (by kernel_rfl) (by kernel_rfl) (by kernel_rfl)) ?_
  intro W base args ds gs before hval0 hW hcnd _
  have hval : ∀ (j : Nat) t v, Try.f4.params[j]? = some t → args[j]? = some v → Value.okWide Try.prog W .any base t v := hval0
  have hW' := hW
  obtain ⟨p, q, hA0, hV, rfl, hfz, hnd⟩ := hW
  have hA : DataW.TrodAll enc Try.prog W 0 (fun _ => true) true Try.f4.params.toList args.toList ds p := hA0
  rw [Try.params4] at hA hval
  obtain ⟨v0, vs0, d0, ds0, p0, q0, hargs, rfl, rfl, h0, r0⟩ := trodAll_cons hA
  obtain ⟨rfl, rfl, rfl⟩ := trodAll_nil r0
  obtain rfl : args = #[v0] := by cases args; simp_all
  obtain ⟨rfl, rfl⟩ := trodVars_none hV
  have lt0 : ∀ x ∈ p0, x.block < W.heap.size := by obtain ⟨m, hm⟩ := h0; exact DataW.trod_lt m _ _ _ hm
  have k0 := h0
  obtain ⟨s0, rfl, rfl, rfl, hs0⟩ := open_string Try.underlying9 (hval 0 9 v0 rfl rfl) h0
  clear hA0 hval0
  refine (walk s0 W hs0).mono fun e W' ⟨he, bel⟩ => ?_
  subst he
  exact ⟨_, rfl, _, _, _, [], _, [], hW', trodAll_mk1 (shut_bool Try.underlying4 _), (trodAll_cons_mk (Below.trod laidOut (by kernel_rfl) (of_decide_eq_true (by kernel_rfl)) k0 bel lt0) trodAll_mk0), rfl, bel.frame _, fun h => by cases h⟩

theorem over : Rows.fnExactParseMoveRow.holds Try.pinned (OpenSpec.ofChange Rows.fnExactParseMoveSpec) :=
  OpenClaim.holds_of_wide 4 Try.f4 rfl rfl rfl rfl rfl rfl rfl ⟨rfl, rfl, rfl, rfl, rfl⟩ rfl rfl rfl rfl rfl (by kernel_rfl) Try.func4 (by kernel_rfl)
    (of_decide_eq_true (by kernel_rfl)) (by unfold Func.isWrapper; first | (rw [if_pos (by decide +kernel)]; kernel_rfl) | (rw [if_neg (by decide +kernel)]; exact ⟨rfl, rfl⟩))
    (fun os started H enc _ => lifted os started H enc)

theorem proved : Rows.FnExactParseMoveSaid := over
#print axioms proved
end Go.Proofs.Yteokldpodaknpaa.fnExactParseMove
