/- 'MoveAt' of the program answers at every argument as the specification's model, the table math/bits.deBruijn64tab being as its own initialiser lays it (a tied card). Conditions: none. -/
import Derived.Test.YtfkifodojhpegaaDoorOpen
import Derived.Test.YtfkifodojhpegaaDoorOpen
import Derived.Test.YtfkifodojhpegaaDoorMvAt
import Derived.Test.YtfkifodojhpegaaDoorDoor
import Derived.Deep.RegionHeld3
import Derived.Test.YtfkifodojhpegaaDoorCards
import Derived.Test.YtfkifodojhpegaaDoorTie
import Derived.SevenTiedAt
import Derived.LaidMore
import Derived.Stop.Joined
namespace Go.Proofs.YtfkifodojhpegaaDoor.fnExactMoveAt
open Go.ChangeShapes Go.WideShapes Go.ChangeAt Go.RowKit Go.Joins
open Go.ChangeMaps (open_string)
set_option linter.unusedVariables false

set_option maxRecDepth 100000 in
set_option maxHeartbeats 2000000 in
theorem core (a0 m1 m2 m3 E : Int) (w : World) (hT : Tab w)
    (hspec : ∀ W, Calls Tryd.prog 7 #[.int .i64 a0] W (RetMd W (m1, m2, m3) E))
    (himpl : ∀ W, Tab W → Calls Tryd.prog 8 #[.int .i64 a0] W (RetMd W (m1, m2, m3) E)) :
    Calls Tryd.prog 4 #[.int .i64 a0] w fun e w' => e = .returned (.bool true) ∧ Below w.heap.size w w' := by
  have HS := Lib.hid hspec
  have HP := Lib.hid himpl
  have HT := Lib.hid hT
  clear hspec himpl hT
  go_enter Tryd.func4, Tryd.ntmps4
  go_wp2_with fail
  refine (HS.out _).mono ?_
  rintro e w1 ⟨rfl, hb⟩
  have HB1 := Lib.hid hb
  clear hb
  have hba : Below w.heap.size w (w1.alloc (.cells #[.int .i64 m1, .int .i64 m2, .int .i64 m3] 26)) := HB1.out.alloc HB1.out.size _
  have HBA := Lib.hid hba
  have HT1 := Lib.hid (HT.out.below hba)
  have HG := Lib.hid (Box.new w1 26 #[.int .i64 m1, .int .i64 m2, .int .i64 m3])
  clear hba
  go_wp2_with fail
  generalize hW2 : w1.alloc (.cells #[.int .i64 m1, .int .i64 m2, .int .i64 m3] 26) = W2 at *
  clear hW2
  generalize w1.heap.size = g1 at *
  refine (HP.out _ HT1.out).mono ?_
  rintro e w3 ⟨rfl, hb⟩
  have HB3 := Lib.hid (HBA.out.trans (hb.mono HBA.out.size))
  have HG3 := Lib.hid ((HG.out.below hb HG.out.lt).alloc (.cells #[.int .i64 m1, .int .i64 m2, .int .i64 m3] 26))
  have HF := Lib.hid (Box.new w3 26 #[.int .i64 m1, .int .i64 m2, .int .i64 m3])
  have HB4 := Lib.hid (HB3.out.alloc HB3.out.size (.cells #[.int .i64 m1, .int .i64 m2, .int .i64 m3] 26))
  clear hb
  obtain ⟨g0, g1', g2⟩ := HG3.out.three
  obtain ⟨f0, f1, f2⟩ := HF.out.three
  go_wp2_with fail
  generalize hW4 : w3.alloc (.cells #[.int .i64 m1, .int .i64 m2, .int .i64 m3] 26) = W4 at *
  clear hW4
  generalize w3.heap.size = g4 at *
  refine (eqMove_calls m1 m2 m3 m1 m2 m3 _).mono ?_
  rintro e w5 ⟨rfl, hb⟩
  have hm : mvEqB (m1, m2, m3) (m1, m2, m3) = true := by unfold mvEqB; simp
  rw [hm]
  have HB5 := Lib.hid (HB4.out.trans (hb.mono HB4.out.size))
  clear hb g0 g1' g2 f0 f1 f2 hm
  go_wp2
  go_ret
  exact ⟨rfl, HB5.out⟩

theorem walk (a0 : Int) (w : World) (ha0 : (Lit.int .i64 a0).wf = true) (hT : Tab w) :
    Calls Tryd.prog 4 #[.int .i64 a0] w fun e w' => e = .returned (.bool true) ∧ Below w.heap.size w w' :=
  core a0 (maM a0).1 (maM a0).2.1 (maM a0).2.2 (maE a0) w hT (fun W => specMoveAt_ret a0 W) (fun W h => implMoveAt_ret a0 W h)

theorem door_met (os : Os) (args : Array Value) : laidMetH Tryd.prog Rows.fnExactMoveAtRow.laid ((World.doorLaid Tryd.prog 14 os).forCall (fun _ _ => 0) ⟨#[], args, []⟩).memory :=
  laidMetH_of_parts3 (fuel := 8) (laidMet_of_run' 8 (by kernel_rfl) (by kernel_rfl)) (by kernel_rfl) (by kernel_rfl)
theorem tab_of_laid {W : World} (h : laidMetH Tryd.prog Rows.fnExactMoveAtRow.laid W) : Tab W := by
  rw [MakeChecks.laidMetH_plain _ _ _ (by kernel_rfl)] at h
  exact tab_of h

set_option maxRecDepth 100000 in
theorem lifted (os : Os) (started : os.Started) (H : Type) (enc : TypeId × Value → H) :
    ReturnsInHanded {} Tryd.checked os 4 .any (fun w args => (Rows.fnExactMoveAtSpec.pre enc Tryd.prog Tryd.f4 [] false w args ∧ laidMetH Tryd.prog Rows.fnExactMoveAtRow.laid w) ∧ sizedMet enc Tryd.prog Tryd.f4 (OpenSpec.ofChange Rows.fnExactMoveAtSpec) false w args)
      (Rows.fnExactMoveAtSpec.post enc Tryd.prog Tryd.f4 false true false false) := by
  refine returnsInHanded_of_change_and (C := Tryd.checked) (X := fun w _ => laidMetH Tryd.prog Rows.fnExactMoveAtRow.laid w) (fun _ _ _ hh h => h.of_heap hh) own started (by kernel_rfl) Tryd.func4
    (ChangeSpec.witness_shaped (enc := enc) (C := Tryd.checked) (os := os) (X := fun w _ => laidMetH Tryd.prog Rows.fnExactMoveAtRow.laid w) false (World.doorLaid Tryd.prog 14 os) #[.int .i64 0] 8 rfl (World.shaped_of_RefB (by kernel_rfl) (by kernel_rfl)) (by kernel_rfl) (by kernel_rfl) (by kernel_rfl) (door_met os _)) ?_
  intro W base args ds gs before hval0 hW _ _ hL _
  have hval : ∀ (j : Nat) t v, Tryd.f4.params[j]? = some t → args[j]? = some v → Value.okWide Tryd.prog W .any base t v := hval0
  have hW' := hW
  obtain ⟨p, q, hA0, hV, rfl, hfz, hnd⟩ := hW
  have hA : DataW.TrodAll enc Tryd.prog W 0 (fun _ => true) true Tryd.f4.params.toList args.toList ds p := hA0
  rw [Tryd.params4] at hA hval
  obtain ⟨v0, vs0, d0, ds0, p0, q0, hargs, rfl, rfl, h0, r0⟩ := trodAll_cons hA
  obtain ⟨rfl, rfl, rfl⟩ := trodAll_nil r0
  obtain rfl : args = #[v0] := by cases args; simp_all
  obtain ⟨rfl, rfl⟩ := trodVars_none hV
  have lt0 : ∀ x ∈ p0, x.block < W.heap.size := by obtain ⟨m, hm⟩ := h0; exact DataW.trod_lt m _ _ _ hm
  have k0 := h0
  obtain ⟨a0, rfl, rfl, rfl, w0⟩ := open_int Tryd.underlying2 (hval 0 2 v0 rfl rfl) h0
  clear hA0 hval0
  refine ((walk a0 W w0 (tab_of_laid hL))).mono fun e W' ⟨he, bel⟩ => ?_
  subst he
  exact ⟨_, rfl, _, _, _, [], _, [], hW', trodAll_mk1 (shut_bool Tryd.underlying4 _), (trodAll_cons_mk (Below.trod laidOut (by kernel_rfl) (of_decide_eq_true (by kernel_rfl)) k0 bel lt0) trodAll_mk0), rfl, bel.frame _, fun h => by cases h⟩

theorem over : Rows.fnExactMoveAtRow.holds Tryd.pinned (OpenSpec.ofChange Rows.fnExactMoveAtSpec) :=
  OpenClaim.holds_of_wide 4 Tryd.f4 rfl rfl rfl rfl rfl rfl rfl ⟨rfl, rfl, rfl, rfl, rfl⟩ rfl rfl rfl rfl rfl (by kernel_rfl) Tryd.func4 (by kernel_rfl)
    (of_decide_eq_true (by kernel_rfl)) (by unfold Func.isWrapper; first | (rw [if_pos (by decide +kernel)]; kernel_rfl) | (rw [if_neg (by decide +kernel)]; exact ⟨rfl, rfl⟩))
    (fun os started H enc _ => lifted os started H enc)

theorem proved : Rows.FnExactMoveAtCardSaid :=
  Claim7.holds_tied_plain_at .later [] [.data] true _ _
    over (fun _ h => by cases h) (by kernel_rfl) (fun _ h => by cases h) fnExactMoveAt_row_tie rfl ⟨rfl, rfl⟩ (by kernel_rfl) rfl
    (fun f fn hf hfn => by
      obtain rfl : f = 4 := Option.some.inj ((show Tryd.prog.funcNamed "loop.example/g01321/laws.FnExactMoveAt" = some 4 by kernel_rfl).symm.trans hf) |>.symm
      obtain rfl : fn = Tryd.f4 := (Option.some.inj (Tryd.func4.symm.trans hfn)).symm
      exact ⟨by kernel_rfl, fun j t ht => by
        rw [Tryd.params4] at ht
        have hm : t ∈ [2] := by simpa using Array.mem_of_getElem? ht
        have hall : ([2].all fun u => !Tryd.prog.wantsStandIn u) = true := by kernel_rfl
        exact (show Tryd.prog.wantsStandIn t = false by simpa using List.all_eq_true.1 hall t hm)⟩)
    (by kernel_rfl)
#print axioms proved
end Go.Proofs.YtfkifodojhpegaaDoor.fnExactMoveAt
