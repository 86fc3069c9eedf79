/- Contracts: the code of rules. -/
import Derived.Test.YtfdjlgpdbgmdkacRuIs
namespace Go.Proofs.Ytfdjlgpdbgmdkac
open Go.RowKit
set_option linter.unusedVariables false

/-- The code of rules. -/
def cR (r : Nat → Int) : Int := if ruB r = true then 0 else 1
theorem cR_yes {r : Nat → Int} (h : ruB r = true) : cR r = 0 := by unfold cR; rw [if_pos h]
theorem cR_no {r : Nat → Int} (h : ruB r = false) : cR r = 1 := by unfold cR; rw [h]; rfl

set_option maxRecDepth 100000 in
set_option maxHeartbeats 1000000 in
theorem codeOfRules_nil (r : Nat → Int) (hw : ∀ k, k < 9 → (Lit.int .i64 (r k)).wf = true) (w : World) :
    Calls Try.prog 37 #[.agg (z9 r), .slice none 0 0] w fun e w' => e = .returned (.int .i64 (cR r)) ∧ Below w.heap.size w w' := by
  have HW := Lib.hid hw
  clear hw
  have HB0 := Lib.hid ((Below.refl w.heap.size w).alloc (Nat.le_refl _) (.cells (z9 r) 26))
  by_cases hr : ruB r = true
  · have HR := Lib.hid hr
    unfold z9
    go_enter Try.func37, Try.ntmps37
    go_wp2_with fail
    refine (implIsRules_calls r HW.out _).mono ?_
    rintro e w1 ⟨rfl, hb⟩
    have HB1 := Lib.hid (HB0.out.trans (hb.mono (by simp)))
    clear hb
    go_wp2
    go_rounds 1
    go_ret
    exact ⟨ret_int (cR_yes HR.out).symm, HB1.out⟩
  · have hr' : ruB r = false := by simpa using hr
    clear hr
    unfold z9
    go_enter Try.func37, Try.ntmps37
    go_wp2_with fail
    refine (implIsRules_calls r HW.out _).mono ?_
    rintro e w1 ⟨rfl, hb⟩
    have HB1 := Lib.hid (HB0.out.trans (hb.mono (by simp)))
    clear hb
    go_wp2
    go_ret
    exact ⟨ret_int (cR_no hr').symm, HB1.out⟩

end Go.Proofs.Ytfdjlgpdbgmdkac
