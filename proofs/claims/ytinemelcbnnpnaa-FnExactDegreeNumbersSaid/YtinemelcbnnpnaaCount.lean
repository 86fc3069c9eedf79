/- Contracts: numbers of states. -/
import Derived.Test.YtinemelcbnnpnaaState1
namespace Go.Proofs.Ytinemelcbnnpnaa
open Go.RowKit
set_option linter.unusedVariables false

def cntE (k n : Int) : Int := if fitsB k n = true then 0 else 2
theorem cntE_yes {k n : Int} (h : fitsB k n = true) : cntE k n = 0 := by unfold cntE; rw [if_pos h]
theorem cntE_no {k n : Int} (h : fitsB k n = false) : cntE k n = 2 := by unfold cntE; rw [h]; rfl

theorem l03Given_calls (k n : Int) (w : World) :
    Calls Try.prog 52 #[.int .i64 k, .int .i64 n] w fun e w' => e = .returned (.int .i64 (cntE k n)) ∧ w = w' := by
  by_cases hf : fitsB k n = true
  · go_enter Try.func52, Try.ntmps52
    go_wp2_with fail
    refine (l01Fits_calls k n _).mono ?_
    rintro e w' ⟨rfl, rfl⟩
    go_wp2
    go_ret
    exact ⟨ret_int (cntE_yes hf).symm, rfl⟩
  · have hf' : fitsB k n = false := by simpa using hf
    clear hf
    go_enter Try.func52, Try.ntmps52
    go_wp2_with fail
    refine (l01Fits_calls k n _).mono ?_
    rintro e w' ⟨rfl, rfl⟩
    go_wp2
    go_ret
    exact ⟨ret_int (cntE_no hf').symm, rfl⟩

end Go.Proofs.Ytinemelcbnnpnaa
