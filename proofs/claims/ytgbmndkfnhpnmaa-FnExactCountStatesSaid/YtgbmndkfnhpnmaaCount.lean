/- Contracts: numbers of states. -/
import Derived.Test.YtgbmndkfnhpnmaaState1
namespace Go.Proofs.Ytgbmndkfnhpnmaa
open Go.RowKit
set_option linter.unusedVariables false

def cntE (k n : Int) : Int := if fitsB k n = true then 0 else 2
theorem cntE_yes {k n : Int} (h : fitsB k n = true) : cntE k n = 0 := by unfold cntE; rw [if_pos h]
theorem cntE_no {k n : Int} (h : fitsB k n = false) : cntE k n = 2 := by unfold cntE; rw [h]; rfl

theorem l03Given_calls (k n : Int) (w : World) :
    Calls Try.prog 44 #[.int .i64 k, .int .i64 n] w fun e w' => e = .returned (.int .i64 (cntE k n)) ∧ w = w' := by
  by_cases hf : fitsB k n = true
  · go_enter Try.func44, Try.ntmps44
    go_wp2_with fail
    refine (l01Fits_calls k n _).mono ?_
    rintro e w' ⟨rfl, rfl⟩
    go_wp2
    go_ret
    exact ⟨ret_int (cntE_yes hf).symm, rfl⟩
  · have hf' : fitsB k n = false := by simpa using hf
    clear hf
    go_enter Try.func44, Try.ntmps44
    go_wp2_with fail
    refine (l01Fits_calls k n _).mono ?_
    rintro e w' ⟨rfl, rfl⟩
    go_wp2
    go_ret
    exact ⟨ret_int (cntE_no hf').symm, rfl⟩

theorem specCountStates_calls (k n : Int) (w : World) :
    Calls Try.prog 22 #[.int .i64 k, .int .i64 n] w fun e w' => e = .returned (.tuple #[.int .i64 (numOf k n), .int .i64 (cntE k n)]) ∧ w = w' := by
  by_cases hf : fitsB k n = true
  · have hbd := fitsB_bd hf
    obtain ⟨m, rfl⟩ := Int.eq_ofNat_of_zero_le hbd.2.2.1
    have q1 := Lib.hid (numOf_yes hf)
    have q2 := cntE_yes hf
    have q3 := Lib.hid (cntE_yes hf)
    clear hf
    go_enter Try.func22, Try.ntmps22
    go_wp2_with fail
    refine (l03Given_calls k m _).mono ?_
    rintro e w' ⟨rfl, rfl⟩
    go_wp2_with fail
    refine (l01Size_calls k m _ (by omega) (by omega) (by omega)).mono ?_
    rintro e w' ⟨rfl, rfl⟩
    clear q2
    go_wp2
    go_ret2
    exact ⟨ret_two (by rw [q1.out, Int.toNat_natCast]) q3.out, rfl⟩
  · have hf' : fitsB k n = false := by simpa using hf
    have q1 := Lib.hid (numOf_no hf')
    have q2 := cntE_no hf'
    have q3 := Lib.hid (cntE_no hf')
    clear hf hf'
    go_enter Try.func22, Try.ntmps22
    go_wp2_with fail
    refine (l03Given_calls k n _).mono ?_
    rintro e w' ⟨rfl, rfl⟩
    go_wp2
    go_ret2
    exact ⟨ret_two q1.out q3.out, rfl⟩

theorem implCountStates_calls (k n : Int) (w : World) :
    Calls Try.prog 23 #[.int .i64 k, .int .i64 n] w fun e w' => e = .returned (.tuple #[.int .i64 (numOf k n), .int .i64 (cntE k n)]) ∧ w = w' := by
  by_cases hf : fitsB k n = true
  · have q3 := Lib.hid (cntE_yes hf)
    go_enter Try.func23, Try.ntmps23
    go_wp2_with fail
    refine (numberOfStates_calls k n _).mono ?_
    rintro e w' ⟨rfl, rfl⟩
    go_wp2
    go_ret2
    exact ⟨ret_two rfl q3.out, rfl⟩
  · have hf' : fitsB k n = false := by simpa using hf
    have q1 := Lib.hid (numOf_no hf')
    have q3 := Lib.hid (cntE_no hf')
    clear hf
    go_enter Try.func23, Try.ntmps23
    go_wp2_with fail
    refine (numberOfStates_calls k n _).mono ?_
    rintro e w' ⟨rfl, rfl⟩
    go_wp2
    go_ret2
    exact ⟨ret_two q1.out q3.out, rfl⟩

end Go.Proofs.Ytgbmndkfnhpnmaa
