/- Contracts: the plain numbers of chapter 10. -/
import Derived.Test.YtgdkbplgonpelaaDoorTt
namespace Go.Proofs.YtgdkbplgonpelaaDoor
open Go.RowKit
open Go.RowKit (wrap64)
set_option linter.unusedVariables false

/-- How many of the moves at 1 to t are those of the disc d. -/
def mvN (t d : Nat) : Nat := (t + 2 ^ d) / 2 ^ (d + 1)
/-- The peg of a disc behind q moves of it. -/
def pgN (d q : Nat) : Nat := if d % 2 = 0 then q % 3 else (2 * q) % 3
theorem pgN_lt (d q : Nat) : pgN d q < 3 := by unfold pgN; split <;> omega
theorem pgN_even {d q : Nat} (h : d % 2 = 0) : pgN d q = q % 3 := by unfold pgN; rw [if_pos h]
theorem pgN_odd {d q : Nat} (h : ¬ d % 2 = 0) : pgN d q = (2 * q) % 3 := by unfold pgN; rw [if_neg h]
theorem pow2_40 {d : Nat} (h : d ≤ 41) : 1 ≤ 2 ^ d ∧ 2 ^ d ≤ 2199023255552 := ⟨Nat.one_le_two_pow, Nat.le_trans (Nat.pow_le_pow_right (by omega) h) (by decide)⟩
theorem wrap_pow41 {d : Nat} (h : d ≤ 41) : wrap64 ((2 : Int) ^ d) = ((2 ^ d : Nat) : Int) := by
  have h0 := pow2_40 h
  have h1 : ((2 ^ d : Nat) : Int) = (2 : Int) ^ d := by simp
  rw [← h1]
  exact IntWalk.wrap64_in _ (by omega)
def cdB (t d : Int) : Bool := inB t 0 1000000000000 && inB d 0 40
def cdV (t d : Int) : Int := twoV (cdB t d) (mvN t.toNat d.toNat : Int)
def cdE (t d : Int) : Int := twoE (cdB t d)

set_option maxHeartbeats 400000 in
theorem movesOfDisc_calls (t d : Nat) (w : World) (ht : t ≤ 2000000000000) (hd : d ≤ 41) :
    Calls Tryd.prog 20 #[.int .i64 t, .int .i64 d] w fun e w' => e = .returned (.int .i64 (mvN t d)) ∧ w = w' := by
  obtain ⟨D, hD⟩ : ∃ D : Nat, Hid (D = 2 ^ d) := ⟨_, rfl⟩
  have hDb : 1 ≤ D ∧ D ≤ 2199023255552 := by rw [hD.out]; exact pow2_40 hd
  have HW : Hid (wrap64 ((2 : Int) ^ d) = (D : Int)) := by unfold Hid; rw [hD.out]; exact wrap_pow41 hd
  have hw := HW.out
  go_enter Tryd.func20, Tryd.ntmps20
  go_wp2
  go_ret
  exact ⟨ret_int (by unfold mvN; rw [← hD.out]; simp), rfl⟩

theorem pegBehind_calls (d q : Nat) (w : World) (hq : q ≤ 4000000000000) :
    Calls Tryd.prog 21 #[.int .i64 d, .int .i64 q] w fun e w' => e = .returned (.int .i64 (pgN d q)) ∧ w = w' := by
  by_cases h : d % 2 = 0
  · have H := Lib.hid (pgN_even (q := q) h)
    have h2 : (d : Int).tmod 2 = 0 := by rw [Int.tmod_eq_emod_of_nonneg (by omega)]; omega
    go_enter Tryd.func21, Tryd.ntmps21
    go_wp2
    go_ret
    exact ⟨ret_int (by rw [H.out]; first | rfl | omega | (rw [Int.tmod_eq_emod_of_nonneg (by omega)]; omega)), rfl⟩
  · have H := Lib.hid (pgN_odd (q := q) h)
    have h2 : ¬ (d : Int).tmod 2 = 0 := by rw [Int.tmod_eq_emod_of_nonneg (by omega)]; omega
    go_enter Tryd.func21, Tryd.ntmps21
    go_wp2
    go_ret
    exact ⟨ret_int (by rw [H.out]; first | rfl | omega | (rw [Int.tmod_eq_emod_of_nonneg (by omega)]; omega)), rfl⟩

theorem l10Peg_calls (d q : Nat) (w : World) (hq : q ≤ 4000000000000) :
    Calls Tryd.prog 14 #[.int .i64 d, .int .i64 q] w fun e w' => e = .returned (.int .i64 (pgN d q)) ∧ w = w' := by
  by_cases h : d % 2 = 0
  · have H := Lib.hid (pgN_even (q := q) h)
    have h2 : (d : Int).tmod 2 = 0 := by rw [Int.tmod_eq_emod_of_nonneg (by omega)]; omega
    go_enter Tryd.func14, Tryd.ntmps14
    go_wp2
    go_ret
    exact ⟨ret_int (by rw [H.out]; first | rfl | omega | (rw [Int.tmod_eq_emod_of_nonneg (by omega)]; omega)), rfl⟩
  · have H := Lib.hid (pgN_odd (q := q) h)
    have h2 : ¬ (d : Int).tmod 2 = 0 := by rw [Int.tmod_eq_emod_of_nonneg (by omega)]; omega
    go_enter Tryd.func14, Tryd.ntmps14
    go_wp2
    go_ret
    exact ⟨ret_int (by rw [H.out]; first | rfl | omega | (rw [Int.tmod_eq_emod_of_nonneg (by omega), Int.tmod_eq_emod_of_nonneg (by omega)]; omega)), rfl⟩

end Go.Proofs.YtgdkbplgonpelaaDoor
