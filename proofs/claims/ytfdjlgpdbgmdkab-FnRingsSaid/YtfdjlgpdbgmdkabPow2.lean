/- Contracts: powers of two: how many words of rings there are. -/
import Derived.Test.YtfdjlgpdbgmdkabState1
namespace Go.Proofs.Ytfdjlgpdbgmdkab
open Go.RowKit
set_option linter.unusedVariables false

theorem pow2n16 {n : Nat} (h : n ≤ 16) : 1 ≤ 2 ^ n ∧ 2 ^ n ≤ 65536 :=
  ⟨Nat.one_le_two_pow, Nat.le_trans (Nat.pow_le_pow_right (by omega) h) (by decide)⟩

theorem wrap_pow {n : Nat} (h : n ≤ 16) : wrap64 ((2 : Int) ^ n) = ((2 ^ n : Nat) : Int) := by
  have h0 := pow2n16 h
  have h1 : ((2 ^ n : Nat) : Int) = (2 : Int) ^ n := by simp
  rw [← h1]
  exact IntWalk.wrap64_in _ (by omega)
set_option maxHeartbeats 400000 in
theorem l01Size_two (n N : Nat) (w : World) (hn : n ≤ 16) (hN : Hid (N = 2 ^ n)) :
    Calls Try.prog 46 #[.int .i64 2, .int .i64 n] w fun e w' => e = .returned (.int .i64 N) ∧ w = w' := by
  go_enter Try.func46, Try.ntmps46
  go_wp2
  go_loop [1, 5] (fun m o => ∃ j x : Nat, j ≤ n ∧ m = .int .i64 ((n : Int) - j) ∧ o = .int .i64 x ∧ Hid (x = 2 ^ j)) (fun m _ => (intOf m).toNat)
  case atStart => exact ⟨0, 1, Nat.zero_le _, by simp, rfl, rfl⟩
  case round =>
    obtain ⟨j, x, hj, rfl, rfl, hx⟩ := hrel
    have hb : x ≤ 65536 := by rw [hx.out]; exact (pow2n16 (by omega)).2
    by_cases hlt : j < n
    · go_wp2
      go_round
      case rel => exact ⟨j + 1, x * 2, by omega, by go_num, by go_num, by unfold Hid; rw [hx.out, Nat.pow_succ]⟩
      case measure => simp [intOf]; omega
    · obtain rfl : j = n := by omega
      go_wp2
      go_ret
      exact ⟨ret_int (by rw [hx.out, hN.out]), rfl⟩

theorem ret_nb {a b : Int} {x : Bool} (h : a = b) : Ending.returned (.tuple #[.int .i64 a, .bool x]) = .returned (.tuple #[.int .i64 b, .bool x]) := by rw [h]
theorem numberOfWords_yes (n N : Nat) (w : World) (hn : n ≤ 16) (hN : Hid (N = 2 ^ n)) :
    Calls Try.prog 35 #[.int .i64 n] w fun e w' => e = .returned (.tuple #[.int .i64 N, .bool true]) ∧ w = w' := by
  go_enter Try.func35, Try.ntmps35
  go_wp2
  go_ret2
  exact ⟨ret_nb (by rw [hN.out]; exact wrap_pow hn), rfl⟩
theorem numberOfWords_no (n : Int) (w : World) (hn : ¬ (0 ≤ n ∧ n ≤ 16)) :
    Calls Try.prog 35 #[.int .i64 n] w fun e w' => e = .returned (.tuple #[.int .i64 0, .bool false]) ∧ w = w' := by
  by_cases h : n < 0
  · go_enter Try.func35, Try.ntmps35
    go_wp2
    go_ret2
    exact ⟨rfl, rfl⟩
  · have h2 : 16 < n := by omega
    go_enter Try.func35, Try.ntmps35
    go_wp2
    go_ret2
    exact ⟨rfl, rfl⟩

end Go.Proofs.Ytfdjlgpdbgmdkab
