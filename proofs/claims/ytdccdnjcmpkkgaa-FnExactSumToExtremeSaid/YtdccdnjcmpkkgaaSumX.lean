/- Contracts: the sum of the distances to an extreme word. -/
import Derived.Test.YtdccdnjcmpkkgaaToE
namespace Go.Proofs.Ytdccdnjcmpkkgaa
open Go.RowKit
open Go.RowKit (wrap64)
set_option linter.unusedVariables false

def sxC (k n : Int) : Int := if fitsB k n = true then 0 else 2
def sxQ (k : Int) (m : Nat) : Int := (powI k m).tdiv k * (k - 1)
def sxV (k n : Int) : Int := if fitsB k n = true then sxQ k n.toNat * (pow2 n.toNat - 1) else 0
theorem sx_bd {k : Int} {m : Nat} (h3 : 3 ≤ k) (h5 : k ≤ 5) (hm : m ≤ 8) : 0 ≤ (powI k m).tdiv k ∧ (powI k m).tdiv k ≤ 390625 := by
  have hb := powI_bd k h3 h5 m hm
  refine ⟨Int.tdiv_nonneg (by omega) (by omega), ?_⟩
  rw [Int.tdiv_eq_ediv_of_nonneg (by omega)]
  have := Int.ediv_le_self (a := powI k m) k (by omega)
  omega

theorem sxQ_bd {k : Int} {m : Nat} (h3 : 3 ≤ k) (h5 : k ≤ 5) (hm : m ≤ 8) : 0 ≤ sxQ k m ∧ sxQ k m ≤ 10000000 := by
  have hd := sx_bd h3 h5 hm
  unfold sxQ
  exact ⟨Int.mul_nonneg hd.1 (by omega), by have := Int.mul_le_mul hd.2 (show k - 1 ≤ 4 by omega) (by omega) (by omega); omega⟩
theorem sx_step {k : Int} {j l : Nat} (h3 : 3 ≤ k) (h5 : k ≤ 5) (hj : j ≤ 8) (hl : l ≤ 8) :
    wrap64 (sxQ k j * (pow2 l - 1) + wrap64 (wrap64 ((powI k j).tdiv k * (k - 1)) * pow2 l)) = sxQ k j * (pow2 (l + 1) - 1) := by
  have hq := sxQ_bd h3 h5 hj
  have hp := pow2_bd hl
  have e1 : wrap64 ((powI k j).tdiv k * (k - 1)) = sxQ k j := by unfold sxQ at *; exact IntWalk.wrap64_in _ (by omega)
  have hs1 : 0 ≤ sxQ k j * (pow2 l - 1) ∧ sxQ k j * (pow2 l - 1) ≤ 2560000000 := ⟨Int.mul_nonneg hq.1 (by omega), by have := Int.mul_le_mul hq.2 (show pow2 l - 1 ≤ 256 by omega) (by omega) (by omega); omega⟩
  have hs2 : 0 ≤ sxQ k j * pow2 l ∧ sxQ k j * pow2 l ≤ 2560000000 := ⟨Int.mul_nonneg hq.1 (by omega), by have := Int.mul_le_mul hq.2 (show pow2 l ≤ 256 by omega) (by omega) (by omega); omega⟩
  rw [e1, IntWalk.wrap64_in (sxQ k j * pow2 l) (by omega), IntWalk.wrap64_in _ (by omega), pow2_succ, Int.mul_sub, Int.mul_sub]
  have : sxQ k j * (2 * pow2 l) = 2 * (sxQ k j * pow2 l) := by rw [Int.mul_left_comm]
  omega
theorem sx_one {k : Int} {m : Nat} (h3 : 3 ≤ k) (h5 : k ≤ 5) (hm : m ≤ 8) :
    wrap64 (wrap64 ((pow2 m - 1) * (k - 1)) * (powI k m).tdiv k) = sxQ k m * (pow2 m - 1) := by
  have hd := sx_bd h3 h5 hm
  have hp := pow2_bd hm
  have h1 : 0 ≤ (pow2 m - 1) * (k - 1) ∧ (pow2 m - 1) * (k - 1) ≤ 1024 := ⟨Int.mul_nonneg (by omega) (by omega), by have := Int.mul_le_mul (show pow2 m - 1 ≤ 256 by omega) (show k - 1 ≤ 4 by omega) (by omega) (by omega); omega⟩
  have h2 := mul_bd (a := (pow2 m - 1) * (k - 1)) (b := (powI k m).tdiv k) (by omega) (by omega)
  rw [IntWalk.wrap64_in ((pow2 m - 1) * (k - 1)) (by omega), IntWalk.wrap64_in _ (by omega)]
  unfold sxQ
  rw [Int.mul_comm, ← Int.mul_assoc, Int.mul_right_comm]

set_option maxHeartbeats 1000000 in
theorem specSumToExtreme_calls (k n : Int) (w : World) :
    Calls Try.prog 11 #[.int .i64 k, .int .i64 n] w fun e w' => e = .returned (.tuple #[.int .i64 (sxV k n), .int .i64 (sxC k n)]) ∧ w = w' := by
  by_cases hf : fitsB k n = true
  · have hbd := fitsB_bd hf
    obtain ⟨m, rfl⟩ := Int.eq_ofNat_of_zero_le hbd.2.2.1
    have q1 := Lib.hid (show sxV k m = sxQ k m * (pow2 m - 1) by unfold sxV; rw [if_pos hf, Int.toNat_natCast])
    have q2 := Lib.hid (show sxC k m = 0 by unfold sxC; rw [if_pos hf])
    go_enter Try.func11, Try.ntmps11
    go_wp2_with fail
    refine (l04Sizes_calls k m _).mono ?_
    rintro e w' ⟨rfl, rfl⟩
    go_wp2
    go_loop [6, 8] (fun o i => ∃ j : Nat, j ≤ m ∧ i = .int .i64 j ∧ o = .int .i64 (powI k j)) (fun _ i => m - (intOf i).toNat)
    case atStart => exact ⟨0, Nat.zero_le _, rfl, rfl⟩
    case round =>
      obtain ⟨j, hj, rfl, rfl⟩ := hrel
      have hb := powI_bd k (by omega) (by omega) j (by omega)
      by_cases hlt : j < m
      · have hb' : 0 ≤ powI k j * k ∧ powI k j * k ≤ 9000000 := by
          have := powI_bd k (by omega) (by omega) (j + 1) (by omega)
          simp only [powI] at this
          omega
        go_wp2
        go_round
        case rel => exact ⟨j + 1, by omega, by go_num, rfl⟩
        case measure => simp [intOf]; omega
      · obtain rfl : j = m := by omega
        have hd := sx_bd (k := k) (m := j) (by omega) (by omega) (by omega)
        clear hf
        go_wp2
        go_loop [7, 9] (fun o i => ∃ l : Nat, l ≤ j ∧ i = .int .i64 l ∧ o = .int .i64 (sxQ k j * (pow2 l - 1))) (fun _ i => j - (intOf i).toNat)
        case atStart => exact ⟨0, Nat.zero_le _, rfl, by simp [pow2_zero]⟩
        case round =>
          obtain ⟨l, hl, rfl, rfl⟩ := hrel
          by_cases hlt : l < j
          · have hp := pow2_bd (k := l) (by omega)
            have hsh := shl_pow4 (k := l) (by omega)
            have HST := Lib.hid (sx_step (k := k) (j := j) (l := l) (by omega) (by omega) (by omega) (by omega))
            go_wp2
            go_round
            case rel => exact ⟨l + 1, by omega, by go_num, by rw [HST.out]⟩
            case measure => simp [intOf]; omega
          · obtain rfl : l = j := by omega
            go_wp2
            go_ret2
            exact ⟨ret_twoE q1.out q2.out, rfl⟩
  · have hf' : fitsB k n = false := by simpa using hf
    have q1 := Lib.hid (show sxV k n = 0 by unfold sxV; rw [if_neg hf])
    have q2 := Lib.hid (show sxC k n = 2 by unfold sxC; rw [if_neg hf])
    clear hf
    go_enter Try.func11, Try.ntmps11
    go_wp2_with fail
    refine (l04Sizes_calls k n _).mono ?_
    rintro e w' ⟨rfl, rfl⟩
    go_wp2
    go_ret2
    exact ⟨ret_twoE q1.out q2.out, rfl⟩

set_option maxHeartbeats 1000000 in
theorem implSumToExtreme_calls (k n : Int) (w : World) :
    Calls Try.prog 12 #[.int .i64 k, .int .i64 n] w fun e w' => e = .returned (.tuple #[.int .i64 (sxV k n), .int .i64 (sxC k n)]) ∧ w = w' := by
  by_cases hf : fitsB k n = true
  · have hbd := fitsB_bd hf
    obtain ⟨m, rfl⟩ := Int.eq_ofNat_of_zero_le hbd.2.2.1
    have q1 := Lib.hid (show sxV k m = sxQ k m * (pow2 m - 1) by unfold sxV; rw [if_pos hf, Int.toNat_natCast])
    have q2 := Lib.hid (show sxC k m = 0 by unfold sxC; rw [if_pos hf])
    have hn : numOf k m = powI k m := by rw [numOf_yes hf, Int.toNat_natCast]
    have hb := powI_bd k (by omega) (by omega) m (by omega)
    have hd := sx_bd (k := k) (m := m) (by omega) (by omega) (by omega)
    have hp := pow2_bd (k := m) (by omega)
    have hsh := shl_pow4 (k := m) (by omega)
    go_enter Try.func12, Try.ntmps12
    go_wp2_with fail
    refine (numberOfStates_calls k m _).mono ?_
    rintro e w' ⟨rfl, rfl⟩
    rw [hn]
    clear hn
    go_wp2
    go_ret2
    exact ⟨ret_twoE (q1.out.trans (sx_one (by omega) (by omega) (by omega)).symm) q2.out, rfl⟩
  · have hf' : fitsB k n = false := by simpa using hf
    have q1 := Lib.hid (show sxV k n = 0 by unfold sxV; rw [if_neg hf])
    have q2 := Lib.hid (show sxC k n = 2 by unfold sxC; rw [if_neg hf])
    clear hf
    go_enter Try.func12, Try.ntmps12
    go_wp2_with fail
    refine (numberOfStates_calls k n _).mono ?_
    rintro e w' ⟨rfl, rfl⟩
    go_wp2
    go_ret2
    exact ⟨ret_twoE q1.out q2.out, rfl⟩

end Go.Proofs.Ytdccdnjcmpkkgaa
