/- Contracts: the distance to an extreme word. -/
import Derived.Test.YtnfjdggiaodhmaaWCode
import Derived.Test.YtnfjdggiaodhmaaWays
namespace Go.Proofs.Ytnfjdggiaodhmaa
open Go.RowKit
open Go.RowKit (wrap64)
set_option linter.unusedVariables false

/-- The sum of 2^i over the first places with another number than j. -/
def toE (L : List Int) (j : Int) : Nat → Int
  | 0 => 0
  | k + 1 => toE L j k + if L[k]?.getD 0 = j then 0 else pow2 k
theorem toE_bd (L : List Int) (j : Int) : ∀ k, k ≤ 8 → 0 ≤ toE L j k ∧ toE L j k + 1 ≤ pow2 k
  | 0, _ => by simp [toE, pow2_zero]
  | k + 1, h => by
    have ih := toE_bd L j k (by omega)
    have hp := pow2_succ k
    have hb := pow2_bd (k := k) (by omega)
    unfold toE
    split <;> omega
theorem toE_eq {L : List Int} {j : Int} {k : Nat} (h : L[k]?.getD 0 = j) : toE L j (k + 1) = toE L j k := by rw [toE, if_pos h, Int.add_zero]
theorem toE_ne {L : List Int} {j : Int} {k : Nat} (h : ¬ L[k]?.getD 0 = j) : toE L j (k + 1) = toE L j k + pow2 k := by rw [toE, if_neg h]

/-- 1 shifted to the left, as the walk writes it, is a power of 2. -/
theorem shl_pow4 {k : Nat} (hk : k < 9) : wrap64 ((2 : Int) ^ k) = pow2 k := by
  have e : (2 : Int) ^ k = pow2 k := by unfold pow2; simp
  have hb := pow2_bd (k := k) (by omega)
  rw [e]
  exact IntWalk.wrap64_in _ (by omega)

set_option maxHeartbeats 1000000 in
theorem l04To_calls (A : Option Addr) (n c : Nat) (L : List Int) (j : Int) (w : World) (hL : n ≤ L.length) (hn : n ≤ 8) (hI : Ints w A L) :
    Calls Try.prog 30 #[.slice A n c, .int .i64 j] w fun e w' => e = .returned (.int .i64 (toE L j n)) ∧ w = w' := by
  have HL := Lib.hid hL
  have HI := Lib.hid hI
  clear hL hI
  go_enter Try.func30, Try.ntmps30
  go_wp2
  go_loop [5, 6] (fun s i => ∃ k : Nat, k ≤ n ∧ i = .int .i64 k ∧ s = .int .i64 (toE L j k)) (fun _ i => n - (intOf i).toNat)
  case atStart => exact ⟨0, Nat.zero_le _, rfl, rfl⟩
  case round =>
    obtain ⟨k, hk, rfl, rfl⟩ := hrel
    by_cases hlt : k < n
    · obtain ⟨ad, rfl, had, hc⟩ := HI.out k (by have := HL.out; omega)
      have hbd := toE_bd L j k (by omega)
      have hpw := pow2_bd (k := k) (by omega)
      have hk0 : (0 : Int) ≤ (k : Int) := by omega
      have hk1 : (k : Int) < (n : Int) := by omega
      by_cases hne : L[k]?.getD 0 = j
      · have ht : (L[k]?.getD 0 != j) = false := by simpa using hne
        have HST := Lib.hid (toE_eq hne)
        clear hne
        go_wp2
        go_round
        case rel => exact ⟨k + 1, by omega, by go_num, by rw [HST.out]⟩
        case measure => simp [intOf]; omega
      · have ht : (L[k]?.getD 0 != j) = true := by simpa using hne
        have HST := Lib.hid (toE_ne hne)
        clear hne
        have hsh := shl_pow4 (k := k) (by omega)
        generalize toE L j k = s at *
        go_wp2
        clear hsh
        go_round
        case rel => exact ⟨k + 1, by omega, by go_num, by rw [HST.out]⟩
        case measure => simp [intOf]; omega
    · obtain rfl : k = n := by omega
      go_wp2
      go_ret
      exact ⟨rfl, rfl⟩

set_option maxHeartbeats 1000000 in
theorem distanceToExtreme_calls (A : Option Addr) (n c : Nat) (L : List Int) (j : Int) (w : World) (hL : n ≤ L.length) (hn : n ≤ 8) (hI : Ints w A L) :
    Calls Try.prog 44 #[.slice A n c, .int .i64 j] w fun e w' => e = .returned (.int .i64 (toE L j n)) ∧ w = w' := by
  have HL := Lib.hid hL
  have HI := Lib.hid hI
  clear hL hI
  go_enter Try.func44, Try.ntmps44
  go_wp2
  go_loop [5, 6, 7, 10] (fun s _ _ i => ∃ k : Nat, k ≤ n ∧ i = .int .i64 k ∧ s = .int .i64 (toE L j k)) (fun _ _ _ i => n - (intOf i).toNat)
  case atStart => exact ⟨0, Nat.zero_le _, rfl, rfl⟩
  case round =>
    obtain ⟨k, hk, rfl, rfl⟩ := hrel
    by_cases hlt : k < n
    · obtain ⟨ad, rfl, had, hc⟩ := HI.out k (by have := HL.out; omega)
      have hbd := toE_bd L j k (by omega)
      have hpw := pow2_bd (k := k) (by omega)
      have hk0 : (0 : Int) ≤ (k : Int) := by omega
      have hk1 : (k : Int) < (n : Int) := by omega
      by_cases hne : L[k]?.getD 0 = j
      · have ht : (L[k]?.getD 0 != j) = false := by simpa using hne
        have HST := Lib.hid (toE_eq hne)
        clear hne
        go_wp2
        go_round
        case rel => exact ⟨k + 1, by omega, by go_num, by rw [HST.out]⟩
        case measure => simp [intOf]; omega
      · have ht : (L[k]?.getD 0 != j) = true := by simpa using hne
        have HST := Lib.hid (toE_ne hne)
        clear hne
        have hsh := shl_pow4 (k := k) (by omega)
        generalize toE L j k = s at *
        go_wp2
        clear hsh
        go_round
        case rel => exact ⟨k + 1, by omega, by go_num, by rw [HST.out]⟩
        case measure => simp [intOf]; omega
    · obtain rfl : k = n := by omega
      go_wp2
      go_ret
      exact ⟨rfl, rfl⟩

def exV (k : Int) (L : List Int) (j : Int) : Int := if lcode k j L = 0 then toE L j L.length else 0
theorem lcode_zero {k j : Int} {L : List Int} (h : lcode k j L = 0) : stateB k L = true ∧ pegB k j = true := by
  unfold lcode wcode at h
  split at h
  · split at h
    · exact ⟨by assumption, by assumption⟩
    · omega
  · omega
theorem lcode_two {k j : Int} {L : List Int} (h : ¬ lcode k j L = 0) : lcode k j L = 2 := by
  unfold lcode wcode at *
  split
  · split
    · simp_all
    · rfl
  · rfl
theorem ret_twoE {a b c d : Int} (h : c = a) (h' : d = b) : Ending.returned (.tuple #[.int .i64 a, .int .i64 b]) = .returned (.tuple #[.int .i64 c, .int .i64 d]) := by rw [h, h']

end Go.Proofs.Ytnfjdggiaodhmaa
