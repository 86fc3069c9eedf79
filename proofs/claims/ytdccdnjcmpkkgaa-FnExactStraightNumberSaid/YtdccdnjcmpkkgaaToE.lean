/- Contracts: the distance to an extreme word. -/
import Derived.Test.YtdccdnjcmpkkgaaWCode
import Derived.Test.YtdccdnjcmpkkgaaWays
namespace Go.Proofs.Ytdccdnjcmpkkgaa
open Go.RowKit
open Go.RowKit (wrap64)
set_option linter.unusedVariables false

/-- The sum of 2^i over the first places with another number than j. -/
def toE (L : List Int) (j : Int) : Nat → Int
  | 0 => 0
  | k + 1 => toE L j k + if L[k]?.getD 0 = j then 0 else pow2 k
theorem toE_bd (L : List Int) (j : Int) : ∀ k, k ≤ 8 → 0 ≤ toE L j k ∧ toE L j k + 1 ≤ pow2 k
  | 0, _ => by simp [toE, pow2_zero]
  | k + 1, h => by
    have ih := toE_bd L j k (by omega)
    have hp := pow2_succ k
    have hb := pow2_bd (k := k) (by omega)
    unfold toE
    split <;> omega
theorem toE_eq {L : List Int} {j : Int} {k : Nat} (h : L[k]?.getD 0 = j) : toE L j (k + 1) = toE L j k := by rw [toE, if_pos h, Int.add_zero]
theorem toE_ne {L : List Int} {j : Int} {k : Nat} (h : ¬ L[k]?.getD 0 = j) : toE L j (k + 1) = toE L j k + pow2 k := by rw [toE, if_neg h]

/-- 1 shifted to the left, as the walk writes it, is a power of 2. -/
theorem shl_pow4 {k : Nat} (hk : k < 9) : wrap64 ((2 : Int) ^ k) = pow2 k := by
  have e : (2 : Int) ^ k = pow2 k := by unfold pow2; simp
  have hb := pow2_bd (k := k) (by omega)
  rw [e]
  exact IntWalk.wrap64_in _ (by omega)

set_option maxHeartbeats 1000000 in
theorem l04To_calls (A : Option Addr) (n c : Nat) (L : List Int) (j : Int) (w : World) (hL : n ≤ L.length) (hn : n ≤ 8) (hI : Ints w A L) :
    Calls Try.prog 33 #[.slice A n c, .int .i64 j] w fun e w' => e = .returned (.int .i64 (toE L j n)) ∧ w = w' := by
  have HL := Lib.hid hL
  have HI := Lib.hid hI
  clear hL hI
  go_enter Try.func33, Try.ntmps33
  go_wp2
  go_loop [5, 6] (fun s i => ∃ k : Nat, k ≤ n ∧ i = .int .i64 k ∧ s = .int .i64 (toE L j k)) (fun _ i => n - (intOf i).toNat)
  case atStart => exact ⟨0, Nat.zero_le _, rfl, rfl⟩
  case round =>
    obtain ⟨k, hk, rfl, rfl⟩ := hrel
    by_cases hlt : k < n
    · obtain ⟨ad, rfl, had, hc⟩ := HI.out k (by have := HL.out; omega)
      have hbd := toE_bd L j k (by omega)
      have hpw := pow2_bd (k := k) (by omega)
      have hk0 : (0 : Int) ≤ (k : Int) := by omega
      have hk1 : (k : Int) < (n : Int) := by omega
      by_cases hne : L[k]?.getD 0 = j
      · have ht : (L[k]?.getD 0 != j) = false := by simpa using hne
        have HST := Lib.hid (toE_eq hne)
        clear hne
        go_wp2
        go_round
        case rel => exact ⟨k + 1, by omega, by go_num, by rw [HST.out]⟩
        case measure => simp [intOf]; omega
      · have ht : (L[k]?.getD 0 != j) = true := by simpa using hne
        have HST := Lib.hid (toE_ne hne)
        clear hne
        have hsh := shl_pow4 (k := k) (by omega)
        generalize toE L j k = s at *
        go_wp2
        clear hsh
        go_round
        case rel => exact ⟨k + 1, by omega, by go_num, by rw [HST.out]⟩
        case measure => simp [intOf]; omega
    · obtain rfl : k = n := by omega
      go_wp2
      go_ret
      exact ⟨rfl, rfl⟩

set_option maxHeartbeats 1000000 in
theorem distanceToExtreme_calls (A : Option Addr) (n c : Nat) (L : List Int) (j : Int) (w : World) (hL : n ≤ L.length) (hn : n ≤ 8) (hI : Ints w A L) :
    Calls Try.prog 35 #[.slice A n c, .int .i64 j] w fun e w' => e = .returned (.int .i64 (toE L j n)) ∧ w = w' := by
  have HL := Lib.hid hL
  have HI := Lib.hid hI
  clear hL hI
  go_enter Try.func35, Try.ntmps35
  go_wp2
  go_loop [5, 6, 7, 10] (fun s _ _ i => ∃ k : Nat, k ≤ n ∧ i = .int .i64 k ∧ s = .int .i64 (toE L j k)) (fun _ _ _ i => n - (intOf i).toNat)
  case atStart => exact ⟨0, Nat.zero_le _, rfl, rfl⟩
  case round =>
    obtain ⟨k, hk, rfl, rfl⟩ := hrel
    by_cases hlt : k < n
    · obtain ⟨ad, rfl, had, hc⟩ := HI.out k (by have := HL.out; omega)
      have hbd := toE_bd L j k (by omega)
      have hpw := pow2_bd (k := k) (by omega)
      have hk0 : (0 : Int) ≤ (k : Int) := by omega
      have hk1 : (k : Int) < (n : Int) := by omega
      by_cases hne : L[k]?.getD 0 = j
      · have ht : (L[k]?.getD 0 != j) = false := by simpa using hne
        have HST := Lib.hid (toE_eq hne)
        clear hne
        go_wp2
        go_round
        case rel => exact ⟨k + 1, by omega, by go_num, by rw [HST.out]⟩
        case measure => simp [intOf]; omega
      · have ht : (L[k]?.getD 0 != j) = true := by simpa using hne
        have HST := Lib.hid (toE_ne hne)
        clear hne
        have hsh := shl_pow4 (k := k) (by omega)
        generalize toE L j k = s at *
        go_wp2
        clear hsh
        go_round
        case rel => exact ⟨k + 1, by omega, by go_num, by rw [HST.out]⟩
        case measure => simp [intOf]; omega
    · obtain rfl : k = n := by omega
      go_wp2
      go_ret
      exact ⟨rfl, rfl⟩

def exV (k : Int) (L : List Int) (j : Int) : Int := if lcode k j L = 0 then toE L j L.length else 0
theorem lcode_zero {k j : Int} {L : List Int} (h : lcode k j L = 0) : stateB k L = true ∧ pegB k j = true := by
  unfold lcode wcode at h
  split at h
  · split at h
    · exact ⟨by assumption, by assumption⟩
    · omega
  · omega
theorem lcode_two {k j : Int} {L : List Int} (h : ¬ lcode k j L = 0) : lcode k j L = 2 := by
  unfold lcode wcode at *
  split
  · split
    · simp_all
    · rfl
  · rfl
theorem ret_twoE {a b c d : Int} (h : c = a) (h' : d = b) : Ending.returned (.tuple #[.int .i64 a, .int .i64 b]) = .returned (.tuple #[.int .i64 c, .int .i64 d]) := by rw [h, h']

set_option maxHeartbeats 1000000 in
theorem specDistanceToExtreme_calls (k : Int) (A : Option Addr) (n c : Nat) (L : List Int) (j : Int) (w : World) (hL : L.length = n) (hn : n ≤ 1048576) (hI : Ints w A L) :
    Calls Try.prog 17 #[.int .i64 k, .slice A n c, .int .i64 j] w fun e w' => e = .returned (.tuple #[.int .i64 (exV k L j), .int .i64 (lcode k j L)]) ∧ Below w.heap.size w w' := by
  have HL := Lib.hid hL
  clear hL
  by_cases hz : lcode k j L = 0
  · obtain ⟨hs, hp⟩ := lcode_zero hz
    have e1 := Lib.hid (show exV k L j = toE L j n by unfold exV; rw [if_pos hz, HL.out])
    have HZ := Lib.hid hz
    have hf := state_facts hs HL.out
    rw [pegB_in] at hp
    clear hz
    go_enter Try.func17, Try.ntmps17
    go_wp2_with fail
    refine (l04Is_calls k A n c L _ HL.out hn hI).mono ?_
    rintro e w1 ⟨rfl, rfl⟩
    go_wp2_with fail
    refine (l01In_calls j 0 (k - 1) _).mono ?_
    rintro e w1 ⟨rfl, rfl⟩
    go_wp2_with fail
    refine (l04To_calls A n c L j _ (by rw [HL.out]; exact Nat.le_refl _) (by omega) hI).mono ?_
    rintro e w1 ⟨rfl, rfl⟩
    go_wp2
    go_ret2
    exact ⟨ret_twoE e1.out HZ.out, Below.refl _ _⟩
  · have e1 := Lib.hid (show exV k L j = 0 by unfold exV; rw [if_neg hz])
    have HZ := Lib.hid (lcode_two hz)
    by_cases hs : stateB k L = true
    · have hp : inB j 0 (k - 1) = false := by
        rw [← pegB_in]
        by_cases hp : pegB k j = true
        · exact absurd (by unfold lcode; rw [if_pos hp, wcode_yes hs]) hz
        · simpa using hp
      have hf := state_facts hs HL.out
      clear hz
      go_enter Try.func17, Try.ntmps17
      go_wp2_with fail
      refine (l04Is_calls k A n c L _ HL.out hn hI).mono ?_
      rintro e w1 ⟨rfl, rfl⟩
      go_wp2_with fail
      refine (l01In_calls j 0 (k - 1) _).mono ?_
      rintro e w1 ⟨rfl, rfl⟩
      go_wp2
      go_ret2
      exact ⟨ret_twoE e1.out HZ.out, Below.refl _ _⟩
    · have hs' : stateB k L = false := by simpa using hs
      clear hz hs
      go_enter Try.func17, Try.ntmps17
      go_wp2_with fail
      refine (l04Is_calls k A n c L _ HL.out hn hI).mono ?_
      rintro e w1 ⟨rfl, rfl⟩
      go_wp2
      go_ret2
      exact ⟨ret_twoE e1.out HZ.out, Below.refl _ _⟩

set_option maxHeartbeats 1000000 in
theorem implDistanceToExtreme_calls (k : Int) (A : Option Addr) (n c : Nat) (L : List Int) (j : Int) (w : World) (hL : L.length = n) (hn : n ≤ 1048576) (hI : Ints w A L) :
    Calls Try.prog 18 #[.int .i64 k, .slice A n c, .int .i64 j] w fun e w' => e = .returned (.tuple #[.int .i64 (exV k L j), .int .i64 (lcode k j L)]) ∧ Below w.heap.size w w' := by
  have HL := Lib.hid hL
  have X0 := Lib.hid (Box.new w 25 #[.slice A n c])
  have HB0 := Lib.hid ((Below.refl w.heap.size w).alloc (Nat.le_refl _) (.cells #[.slice A n c] 25))
  have HI0 := Lib.hid (hI.below HB0.out)
  clear hL hI
  by_cases hz : lcode k j L = 0
  · obtain ⟨hs, hp⟩ := lcode_zero hz
    have e1 := Lib.hid (show exV k L j = toE L j n by unfold exV; rw [if_pos hz, HL.out])
    have HZ := Lib.hid hz
    have hz' : (lcode k j L != 0) = false := by simpa using hz
    have hf := state_facts hs HL.out
    clear hz hp hs
    go_enter Try.func18, Try.ntmps18
    go_wp2_with fail
    refine (codeOfLetter_one w.heap.size k j A n c L _ X0.out HL.out hn HI0.out).mono ?_
    rintro e w1 ⟨rfl, hb1⟩
    have HB1 := Lib.hid (HB0.out.trans (hb1.mono HB0.out.size))
    have HI1 := Lib.hid (HI0.out.below hb1)
    clear hb1
    go_wp2_with fail
    refine (distanceToExtreme_calls A n c L j _ (by rw [HL.out]; exact Nat.le_refl _) (by omega) HI1.out).mono ?_
    rintro e w2 ⟨rfl, rfl⟩
    go_wp2
    go_ret2
    exact ⟨ret_twoE e1.out HZ.out, HB1.out⟩
  · have e1 := Lib.hid (show exV k L j = 0 by unfold exV; rw [if_neg hz])
    have hz' : (lcode k j L != 0) = true := by simpa using hz
    clear hz
    go_enter Try.func18, Try.ntmps18
    go_wp2_with fail
    refine (codeOfLetter_one w.heap.size k j A n c L _ X0.out HL.out hn HI0.out).mono ?_
    rintro e w1 ⟨rfl, hb1⟩
    have HB1 := Lib.hid (HB0.out.trans (hb1.mono HB0.out.size))
    clear hb1
    go_wp2
    go_ret2
    exact ⟨ret_twoE e1.out rfl, HB1.out⟩

end Go.Proofs.Ytdccdnjcmpkkgaa
