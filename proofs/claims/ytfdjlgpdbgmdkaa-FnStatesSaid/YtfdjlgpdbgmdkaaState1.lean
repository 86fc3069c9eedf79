/- Contracts: what is a state, by the specification's model and by the program. -/
import Derived.Test.YtfdjlgpdbgmdkaaEq
import Derived.Test.YtfdjlgpdbgmdkaaNum
namespace Go.Proofs.Ytfdjlgpdbgmdkaa
open Go.RowKit
set_option linter.unusedVariables false

theorem l01In_calls (a lo hi : Int) (w : World) :
    Calls Try.prog 60 #[.int .i64 a, .int .i64 lo, .int .i64 hi] w fun e w' => e = .returned (.bool (inB a lo hi)) ∧ w = w' := by
  by_cases h1 : lo ≤ a
  · by_cases h2 : a ≤ hi
    · go_enter Try.func60, Try.ntmps60
      go_wp2
      go_ret
      exact ⟨ret_in (by simp; omega), rfl⟩
    · go_enter Try.func60, Try.ntmps60
      go_wp2
      go_ret
      exact ⟨ret_in (by simp; omega), rfl⟩
  · go_enter Try.func60, Try.ntmps60
    go_wp2
    go_ret
    exact ⟨ret_in (by simp; omega), rfl⟩

theorem isPeg_calls (k peg : Int) (w : World) :
    Calls Try.prog 43 #[.int .i64 k, .int .i64 peg] w fun e w' => e = .returned (.bool (pegB k peg)) ∧ w = w' := by
  by_cases h1 : 0 ≤ peg
  · by_cases h2 : peg < k
    · go_enter Try.func43, Try.ntmps43
      go_wp2
      go_ret
      exact ⟨ret_peg (by simp; omega), rfl⟩
    · go_enter Try.func43, Try.ntmps43
      go_wp2
      go_ret
      exact ⟨ret_peg (by simp; omega), rfl⟩
  · go_enter Try.func43, Try.ntmps43
    go_wp2
    go_ret
    exact ⟨ret_peg (by simp; omega), rfl⟩

theorem l01Size_calls (k : Int) (n : Nat) (w : World) (h3 : 3 ≤ k) (h5 : k ≤ 5) (hn : n ≤ 8) :
    Calls Try.prog 64 #[.int .i64 k, .int .i64 n] w fun e w' => e = .returned (.int .i64 (powI k n)) ∧ w = w' := by
  go_enter Try.func64, Try.ntmps64
  go_wp2
  go_loop [1, 5] (fun m o => ∃ j : Nat, j ≤ n ∧ m = .int .i64 ((n : Int) - j) ∧ o = .int .i64 (powI k j)) (fun m _ => (intOf m).toNat)
  case atStart => exact ⟨0, Nat.zero_le _, by simp, rfl⟩
  case round =>
    obtain ⟨j, hj, rfl, rfl⟩ := hrel
    have hb := powI_bd k h3 h5 j (by omega)
    by_cases hlt : j < n
    · have hb' : 0 ≤ powI k j * k ∧ powI k j * k ≤ 9000000 := by
        have := powI_bd k h3 h5 (j + 1) (by omega)
        simp only [powI] at this
        omega
      go_wp2
      go_round
      case rel => exact ⟨j + 1, by omega, by go_num, rfl⟩
      case measure => simp [intOf]; omega
    · obtain rfl : j = n := by omega
      go_wp2
      go_ret
      exact ⟨rfl, rfl⟩

theorem l01Fits_calls (k n : Int) (w : World) :
    Calls Try.prog 59 #[.int .i64 k, .int .i64 n] w fun e w' => e = .returned (.bool (fitsB k n)) ∧ w = w' := by
  by_cases hk : 3 ≤ k ∧ k ≤ 5
  · have e1 := inB_yes hk.1 hk.2
    by_cases hn : 0 ≤ n ∧ n ≤ 8
    · have e2 := inB_yes hn.1 hn.2
      obtain ⟨m, rfl⟩ := Int.eq_ofNat_of_zero_le hn.1
      have hb := powI_bd k hk.1 hk.2 m (by omega)
      by_cases hp : powI k m ≤ 6561
      · go_enter Try.func59, Try.ntmps59
        go_wp2_with fail
        refine (l01In_calls k 3 5 _).mono ?_
        rintro e w' ⟨rfl, rfl⟩
        go_wp2_with fail
        refine (l01In_calls m 0 8 _).mono ?_
        rintro e w' ⟨rfl, rfl⟩
        go_wp2_with fail
        refine (l01Size_calls k m _ hk.1 hk.2 (by omega)).mono ?_
        rintro e w' ⟨rfl, rfl⟩
        go_wp2
        go_ret
        exact ⟨ret_fits (by simp; omega), rfl⟩
      · go_enter Try.func59, Try.ntmps59
        go_wp2_with fail
        refine (l01In_calls k 3 5 _).mono ?_
        rintro e w' ⟨rfl, rfl⟩
        go_wp2_with fail
        refine (l01In_calls m 0 8 _).mono ?_
        rintro e w' ⟨rfl, rfl⟩
        go_wp2_with fail
        refine (l01Size_calls k m _ hk.1 hk.2 (by omega)).mono ?_
        rintro e w' ⟨rfl, rfl⟩
        go_wp2
        go_ret
        exact ⟨ret_fits (by symm; rw [decide_eq_decide, Int.toNat_natCast]; omega), rfl⟩
    · have e2 := inB_no hn
      go_enter Try.func59, Try.ntmps59
      go_wp2_with fail
      refine (l01In_calls k 3 5 _).mono ?_
      rintro e w' ⟨rfl, rfl⟩
      go_wp2_with fail
      refine (l01In_calls n 0 8 _).mono ?_
      rintro e w' ⟨rfl, rfl⟩
      go_wp2
      go_ret
      exact ⟨ret_fits (by symm; rw [decide_eq_false_iff_not]; rintro ⟨_, _, h, h', _⟩; exact hn ⟨h, h'⟩), rfl⟩
  · have e1 := inB_no hk
    go_enter Try.func59, Try.ntmps59
    go_wp2_with fail
    refine (l01In_calls k 3 5 _).mono ?_
    rintro e w' ⟨rfl, rfl⟩
    go_wp2
    go_ret
    exact ⟨ret_fits (by symm; rw [decide_eq_false_iff_not]; rintro ⟨h, h', _⟩; exact hk ⟨h, h'⟩), rfl⟩

set_option maxHeartbeats 400000 in
theorem l01Is_calls (A : Option Addr) (n c : Nat) (p : Int) (L : List Int) (w : World) (hL : L.length = n) (hn : n ≤ 1048576) (hI : Ints w A L) :
    Calls Try.prog 40 #[.agg #[.int .i64 p, .slice A n c]] w fun e w' => e = .returned (.bool (stateB p L)) ∧ Below w.heap.size w w' := by
  have HL : Hid (L.length = n) := hL
  clear hL
  by_cases hf : fitsB p n = true
  · have hp := fitsB_bd hf
    go_enter Try.func40, Try.ntmps40
    go_wp2_with fail
    refine (l01Fits_calls p n _).mono ?_
    rintro e w' ⟨rfl, rfl⟩
    go_wp2
    go_loopw [3] (fun i wr => ∃ k : Nat, k ≤ n ∧ i = .int .i64 k ∧ allTo p L k ∧ ∃ m, wr = (w.alloc (.cells #[.int .i64 p, .slice A n c] 26)).drewN m) (fun i _ => n - (intOf i).toNat)
    case atStart => exact ⟨0, Nat.zero_le _, rfl, fun j hj => absurd hj (by omega), 0, rfl⟩
    case round =>
      obtain ⟨k, hk, rfl, hall, m, rfl⟩ := hrel
      have HA := Lib.hid hall
      clear hall
      by_cases hlt : k < n
      · obtain ⟨ad, rfl, had, hc⟩ := (hI.below ((Below.refl _ _).alloc (Nat.le_refl _) (.cells #[.int .i64 p, .slice A n c] 26))) k (by rw [HL.out]; exact hlt)
        have hw : IntKind.i64.wrap (p - 1) = p - 1 := IntWalk.i64_in _ (by omega)
        go_wp2_with fail
        go_quiet ((go_at_call 60; first | exact quietL (l01In_calls _ _ _) | exact quietLa (l01In_calls _ _ _)))
        clear hw
        go_wp2
        · have hd : (!inB (L[k]?.getD 0) 0 (p - 1)) = true := by assumption
          go_ret
          exact ⟨ret_state (stateB_no (k := k) (by rw [HL.out]; exact hlt) (by simpa using hd)), by first | exact belowDraws ((Below.refl _ _).alloc (Nat.le_refl _) _) _ | exact belowDraws (belowDraws ((Below.refl _ _).alloc (Nat.le_refl _) _) _) _⟩
        · have hd : (!inB (L[k]?.getD 0) 0 (p - 1)) = false := by assumption
          go_roundw
          case rel => exact ⟨k + 1, by omega, by go_num, fun j hj => by
            by_cases hjk : j = k
            · subst hjk; simpa using hd
            · exact HA.out j (by omega), by first | exact ⟨_, rfl⟩ | exact ⟨_, World.drewN_drewN _ _ _⟩⟩
          case measure => simp [intOf]; omega
      · obtain rfl : k = n := by omega
        go_wp2
        go_ret
        exact ⟨ret_state (stateB_yes (by rw [HL.out]; exact hf) (by rw [HL.out]; exact HA.out)), belowDraws ((Below.refl _ _).alloc (Nat.le_refl _) _) m⟩
  · have hf' : fitsB p n = false := by simpa using hf
    clear hf
    go_enter Try.func40, Try.ntmps40
    go_wp2_with fail
    refine (l01Fits_calls p n _).mono ?_
    rintro e w' ⟨rfl, rfl⟩
    go_wp2
    go_ret
    exact ⟨ret_state (by unfold stateB; rw [HL.out, hf']; rfl), (Below.refl _ _).alloc (Nat.le_refl _) _⟩

theorem numberOfStates_calls (k n : Int) (w : World) :
    Calls Try.prog 42 #[.int .i64 k, .int .i64 n] w fun e w' => e = .returned (.tuple #[.int .i64 (numOf k n), .bool (fitsB k n)]) ∧ w = w' := by
  by_cases hk : k < 3
  · have hf := fitsB_no (k := k) (n := n) (by omega)
    go_enter Try.func42, Try.ntmps42
    go_wp2
    go_ret2
    exact ⟨ret_num hf (numOf_no hf), rfl⟩
  by_cases hk5 : 5 < k
  · have hf := fitsB_no (k := k) (n := n) (by omega)
    have Hf := Lib.hid hf
    clear hf
    go_enter Try.func42, Try.ntmps42
    go_wp2
    go_ret2
    exact ⟨ret_num Hf.out (numOf_no Hf.out), rfl⟩
  by_cases hn : n < 0
  · have hf := fitsB_no (k := k) (n := n) (by omega)
    have Hf := Lib.hid hf
    clear hf
    go_enter Try.func42, Try.ntmps42
    go_wp2
    go_ret2
    exact ⟨ret_num Hf.out (numOf_no Hf.out), rfl⟩
  by_cases hn8 : 8 < n
  · have hf := fitsB_no (k := k) (n := n) (by omega)
    have Hf := Lib.hid hf
    clear hf
    go_enter Try.func42, Try.ntmps42
    go_wp2
    go_ret2
    exact ⟨ret_num Hf.out (numOf_no Hf.out), rfl⟩
  obtain ⟨m, rfl⟩ := Int.eq_ofNat_of_zero_le (a := n) (by omega)
  have hb := powI_bd k (by omega) (by omega) m (by omega)
  have hfit : Hid (powI k m ≤ 6561 → fitsB k m = true) := fun h => fitsB_yes ⟨by omega, by omega, by omega, by omega, by rw [Int.toNat_natCast]; exact h⟩
  have hun : Hid (¬ powI k m ≤ 6561 → fitsB k m = false) := fun h => fitsB_no (by rintro ⟨_, _, _, _, h'⟩; rw [Int.toNat_natCast] at h'; exact h h')
  go_enter Try.func42, Try.ntmps42
  go_wp2
  go_loop [6, 22] (fun o i => ∃ j : Nat, j ≤ m ∧ i = .int .i64 j ∧ o = .int .i64 (powI k j)) (fun _ i => m - (intOf i).toNat)
  case atStart => exact ⟨0, Nat.zero_le _, rfl, rfl⟩
  case round =>
    obtain ⟨j, hj, rfl, rfl⟩ := hrel
    by_cases hlt : j < m
    · have hb' : 0 ≤ powI k j * k ∧ powI k j * k ≤ 9000000 := by
        have := powI_bd k (by omega) (by omega) (j + 1) (by omega)
        simp only [powI] at this
        omega
      go_wp2
      go_round
      case rel => exact ⟨j + 1, by omega, by go_num, rfl⟩
      case measure => simp [intOf]; omega
    · obtain rfl : j = m := by omega
      by_cases hp : powI k j ≤ 6561
      · go_wp2
        go_ret2
        exact ⟨ret_num (hfit.out hp) (by rw [numOf_yes (hfit.out hp), Int.toNat_natCast]), rfl⟩
      · have hun' := Lib.hid (hun.out (by omega))
        go_wp2
        go_ret2
        exact ⟨ret_num hun'.out (numOf_no hun'.out), rfl⟩

set_option maxHeartbeats 400000 in
theorem implIsState_calls (A : Option Addr) (n c : Nat) (p : Int) (L : List Int) (w : World) (hL : L.length = n) (hn : n ≤ 1048576) (hI : Ints w A L) :
    Calls Try.prog 8 #[.agg #[.int .i64 p, .slice A n c]] w fun e w' => e = .returned (.bool (stateB p L)) ∧ Below w.heap.size w w' := by
  have HL : Hid (L.length = n) := hL
  clear hL
  by_cases hf : fitsB p n = true
  · have hp := fitsB_bd hf
    go_enter Try.func8, Try.ntmps8
    go_wp2_with fail
    refine (numberOfStates_calls p n _).mono ?_
    rintro e w' ⟨rfl, rfl⟩
    go_wp2
    go_loopw [6, 21] (fun _ i wr => ∃ k : Nat, k ≤ n ∧ i = .int .i64 k ∧ allTo p L k ∧ ∃ m, wr = (w.alloc (.cells #[.int .i64 p, .slice A n c] 26)).drewN m) (fun _ i _ => n - (intOf i).toNat)
    case atStart => exact ⟨0, Nat.zero_le _, rfl, fun j hj => absurd hj (by omega), 0, rfl⟩
    case round =>
      obtain ⟨k, hk, rfl, hall, m, rfl⟩ := hrel
      have HA := Lib.hid hall
      clear hall
      by_cases hlt : k < n
      · obtain ⟨ad, rfl, had, hc⟩ := (hI.below ((Below.refl _ _).alloc (Nat.le_refl _) (.cells #[.int .i64 p, .slice A n c] 26))) k (by rw [HL.out]; exact hlt)
        go_wp2_with fail
        refine (isPeg_calls p (L[k]?.getD 0) _).mono ?_
        rintro e w' ⟨rfl, rfl⟩
        go_wp2
        · have hd : (!pegB p (L[k]?.getD 0)) = true := by assumption
          rw [pegB_in] at hd
          go_ret
          exact ⟨ret_state (stateB_no (k := k) (by rw [HL.out]; exact hlt) (by simpa using hd)), by first | exact belowDraws ((Below.refl _ _).alloc (Nat.le_refl _) _) _ | exact belowDraws (belowDraws ((Below.refl _ _).alloc (Nat.le_refl _) _) _) _⟩
        · have hd : (!pegB p (L[k]?.getD 0)) = false := by assumption
          rw [pegB_in] at hd
          go_roundw
          case rel => exact ⟨k + 1, by omega, by go_num, fun j hj => by
            by_cases hjk : j = k
            · subst hjk; simpa using hd
            · exact HA.out j (by omega), by first | exact ⟨_, rfl⟩ | exact ⟨_, World.drewN_drewN _ _ _⟩⟩
          case measure => simp [intOf]; omega
      · obtain rfl : k = n := by omega
        go_wp2
        go_ret
        exact ⟨ret_state (stateB_yes (by rw [HL.out]; exact hf) (by rw [HL.out]; exact HA.out)), belowDraws ((Below.refl _ _).alloc (Nat.le_refl _) _) m⟩
  · have hf' : fitsB p n = false := by simpa using hf
    clear hf
    go_enter Try.func8, Try.ntmps8
    go_wp2_with fail
    refine (numberOfStates_calls p n _).mono ?_
    rintro e w' ⟨rfl, rfl⟩
    go_wp2
    go_ret
    exact ⟨ret_state (by unfold stateB; rw [HL.out, hf']; rfl), (Below.refl _ _).alloc (Nat.le_refl _) _⟩

end Go.Proofs.Ytfdjlgpdbgmdkaa
