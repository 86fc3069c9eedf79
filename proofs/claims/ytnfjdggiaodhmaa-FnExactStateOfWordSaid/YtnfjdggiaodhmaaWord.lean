/- Contracts: words, by the specification's model and by the program. -/
import Derived.Test.YtnfjdggiaodhmaaState1
import Derived.Test.YtnfjdggiaodhmaaTo
namespace Go.Proofs.Ytnfjdggiaodhmaa
open Go.RowKit
set_option linter.unusedVariables false

theorem l04Sizes_calls (k n : Int) (w : World) :
    Calls Try.prog 51 #[.int .i64 k, .int .i64 n] w fun e w' => e = .returned (.bool (fitsB k n)) ∧ w = w' := by
  by_cases hk : 3 ≤ k ∧ k ≤ 5
  · have e1 := inB_yes hk.1 hk.2
    by_cases hn : 0 ≤ n ∧ n ≤ 8
    · have e2 := inB_yes hn.1 hn.2
      obtain ⟨m, rfl⟩ := Int.eq_ofNat_of_zero_le hn.1
      go_enter Try.func51, Try.ntmps51
      go_wp2_with fail
      refine (l01In_calls k 3 5 _).mono ?_
      rintro e w' ⟨rfl, rfl⟩
      go_wp2_with fail
      refine (l01In_calls m 0 8 _).mono ?_
      rintro e w' ⟨rfl, rfl⟩
      go_wp2
      go_loop [1, 5] (fun i o => ∃ j : Nat, j ≤ m ∧ i = .int .i64 ((m : Int) - j) ∧ o = .int .i64 (powI k j)) (fun i _ => (intOf i).toNat)
      case atStart => exact ⟨0, Nat.zero_le _, by simp, rfl⟩
      case round =>
        obtain ⟨j, hj, rfl, rfl⟩ := hrel
        have hb := powI_bd k hk.1 hk.2 j (by omega)
        by_cases hlt : j < m
        · have hb' : 0 ≤ powI k j * k ∧ powI k j * k ≤ 9000000 := by
            have := powI_bd k hk.1 hk.2 (j + 1) (by omega)
            simp only [powI] at this
            omega
          go_wp2
          go_round
          case rel => exact ⟨j + 1, by omega, by go_num, rfl⟩
          case measure => simp [intOf]; omega
        · obtain rfl : j = m := by omega
          by_cases hp : powI k j ≤ 6561
          · go_wp2
            go_ret
            exact ⟨ret_fits (by simp; omega), rfl⟩
          · go_wp2
            go_ret
            exact ⟨ret_fits (by symm; rw [decide_eq_false_iff_not]; rintro ⟨_, _, _, _, h⟩; rw [Int.toNat_natCast] at h; omega), rfl⟩
    · have e2 := inB_no hn
      go_enter Try.func51, Try.ntmps51
      go_wp2_with fail
      refine (l01In_calls k 3 5 _).mono ?_
      rintro e w' ⟨rfl, rfl⟩
      go_wp2_with fail
      refine (l01In_calls n 0 8 _).mono ?_
      rintro e w' ⟨rfl, rfl⟩
      go_wp2
      go_ret
      exact ⟨ret_fits (by symm; rw [decide_eq_false_iff_not]; rintro ⟨_, _, h, h', _⟩; exact hn ⟨h, h'⟩), rfl⟩
  · have e1 := inB_no hk
    go_enter Try.func51, Try.ntmps51
    go_wp2_with fail
    refine (l01In_calls k 3 5 _).mono ?_
    rintro e w' ⟨rfl, rfl⟩
    go_wp2
    go_ret
    exact ⟨ret_fits (by symm; rw [decide_eq_false_iff_not]; rintro ⟨h, h', _⟩; exact hk ⟨h, h'⟩), rfl⟩

set_option maxHeartbeats 400000 in
theorem l04Is_calls (p : Int) (A : Option Addr) (n c : Nat) (L : List Int) (w : World) (hL : L.length = n) (hn : n ≤ 1048576) (hI : Ints w A L) :
    Calls Try.prog 41 #[.int .i64 p, .slice A n c] w fun e w' => e = .returned (.bool (stateB p L)) ∧ w = w' := by
  have HL : Hid (L.length = n) := hL
  clear hL
  by_cases hf : fitsB p n = true
  · have hp := fitsB_bd hf
    go_enter Try.func41, Try.ntmps41
    go_wp2_with fail
    refine (l04Sizes_calls p n _).mono ?_
    rintro e w' ⟨rfl, rfl⟩
    go_wp2
    go_loop [5] (fun i => ∃ k : Nat, k ≤ n ∧ i = .int .i64 k ∧ allTo p L k) (fun i => n - (intOf i).toNat)
    case atStart => exact ⟨0, Nat.zero_le _, rfl, fun j hj => absurd hj (by omega)⟩
    case round =>
      obtain ⟨k, hk, rfl, hall⟩ := hrel
      have HA := Lib.hid hall
      clear hall
      by_cases hlt : k < n
      · obtain ⟨ad, rfl, had, hc⟩ := hI k (by rw [HL.out]; exact hlt)
        have hw : IntKind.i64.wrap (p - 1) = p - 1 := IntWalk.i64_in _ (by omega)
        go_wp2_with fail
        refine (l01In_calls _ _ _ _).mono ?_
        rintro e w' ⟨rfl, rfl⟩
        clear hw
        go_wp2
        · have hd : (!inB (L[k]?.getD 0) 0 (p - 1)) = true := by assumption
          go_ret
          exact ⟨ret_state (stateB_no (k := k) (by rw [HL.out]; exact hlt) (by simpa using hd)), rfl⟩
        · have hd : (!inB (L[k]?.getD 0) 0 (p - 1)) = false := by assumption
          go_round
          case rel => exact ⟨k + 1, by omega, by go_num, fun j hj => by
            by_cases hjk : j = k
            · subst hjk; simpa using hd
            · exact HA.out j (by omega)⟩
          case measure => simp [intOf]; omega
      · obtain rfl : k = n := by omega
        go_wp2
        go_ret
        exact ⟨ret_state (stateB_yes (by rw [HL.out]; exact hf) (by rw [HL.out]; exact HA.out)), rfl⟩
  · have hf' : fitsB p n = false := by simpa using hf
    clear hf
    go_enter Try.func41, Try.ntmps41
    go_wp2_with fail
    refine (l04Sizes_calls p n _).mono ?_
    rintro e w' ⟨rfl, rfl⟩
    go_wp2
    go_ret
    exact ⟨ret_state (by unfold stateB; rw [HL.out, hf']; rfl), rfl⟩

theorem implIsSierpinskiWord_calls (p : Int) (A : Option Addr) (n c : Nat) (L : List Int) (w : World) (hL : L.length = n) (hn : n ≤ 1048576) (hI : Ints w A L) :
    Calls Try.prog 45 #[.int .i64 p, .slice A n c] w fun e w' => e = .returned (.bool (stateB p L)) ∧ Below w.heap.size w w' := by
  go_enter Try.func45, Try.ntmps45
  go_wp2_with fail
  refine (implIsState_calls A n c p L _ hL hn hI).mono ?_
  rintro e w1 ⟨rfl, hb⟩
  go_wp2
  go_ret
  exact ⟨rfl, hb⟩

end Go.Proofs.Ytnfjdggiaodhmaa
