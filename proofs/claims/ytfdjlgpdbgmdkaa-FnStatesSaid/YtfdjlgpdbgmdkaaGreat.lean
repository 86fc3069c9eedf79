/- Contracts: the great laws' own helpers: a code that is too long, two lists that are alike, a sum. -/
import Derived.Test.YtfdjlgpdbgmdkaaBase
import Derived.Test.YtfdjlgpdbgmdkaaEq
namespace Go.Proofs.Ytfdjlgpdbgmdkaa
open Go.RowKit
set_option linter.unusedVariables false

theorem big_yes (A : Option Addr) (n c : Nat) (w : World) (hn : 4096 < n) :
    Calls Try.prog 4 #[.slice A n c] w fun e w' => e = .returned (.bool true) ∧ w = w' := by
  have h : (4096 : Int) < (n : Int) := by omega
  go_enter Try.func4, Try.ntmps4
  go_wp2
  go_ret
  exact ⟨ret_bool (by first | (simp; done) | (simp; omega)), rfl⟩
theorem big_no (A : Option Addr) (n c : Nat) (w : World) (hn : n ≤ 4096) :
    Calls Try.prog 4 #[.slice A n c] w fun e w' => e = .returned (.bool false) ∧ w = w' := by
  have h : ¬ (4096 : Int) < (n : Int) := by omega
  go_enter Try.func4, Try.ntmps4
  go_wp2
  go_ret
  exact ⟨ret_bool (by first | (simp; done) | (simp; omega)), rfl⟩

set_option maxHeartbeats 400000 in
theorem likeInts_calls (A A' : Option Addr) (n c n' c' : Nat) (L L' : List Int) (w : World) (hL : L.length = n) (hL' : L'.length = n') (hn : n ≤ 1048576) (hn' : n' ≤ 1048576) (hI : Ints w A L) (hI' : Ints w A' L') :
    Calls Try.prog 47 #[.slice A n c, .slice A' n' c'] w fun e w' => e = .returned (.bool (decide (L = L'))) ∧ ∃ m, w' = w.drewN m := by
  have HL : Hid (L.length = n) := hL
  have HL' : Hid (L'.length = n') := hL'
  clear hL hL'
  by_cases hne : n = n'
  · subst hne
    go_enter Try.func47, Try.ntmps47
    go_wp2
    go_loopw [5] (fun i wr => ∃ k : Nat, k ≤ n ∧ i = .int .i64 k ∧ (∀ j, j < k → L.getD j 0 = L'.getD j 0) ∧ ∃ m, wr = w.drewN m) (fun i _ => n - (intOf i).toNat)
    case atStart => exact ⟨0, Nat.zero_le _, rfl, fun j hj => absurd hj (by omega), 0, rfl⟩
    case round =>
      obtain ⟨k, hk, rfl, hsame, m, rfl⟩ := hrel
      have HS := Lib.hid hsame
      clear hsame
      by_cases hlt : k < n
      · obtain ⟨ad, rfl, had, hc⟩ := hI k (by rw [HL.out]; exact hlt)
        obtain ⟨ad', rfl, had', hc'⟩ := hI' k (by rw [HL'.out]; exact hlt)
        go_wp2_with fail
        go_quiet (fail)
        go_wp2
        · have hd : (L[k]?.getD 0 != L'[k]?.getD 0) = true := by assumption
          go_ret
          exact ⟨ret_bool (by
            symm
            rw [decide_eq_false_iff_not]
            rintro rfl
            simp at hd), by first | exact ⟨_, rfl⟩ | exact ⟨_, World.drewN_drewN _ _ _⟩⟩
        · have hd : (L[k]?.getD 0 != L'[k]?.getD 0) = false := by assumption
          go_roundw
          case rel => exact ⟨k + 1, by omega, by go_num, fun j hj => by
            by_cases hjk : j = k
            · subst hjk; simpa using hd
            · exact HS.out j (by omega), by first | exact ⟨_, rfl⟩ | exact ⟨_, World.drewN_drewN _ _ _⟩⟩
          case measure => simp [intOf]; omega
      · obtain rfl : k = n := by omega
        go_wp2
        go_ret
        exact ⟨ret_bool (by
          symm
          rw [decide_eq_true_iff]
          exact list_ext HL.out HL'.out HS.out), _, rfl⟩
  · have hd : ((n : Int) != (n' : Int)) = true := by simp; omega
    go_enter Try.func47, Try.ntmps47
    go_wp2
    go_ret
    exact ⟨ret_bool (list_ne_len HL.out HL'.out hne).symm, 0, rfl⟩


/-- The sum of the first k, as the machine adds. -/
def wsum (L : List Int) : Nat → Int
  | 0 => 0
  | k + 1 => wrap64 (wsum L k + L.getD k 0)

end Go.Proofs.Ytfdjlgpdbgmdkaa
