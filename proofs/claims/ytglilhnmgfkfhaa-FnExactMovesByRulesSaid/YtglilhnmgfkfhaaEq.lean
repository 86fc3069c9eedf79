/- Contracts: the law's comparisons. -/
import Derived.Test.YtglilhnmgfkfhaaBase
import Derived.Test.YtglilhnmgfkfhaaRows
import Derived.ProofKit
import Derived.OpenShut
import Derived.WalkSpells
import Derived.Deep.QuietTactic
import Derived.BigQuiet
namespace Go.Proofs.Ytglilhnmgfkfhaa
open Go.RowKit
set_option linter.unusedVariables false

theorem Try.infoI : (Try.prog.info? 2).map (fun i => (i.zero, i.size, i.bytes)) = some (some (.int .i64 0), 1, 8) := by kernel_rfl

theorem list_ne_len {L L' : List Int} {n n' : Nat} (h : L.length = n) (h' : L'.length = n') (hne : ¬ n = n') : decide (L = L') = false := by
  simp
  rintro rfl
  omega

set_option maxHeartbeats 400000 in
theorem eqInt64S_calls (A A' : Option Addr) (n c n' c' : Nat) (L L' : List Int) (w : World) (hL : L.length = n) (hL' : L'.length = n') (hn : n ≤ 1048576) (hn' : n' ≤ 1048576) (hI : Ints w A L) (hI' : Ints w A' L') :
    Calls Try.prog 30 #[.slice A n c, .slice A' n' c'] w fun e w' => e = .returned (.bool (decide (L = L'))) ∧ ∃ m, w' = w.drewN m := by
  have HL : Hid (L.length = n) := hL
  have HL' : Hid (L'.length = n') := hL'
  clear hL hL'
  by_cases hne : n = n'
  · subst hne
    go_enter Try.func30, Try.ntmps30
    go_wp2
    go_loopw [5] (fun i wr => ∃ k : Nat, k ≤ n ∧ i = .int .i64 k ∧ (∀ j, j < k → L.getD j 0 = L'.getD j 0) ∧ ∃ m, wr = w.drewN m) (fun i _ => n - (intOf i).toNat)
    case atStart => exact ⟨0, Nat.zero_le _, rfl, fun j hj => absurd hj (by omega), 0, rfl⟩
    case round =>
      obtain ⟨k, hk, rfl, hsame, m, rfl⟩ := hrel
      have HS := Lib.hid hsame
      clear hsame
      by_cases hlt : k < n
      · obtain ⟨ad, rfl, had, hc⟩ := hI k (by rw [HL.out]; exact hlt)
        obtain ⟨ad', rfl, had', hc'⟩ := hI' k (by rw [HL'.out]; exact hlt)
        go_wp2_with fail
        go_quiet (fail)
        go_wp2
        · have hd : (L[k]?.getD 0 != L'[k]?.getD 0) = true := by assumption
          go_ret
          exact ⟨ret_bool (by
            symm
            rw [decide_eq_false_iff_not]
            rintro rfl
            simp at hd), by first | exact ⟨_, rfl⟩ | exact ⟨_, World.drewN_drewN _ _ _⟩⟩
        · have hd : (L[k]?.getD 0 != L'[k]?.getD 0) = false := by assumption
          go_roundw
          case rel => exact ⟨k + 1, by omega, by go_num, fun j hj => by
            by_cases hjk : j = k
            · subst hjk; simpa using hd
            · exact HS.out j (by omega), by first | exact ⟨_, rfl⟩ | exact ⟨_, World.drewN_drewN _ _ _⟩⟩
          case measure => simp [intOf]; omega
      · obtain rfl : k = n := by omega
        go_wp2
        go_ret
        exact ⟨ret_bool (by
          symm
          rw [decide_eq_true_iff]
          exact list_ext HL.out HL'.out HS.out), _, rfl⟩
  · have hd : ((n : Int) != (n' : Int)) = true := by simp; omega
    go_enter Try.func30, Try.ntmps30
    go_wp2
    go_ret
    exact ⟨ret_bool (list_ne_len HL.out HL'.out hne).symm, 0, rfl⟩

set_option maxHeartbeats 400000 in
theorem eqState_calls (A A' : Option Addr) (n c n' c' : Nat) (p p' : Int) (L L' : List Int) (w : World) (hL : L.length = n) (hL' : L'.length = n') (hn : n ≤ 1048576) (hn' : n' ≤ 1048576) (hI : Ints w A L) (hI' : Ints w A' L') :
    Calls Try.prog 12 #[.agg #[.int .i64 p, .slice A n c], .agg #[.int .i64 p', .slice A' n' c']] w fun e w' => e = .returned (.bool (decide (p = p' ∧ L = L'))) ∧ Below w.heap.size w w' := by
  by_cases hp : p = p'
  · subst hp
    go_enter Try.func12, Try.ntmps12
    go_wp2_with fail
    refine (eqInt64S_calls A A' n c n' c' L L' _ hL hL' hn hn' (hI.below (((Below.refl _ _).alloc (Nat.le_refl _) _).alloc (by simp) _)) (hI'.below (((Below.refl _ _).alloc (Nat.le_refl _) _).alloc (by simp) _))).mono ?_
    rintro e w1 ⟨rfl, m, rfl⟩
    go_wp2
    · have ht : (!decide (L = L')) = true := by assumption
      go_ret
      exact ⟨ret_bool (by simpa using ht), belowDraws (((Below.refl _ _).alloc (Nat.le_refl _) _).alloc (by simp) _) m⟩
    · have ht : (!decide (L = L')) = false := by assumption
      go_ret
      exact ⟨ret_bool (by simpa using ht), belowDraws (((Below.refl _ _).alloc (Nat.le_refl _) _).alloc (by simp) _) m⟩
  · have hd : (p != p') = true := by simp; omega
    go_enter Try.func12, Try.ntmps12
    go_wp2
    go_ret
    exact ⟨ret_bool (by simp [hp]), ((Below.refl _ _).alloc (Nat.le_refl _) _).alloc (by simp) _⟩

end Go.Proofs.Ytglilhnmgfkfhaa
