/- Contracts: whether rules are strong, of the specification. -/
import Derived.Test.YtbcgoboeeigcgaaRuIs
namespace Go.Proofs.Ytbcgoboeeigcgaa
open Go.RowKit
set_option linter.unusedVariables false

/-- One can go from i to j, as the specification asks it. -/
def tF (r : Nat → Int) (i j : Nat) : Bool := !(decide (i ≠ j) && (r (3 * i + j) == 0 && (r (3 * i + (3 - i - j)) == 0 || r (3 * (3 - i - j) + j) == 0)))
def strTo (r : Nat → Int) (n : Nat) : Bool := (List.range n).all (fun m => tF r (m / 3) (m % 3))
def strB (r : Nat → Int) : Bool := strTo r 9
theorem strTo_succ (r : Nat → Int) (n : Nat) : strTo r (n + 1) = (strTo r n && tF r (n / 3) (n % 3)) := by
  unfold strTo
  rw [List.range_succ, List.all_append]
  simp
theorem strTo_le {r : Nat → Int} {n m : Nat} (h : strTo r n = false) (hm : n ≤ m) : strTo r m = false := by
  induction m with
  | zero => rw [show n = 0 by omega] at h; exact h
  | succ m ih =>
    by_cases e : n = m + 1
    · rw [← e]; exact h
    · rw [strTo_succ, ih (by omega)]; rfl

set_option maxRecDepth 100000 in
set_option maxHeartbeats 4000000 in
theorem l07Strong_calls (r : Nat → Int) (w : World) :
    Calls Try.prog 38 #[.agg (z9 r)] w fun e w' => e = .returned (.bool (strB r)) ∧ Below w.heap.size w w' := by
  have X := Lib.hid (Box.new w 27 (z9 r))
  have HB := Lib.hid ((Below.refl w.heap.size w).alloc (Nat.le_refl _) (.cells (z9 r) 27))
  go_enter Try.func38, Try.ntmps38
  go_wp2
  obtain ⟨x0, x1, x2, x3, x4, x5, x6, x7, x8⟩ := X.out.nine
  generalize w.alloc (.cells (z9 r) 27) = w1 at *
  generalize Value.agg (z9 r) = v0
  clear X
  go_loop [3] (fun i => ∃ a : Nat, a ≤ 3 ∧ i = .int .i64 a ∧ Hid (strTo r (3 * a) = true)) (fun i => 3 - (intOf i).toNat)
  case atStart => exact ⟨0, by omega, rfl, rfl⟩
  case round =>
    obtain ⟨a, ha, rfl, hs⟩ := hrel
    by_cases hlt : a < 3
    · go_wp2
      go_loop [4] (fun j => ∃ b : Nat, b ≤ 3 ∧ j = .int .i64 b ∧ Hid (strTo r (3 * a + b) = true)) (fun j => 3 - (intOf j).toNat)
      case atStart => exact ⟨0, by omega, rfl, hs⟩
      case round =>
        obtain ⟨b, hb, rfl, ht⟩ := hrel
        by_cases hlb : b < 3
        · have hn := strTo_succ r (3 * a + b)
          rw [ht.out, Bool.true_and, show (3 * a + b) / 3 = a by omega, show (3 * a + b) % 3 = b by omega] at hn
          obtain ⟨bb, hbb⟩ : ∃ bb, Hid (bb = b + 1) := ⟨_, rfl⟩
          have HN : Hid (strTo r (3 * a + bb) = tF r a b) := by unfold Hid; rw [hbb.out]; exact hn
          have hbl : bb ≤ 3 := by have := hbb.out; omega
          clear hn ht hs
          rcases (by omega : a = 0 ∨ a = 1 ∨ a = 2) with rfl | rfl | rfl <;> rcases (by omega : b = 0 ∨ b = 1 ∨ b = 2) with rfl | rfl | rfl <;>
          · clear ha hlt hb hlb
            go_wp2
            all_goals first
            | (go_ret; refine ⟨ret_bool ?_, HB.out⟩; refine (strTo_le (HN.out.trans ?_) (by omega)).symm; clear HN; simp_all [tF]; done)
            | (go_round; (case rel => exact ⟨bb, hbl, by have := hbb.out; subst this; rfl, by unfold Hid; (first | refine HN.out.trans ?_ | (rw [← Nat.zero_add bb]; refine HN.out.trans ?_)); clear HN; simp_all [tF]⟩); (case measure => simp [intOf]))
        · obtain rfl : b = 3 := by omega
          go_wp2
          go_round
          case rel => exact ⟨a + 1, by omega, by go_num, ht⟩
          case measure => simp [intOf]; omega
    · obtain rfl : a = 3 := by omega
      go_wp2
      go_ret
      exact ⟨ret_bool hs.out.symm, HB.out⟩

end Go.Proofs.Ytbcgoboeeigcgaa
