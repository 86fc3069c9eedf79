/- Contracts: the codes of presumed numbers, by the specification's model and by the program. -/
import Derived.Test.YtfllbdpdfgkkaaaState1
namespace Go.Proofs.Ytfllbdpdfgkkaaa
open Go.RowKit
set_option linter.unusedVariables false

/-- The numbers of pegs and of discs are in their ranges. -/
def prB (hp p hn n : Int) : Bool := decide (3 ≤ p ∧ p ≤ hp ∧ 0 ≤ n ∧ n ≤ hn)
def prC (hp p hn n : Int) : Int := if prB hp p hn n = true then 0 else 2
theorem prB_of {hp p hn n : Int} (h : prB hp p hn n = true) : 3 ≤ p ∧ p ≤ hp ∧ 0 ≤ n ∧ n ≤ hn := by unfold prB at h; simpa using h
theorem prB_yes {hp p hn n : Int} (h : 3 ≤ p ∧ p ≤ hp ∧ 0 ≤ n ∧ n ≤ hn) : prB hp p hn n = true := by unfold prB; simpa using h
theorem prB_no {hp p hn n : Int} (h : ¬ (3 ≤ p ∧ p ≤ hp ∧ 0 ≤ n ∧ n ≤ hn)) : prB hp p hn n = false := by unfold prB; rw [decide_eq_false_iff_not]; exact h
theorem prC_yes {hp p hn n : Int} (h : prB hp p hn n = true) : prC hp p hn n = 0 := by unfold prC; rw [if_pos h]
theorem prC_no {hp p hn n : Int} (h : prB hp p hn n = false) : prC hp p hn n = 2 := by unfold prC; rw [h]; rfl

set_option maxHeartbeats 1000000 in
theorem codeOfPresumed_calls (p hp n hn : Int) (w : World) :
    Calls Try.prog 16 #[.int .i64 p, .int .i64 hp, .int .i64 n, .int .i64 hn] w fun e w' => e = .returned (.int .i64 (prC hp p hn n)) ∧ w = w' := by
  by_cases h1 : p < 3
  · have H := Lib.hid (prC_no (prB_no (hp := hp) (p := p) (hn := hn) (n := n) (by omega)))
    go_enter Try.func16, Try.ntmps16
    go_wp2
    go_ret
    exact ⟨ret_int H.out.symm, rfl⟩
  · by_cases h2 : hp < p
    · have H := Lib.hid (prC_no (prB_no (hp := hp) (p := p) (hn := hn) (n := n) (by omega)))
      go_enter Try.func16, Try.ntmps16
      go_wp2
      go_ret
      exact ⟨ret_int H.out.symm, rfl⟩
    · by_cases h3 : n < 0
      · have H := Lib.hid (prC_no (prB_no (hp := hp) (p := p) (hn := hn) (n := n) (by omega)))
        go_enter Try.func16, Try.ntmps16
        go_wp2
        go_ret
        exact ⟨ret_int H.out.symm, rfl⟩
      · by_cases h4 : hn < n
        · have H := Lib.hid (prC_no (prB_no (hp := hp) (p := p) (hn := hn) (n := n) (by omega)))
          go_enter Try.func16, Try.ntmps16
          go_wp2
          go_ret
          exact ⟨ret_int H.out.symm, rfl⟩
        · have H := Lib.hid (prC_yes (prB_yes (hp := hp) (p := p) (hn := hn) (n := n) (by omega)))
          go_enter Try.func16, Try.ntmps16
          go_wp2
          go_ret
          exact ⟨ret_int H.out.symm, rfl⟩

end Go.Proofs.Ytfllbdpdfgkkaaa
