/- What chapter 8's answers have to do with each other. No walk. -/
import Derived.Test.YtgjglpjnfhdebaaPnF
import Derived.Test.YtgjglpjnfhdebaaPnV
import Derived.Test.YtgjglpjnfhdebaaGreat
namespace Go.Proofs.Ytgjglpjnfhdebaa
open Go.RowKit
set_option linter.unusedVariables false

theorem gr_is (f : Nat → Int) (m : Int) (h0 : f 0 ≤ m) : ∀ k, f (grF f m k) ≤ m ∧ ∀ j, grF f m k < j → j ≤ k → m < f j
  | 0 => ⟨h0, fun j h1 h2 => by omega⟩
  | k + 1 => by
    obtain ⟨a, b⟩ := gr_is f m h0 k
    rw [grF]
    split
    · next h => exact ⟨h, fun j h1 h2 => by omega⟩
    · next h => exact ⟨a, fun j h1 h2 => by
        rcases Nat.lt_or_ge k j with hj | hj
        · obtain rfl : j = k + 1 := by omega
          omega
        · exact b j h1 hj⟩
def stL (q m : Nat) : List Int := tabL (fun i => pnF q (i + 1) - pnF q i) m
def okPn (q m : Nat) : Bool :=
  decide (fmS q m = pnF q m) && decide (wsum (ptL q m) (ptL q m).length = (m : Int)) && decide (wsum (stL q m) (stL q m).length = pnF q m) &&
    (List.range (stL q m).length).all fun i => decide (1 ≤ (stL q m).getD i 0) && decide (bits .and .i64 ((stL q m).getD i 0) (wrap64 ((stL q m).getD i 0 - 1)) = 0) && (i == 0 || decide ((stL q m).getD (i - 1) 0 ≤ (stL q m).getD i 0))
theorem okPn_all : ∀ q : Fin 8, ∀ m : Fin 61, okPn q.val m.val = true := by decide +kernel

end Go.Proofs.Ytgjglpjnfhdebaa
