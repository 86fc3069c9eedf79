/- Contracts: WayToPeg, by the specification's model and by the program. -/
import Derived.Test.YtmpmkhfbfaicpaaGoalsOf
import Derived.Test.YtmpmkhfbfaicpaaColl
namespace Go.Proofs.Ytmpmkhfbfaicpaa
open Go.RowKit
set_option linter.unusedVariables false

def wtL (p : Int) (L : List Int) (a : Int) : List Mv := if codeW p L a = 0 then wayL L a else []
theorem wtL_len (p : Int) (L : List Int) (a : Int) : (wtL p L a).length ≤ 255 := by
  unfold wtL
  split
  · next h =>
    have h8 := (state_facts (codeW_zero h).1 rfl).2.2.1
    exact wayL_bd h8
  · simp
theorem movesToPeg_calls (A : Option Addr) (n c : Nat) (a : Int) (w : World) :
    Calls Try.prog 25 #[.slice A n c, .int .i64 a] w fun e w' => e = .returned (.func (.func 42) #[] #[.pointer (some ⟨w.heap.size, 0, none⟩), .pointer (some ⟨w.heap.size + 1, 0, none⟩)]) ∧ w' = (w.alloc (.cells #[.slice A n c] 22)).alloc (.cells #[.int .i64 a] 2) := by
  go_enter Try.func25, Try.ntmps25
  go_wp2
  go_ret
  exact ⟨rfl, rfl⟩

end Go.Proofs.Ytmpmkhfbfaicpaa
