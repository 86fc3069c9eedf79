/- How a state and a list of integers that came in are opened. -/
import Derived.Test.YtfdjlgpdbgmdkaaBase
import Derived.Test.YtfdjlgpdbgmdkaaRows
import Derived.ProofKit
import Derived.OpenShut
import Derived.Lib.SmallJoins
namespace Go.Proofs.Ytfdjlgpdbgmdkaa
open Go.ChangeShapes Go.WideShapes Go.ChangeAt Go.RowKit Go.Joins
set_option linter.unusedVariables false

theorem own : ownKnob Try.prog.godebug = none := by kernel_rfl
theorem laidOut : laidOutB Try.prog = true := by kernel_rfl
theorem cellsI : Try.prog.cellsOf 2 = 1 := by kernel_rfl

theorem zs_ints {w : World} {a : Addr} {len : Nat} {zs : List Int} (hl : len ≤ zs.length) (hc : ∀ i, i < zs.length → w.cell? (a.add i) = some (.int .i64 (zs.getD i 0))) :
    Ints w (some a) (zs.take len) := by
  intro k hk
  have hk' : k < len := by simp at hk; omega
  have h := hc k (by omega)
  refine ⟨a, rfl, by have := block_of_cell h; rwa [add_block] at this, ?_⟩
  rw [h]
  simp [hk']

/-- A slice of integers: its value, and what it reads as. -/
theorem open_slice_ints {H : Type} {enc : TypeId × Value → H} {W : World} {fuel : Nat} {v : Value} {x : DataW H × List MemPlace}
    (hf : DataW.trod enc Try.prog W 0 (fun _ => true) true fuel 24 [v] = some x) :
    ∃ (A : Option Addr) (n c : Nat) (L : List Int), v = .slice A n c ∧ ArgInts W A n L := by
  rcases open_ints Try.underlying24 Try.underlying2 cellsI hf with ⟨hcs, _⟩ | ⟨a, l, c, zs, hcs, _, hl, hm, hz, _, hcell, hwz⟩
  · simp only [List.cons.injEq, and_true] at hcs
    exact ⟨none, 0, 0, [], hcs, rfl, by omega, Ints.nil _ _⟩
  · simp only [List.cons.injEq, and_true] at hcs
    simp only [if_true] at hz
    refine ⟨some a, l, c, zs.take l, hcs, by simp; omega, by unfold maxLen at hm; omega, zs_ints (by omega) hcell⟩

end Go.Proofs.Ytfdjlgpdbgmdkaa
