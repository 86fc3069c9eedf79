/- How a slice of bytes that came in is opened. -/
import Derived.Test.YtfdjlgpdbgmdkacOpen
import Derived.Test.YtfdjlgpdbgmdkacDraw
namespace Go.Proofs.Ytfdjlgpdbgmdkac
open Go.ChangeShapes Go.WideShapes Go.ChangeAt Go.RowKit Go.Joins
set_option linter.unusedVariables false

theorem cellsU8 : Try.prog.cellsOf 5 = 1 := by kernel_rfl
theorem u8_of {n : Int} (h : (Lit.int .u8 n).wf = true) : ∃ b : Nat, b < 256 ∧ n = b := by
  have h2 := bounds_u8 h
  exact ⟨n.toNat, by omega, by omega⟩
theorem open_slice_bytes {H : Type} {enc : TypeId × Value → H} {W : World} {fuel : Nat} {v : Value} {x : DataW H × List MemPlace}
    (hf : DataW.trod enc Try.prog W 0 (fun _ => true) true fuel 22 [v] = some x) :
    ∃ (A : Option Addr) (n c : Nat), v = .slice A n c ∧ By W A n ∧ ∀ ad, A = some ad → 0 < n → ad.block < W.heap.size := by
  rcases open_ints Try.underlying22 Try.underlying5 cellsU8 hf with ⟨hcs, _⟩ | ⟨a, l, c, zs, hcs, _, hl, hm, hz, _, hcell, hwz⟩
  · simp only [List.cons.injEq, and_true] at hcs
    exact ⟨none, 0, 0, hcs, fun k hk => by omega, fun ad e => by cases e⟩
  · simp only [List.cons.injEq, and_true] at hcs
    simp only [if_true] at hz
    have each : ∀ k, k < l → ∃ b : Nat, b < 256 ∧ W.cell? (a.add k) = some (.int .u8 b) := by
      intro k hk
      have h := hcell k (by omega)
      obtain ⟨b, hb, e⟩ := u8_of (hwz (zs.getD k 0) (by rw [List.getD_eq_getElem?_getD, List.getElem?_eq_getElem (by omega)]; exact List.getElem_mem _))
      rw [e] at h
      exact ⟨b, hb, h⟩
    refine ⟨some a, l, c, hcs, fun k hk => ?_, fun ad e h0 => ?_⟩
    · obtain ⟨b, hb, h⟩ := each k hk
      exact ⟨a, rfl, by have := block_of_cell h; rwa [add_block] at this, b, hb, h⟩
    · injection e with e
      subst e
      obtain ⟨b, hb, h⟩ := each 0 h0
      have := block_of_cell h
      rwa [add_block] at this

end Go.Proofs.Ytfdjlgpdbgmdkac
