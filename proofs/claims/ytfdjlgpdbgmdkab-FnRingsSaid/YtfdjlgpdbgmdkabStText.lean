/- Contracts: texts of states. -/
import Derived.Test.YtfdjlgpdbgmdkabState1
import Derived.Test.YtfdjlgpdbgmdkabDigit
import Derived.OwnWalk
import Derived.Maps.AppendAt
namespace Go.Proofs.Ytfdjlgpdbgmdkab
open Go.RowKit
set_option linter.unusedVariables false

theorem Try.infoB : (Try.prog.info? 5).map (fun i => (i.zero, i.size, i.bytes)) = some (some (.int .u8 0), 1, 1) := by kernel_rfl

/-- The bytes of the text with k discs, the greatest first. -/
def stB (p : Int) (L : List Int) (k : Nat) : List UInt8 := [dg p, 58] ++ (List.range k).map (fun j => dg (L.getD (L.length - 1 - j) 0))
theorem stB_len (p : Int) (L : List Int) (k : Nat) : (stB p L k).length = k + 2 := by simp [stB]
theorem stB_succ (p : Int) (L : List Int) (k : Nat) : stB p L (k + 1) = stB p L k ++ [dg (L.getD (L.length - 1 - k) 0)] := by simp [stB, List.range_succ]
def stS (p : Int) (L : List Int) (k : Nat) : ByteArray := ⟨(stB p L k).toArray⟩
theorem stS_succ (p : Int) (L : List Int) (k : Nat) : stS p L (k + 1) = stS p L k ++ ⟨#[dg (L.getD (L.length - 1 - k) 0)]⟩ := by
  unfold stS
  rw [stB_succ]
  apply ByteArray.ext
  simp
theorem stS_zero (p : Int) (L : List Int) : stS p L 0 = (⟨#[dg p]⟩ : ByteArray) ++ ⟨#[58]⟩ := by
  apply ByteArray.ext
  simp [stS, stB]
theorem stS_size (p : Int) (L : List Int) (k : Nat) : (stS p L k).size = k + 2 := by
  show (stB p L k).toArray.size = k + 2
  rw [List.size_toArray, stB_len]

theorem own_shape2 {w : World} {B : Nat} {v : Value} {n : Nat} {xs : List Value} {e s : Nat} (h : w.ownsRow B e s v n xs) : ∃ A c, v = .slice A n c := by
  rcases h.2 with ⟨rfl, rfl⟩ | ⟨g, cap, cur, rfl, _⟩
  · exact ⟨_, _, rfl⟩
  · exact ⟨_, _, rfl⟩
/-- A row and a box of another type never share a block. -/
theorem own_box_ne2 {w : World} {B b t e s n : Nat} {v : Value} {xs : List Value} {cs : Array Value} (h : w.ownsRow B e s v n xs) (hb : Box w b t cs) (ht : t ≠ e) : some b ≠ v.ownBlock := by
  rcases h.2 with ⟨rfl, rfl⟩ | ⟨g, cap, cur, rfl, _, hh, _⟩
  · simp [Value.ownBlock]
  · simp only [Value.ownBlock, ne_eq, Option.some.injEq]
    rintro rfl
    unfold Box at hb
    rw [hb] at hh
    injection hh with hh
    injection hh with _ hh
    exact ht hh
theorem bytes_oneCell (bs : List UInt8) : ∀ u ∈ bs.map (fun b => Value.int .u8 (b.toNat : Int)), u.oneCell' = true := by
  intro u hu
  obtain ⟨b, _, rfl⟩ := List.mem_map.1 hu
  rfl
/-- string(b) where b is a row of the call's own. -/
theorem conv_own {w : World} {B n c : Nat} {A : Option Addr} {bs : List UInt8} (h : w.ownsRow B 5 1 (.slice A n c) n (bs.map (fun b => Value.int .u8 (b.toNat : Int)))) (hn : 0 < n) :
    (convert 22 9 (.slice A n c)).run Try.prog w = .ok (.string ⟨bs.toArray⟩) w := by
  have hl : bs.length = n := by have := h.1; simpa using this
  rcases h.2 with ⟨_, h0⟩ | ⟨g, cap, cur, hv, _⟩
  · omega
  · injection hv with h1 h2 h3
    subst h1
    have e0 := run_convert_bytes_back (P := Try.prog) w 22 9 5 ⟨g, 0, none⟩ c bs Try.underlying22 Try.underlying5 Try.underlying9 (fun j hj => by
      have e : (⟨g, 0, none⟩ : Addr).add j = ⟨g, j, none⟩ := by
        unfold Addr.add
        split
        · next h0 => rw [h0]
        · simp
      rw [e, World.ownsRow.cellAt h j (by omega)]
      simp [hj])
    rw [hl] at e0
    exact e0

/-- What StateText answers. -/
def sttV (p : Int) (L : List Int) : ByteArray := if stateB p L = true then stS p L L.length else ⟨#[]⟩
theorem stt_yes {p : Int} {L : List Int} (h : stateB p L = true) : sttV p L = stS p L L.length := by unfold sttV; rw [if_pos h]
theorem stt_no {p : Int} {L : List Int} (h : stateB p L = false) : sttV p L = ⟨#[]⟩ := by unfold sttV; rw [h]; rfl

end Go.Proofs.Ytfdjlgpdbgmdkab
