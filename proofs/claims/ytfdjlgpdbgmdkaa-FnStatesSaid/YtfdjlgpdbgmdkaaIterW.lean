/- Words for ranges over functions: blocks that lie as they lay; what abides growth. -/
import Derived.Test.YtfdjlgpdbgmdkaaBase
import Derived.RangeFuncNested
import Derived.RangeFuncBox
import Derived.RangeFuncBound
import Derived.RangeFuncCalls
import Derived.RangeFuncLeaves
import Derived.Shelf.Abstract
import Derived.Shelf.RegionOpen
import Derived.OwnWalkIn
import Derived.TacticsInMore
import Derived.LoopNIn
import Derived.LoopIn
namespace Go.Proofs.Ytfdjlgpdbgmdkaa
open Go.RowKit Go.Shelf
set_option linter.unusedVariables false
attribute [local go_sem] Oper.semAt_some

/-- The blocks of S lie as they lay. -/
def KeepB (S : Nat → Prop) (W W' : World) : Prop := ∀ b, S b → W'.heap[b]? = W.heap[b]?
theorem keepB_t {S : Nat → Prop} {A B C : World} (h : KeepB S A B) (k : KeepB S B C) : KeepB S A C := fun b hb => (k b hb).trans (h b hb)
theorem keepB_b {S : Nat → Prop} {w : World} (hS : ∀ b, S b → b < w.heap.size) (W : World) (l : Nat) (o o' : Obj) (hl : w.heap.size ≤ l) (h : W.heap[l]? = some o) (_ : o.isCells = false) (_ : o.isWalk = false) : KeepB S W (W.putObj l o') :=
  fun b hb => World.putObj_heap_other (by have := hS b hb; omega)
theorem keepB_below {S : Nat → Prop} {B : Nat} {W W' : World} (h : Below B W W') (hS : ∀ b, S b → b < B) : KeepB S W W' := fun b hb => h.block b (hS b hb)
/-- The block of a state's box and that of its list. -/
def stS (Bx : Nat) (A : Option Addr) (L : List Int) (b : Nat) : Prop := b = Bx ∨ (L ≠ [] ∧ ∃ ad : Addr, A = some ad ∧ b = ad.block)
theorem stS_cases {w : World} {Bx b : Nat} {A : Option Addr} {L : List Int} (hI : Ints w A L) (h : stS Bx A L b) : b = Bx ∨ b < w.heap.size := by
  rcases h with h | ⟨hne, ad, rfl, rfl⟩
  · exact .inl h
  · obtain ⟨ad', e, hlt, _⟩ := hI 0 (List.length_pos_iff.2 hne)
    cases e
    exact .inr hlt
theorem Ints.keepB {S : Nat → Prop} {W W' : World} {A : Option Addr} {L : List Int} (h : Ints W A L) (hk : KeepB S W W') (hS : ∀ ad : Addr, A = some ad → L ≠ [] → S ad.block) : Ints W' A L := by
  intro k hlt
  obtain ⟨ad, rfl, hb, hc⟩ := h k hlt
  have hh := hk ad.block (hS ad rfl (by intro e; rw [e] at hlt; simp at hlt))
  have hb' : ad.block < W'.heap.size := by
    rcases Nat.lt_or_ge ad.block W'.heap.size with h' | h'
    · exact h'
    · rw [Array.getElem?_eq_none h', Array.getElem?_eq_getElem hb] at hh; cases hh
  refine ⟨ad, rfl, hb', ?_⟩
  rw [← hc]
  unfold World.cell?
  rw [add_block, hh]
theorem grown_of_below {W W' : World} (h : Below W.heap.size W W') : W.grownBy W' none := ⟨h.os, h.tape, h.output, h.size, fun k hk _ => h.block k hk⟩
theorem keepsOthers_of_below {W W' : World} (h : Below W.heap.size W W') : KeepsOthers W W' := KeepsOthers.of_grownBy (grown_of_below h) (fun j o e _ => by cases e)
theorem abide {β : Type} {B : Nat} {J : β → World → Prop} (hJ : AbidesFrom B J) {s : β} {W W' : World} (hs : J s W) (h : Below W.heap.size W W') : J s W' := hJ s W W' none hs (grown_of_below h) (fun r e => by cases e)

theorem box_own {β : Type} (B : Nat) (t : TypeId) (cs : Array Value) : Go.Own (fun (_ : β) W => Box W B t cs) := fun s X Y row hs hg hrow =>
  hs.grown hg (fun e' => by obtain ⟨o, ho, hc⟩ := hrow B e'.symm; rw [show X.heap[B]? = _ from hs] at ho; cases ho; cases hc)

theorem ownFrom_size {β : Type} (B k : Nat) : OwnFrom B (fun (_ : β) W => k ≤ W.heap.size) := fun _ _ _ _ hs hg _ => Nat.le_trans hs hg.size
/-- Behind an append and the store of its answer: the blocks that are neither the list's own nor the variable's lie as they lay. -/
theorem keepB_appended {S : Nat → Prop} {W w2 : World} {tmp : Obj} {v u : Value} {B : Nat} (hg : (W.alloc tmp).grownBy w2 v.ownBlock) (hS : ∀ b, S b → b < W.heap.size ∧ some b ≠ v.ownBlock ∧ b ≠ B) : KeepB S W (w2.setCell ⟨B, 0, none⟩ u) := fun b hb => by
  obtain ⟨h1, h2, h3⟩ := hS b hb
  exact (Below.heap_setCell _ _ _ _ (by exact h3)).trans ((hg.block b (by simp; omega) h2).trans (Below.heap_alloc W tmp b h1))

theorem ints_own {β : Type} (A : Option Addr) (L : List Int) : Go.Own (fun (_ : β) W => Ints W A L) := fun s X Y row hs hg hrow k hk => by
  obtain ⟨ad, hA, hlt, hc⟩ := hs k hk
  refine ⟨ad, hA, Nat.lt_of_lt_of_le hlt hg.size, ?_⟩
  have hb := hg.block ad.block hlt (fun e => by
    obtain ⟨o, ho, hcs⟩ := hrow _ e.symm
    unfold World.cell? at hc
    rw [add_block, ho] at hc
    cases o <;> simp [Obj.isCells] at hcs hc)
  rw [← hc]
  unfold World.cell?
  rw [add_block, hb]

end Go.Proofs.Ytfdjlgpdbgmdkaa
