/- Contracts: the stacks of a state. -/
import Derived.Test.YtpiglaolofddfaaDoorSS2
import Derived.Test.YtpiglaolofddfaaDoorState1
import Derived.Deep.AppendLies
namespace Go.Proofs.YtpiglaolofddfaaDoor
open Go.RowKit
set_option linter.unusedVariables false

/-- The discs of a peg among the k greatest ones, the greatest first. -/
def stkL (L : List Int) (peg : Int) : Nat → List Int
  | 0 => []
  | k + 1 => stkL L peg k ++ (if L[L.length - 1 - k]?.getD 0 = peg then [((L.length - 1 - k : Nat) : Int)] else [])
theorem stkL_len (L : List Int) (peg : Int) : ∀ k, (stkL L peg k).length ≤ k
  | 0 => by simp [stkL]
  | k + 1 => by have := stkL_len L peg k; unfold stkL; split <;> simp <;> omega
def stacksL (p : Nat) (L : List Int) (k : Nat) : List (List Int) := (List.range p).map (fun i : Nat => stkL L (i : Int) k)
theorem stacksL_succ (p : Nat) (L : List Int) (k : Nat) : stacksL (p + 1) L k = stacksL p L k ++ [stkL L (p : Int) k] := by simp [stacksL, List.range_succ]
theorem stacksL_len (p : Nat) (L : List Int) (k : Nat) : (stacksL p L k).length = p := by simp [stacksL]
def stkV (p : Int) (L : List Int) : List (List Int) := if stateB p L = true then stacksL p.toNat L L.length else []
theorem stk_yes {p : Nat} {L : List Int} {n : Nat} (h : stateB p L = true) (hL : L.length = n) : stkV p L = stacksL p L n ∧ codeS p L = 0 := ⟨by unfold stkV; rw [if_pos h, Int.toNat_natCast, hL], codeS_yes h⟩
theorem stk_no {p : Int} {L : List Int} (h : stateB p L = false) : stkV p L = [] ∧ codeS p L = 1 := ⟨by unfold stkV; rw [h]; rfl, codeS_no h⟩

theorem stkV_small (p : Int) (L : List Int) : ((stkV p L).map List.length).sum + (stkV p L).length ≤ 1048576 := by
  by_cases h : stateB p L = true
  · obtain ⟨h3, h5, h8, _⟩ := state_facts h rfl
    obtain ⟨q, rfl⟩ := Int.eq_ofNat_of_zero_le (a := p) (by omega)
    rw [(stk_yes h rfl).1, stacksL_len]
    have hs : ∀ (l : List Nat) (b : Nat), (∀ x ∈ l, x ≤ b) → l.sum ≤ l.length * b := by
      intro l b hl
      induction l with
      | nil => simp
      | cons x t ih =>
        have h1 := hl x List.mem_cons_self
        have h2 := ih (fun y hy => hl y (List.mem_cons_of_mem _ hy))
        rw [List.sum_cons, List.length_cons, Nat.add_mul]
        omega
    have h1 := hs ((stacksL q L L.length).map List.length) 8 (fun x hx => by
      obtain ⟨l, hl, rfl⟩ := List.mem_map.1 hx
      unfold stacksL at hl
      obtain ⟨i, _, rfl⟩ := List.mem_map.1 hl
      have := stkL_len L i L.length
      omega)
    rw [List.length_map, stacksL_len] at h1
    omega
  · rw [(stk_no (by simpa using h)).1]; simp

/-- What lay before the world wo is as it was, when only younger blocks have been written to. -/
theorem ss_young {B n c : Nat} {wo wr w4 : World} {A : Option Addr} {rs : List Rw} (h0 : OwnSS B wo A n c rs) (_h : OwnSS B wr A n c rs) (hb : Below wo.heap.size wo wr) (hg : Below wo.heap.size wr w4) : OwnSS B w4 A n c rs :=
  h0.below (hb.trans hg)

/-- As many lists as pegs, none of which has an element. -/
def nilRow : Rw := ⟨none, 0, 0, 0, []⟩
theorem ownSS_made {B : Nat} {w : World} {g p : Nat} (hb : Box w g 61 (List.replicate p (Value.slice none 0 0)).toArray) (hB : B ≤ g) (hp : p ≤ 100) : OwnSS B w (some ⟨g, 0, none⟩) p p (List.replicate p nilRow) := by
  refine ⟨⟨by simp, .inr ⟨g, p, _, rfl, hB, hb, Nat.le_refl _, by unfold maxLen; omega, by simp, ?_⟩⟩, ?_, ?_⟩
  · rw [List.take_of_length_le (by simp)]
    simp [nilRow, Rw.v]
  · intro r hr
    rw [List.eq_of_mem_replicate hr]
    exact Own.nilS _ _
  · unfold Distinct
    rw [List.pairwise_iff_getElem]
    intro i j hi hj _ g hA
    rw [List.getElem_replicate] at hA
    cases hA

theorem stacks_start (q : Nat) (L : List Int) : LLof (List.replicate q nilRow) = stacksL q L 0 := by
  unfold LLof stacksL
  apply List.ext_getElem (by simp)
  intro i h1 h2
  simp [nilRow, stkL]
theorem stacks_step {q k n d P : Nat} {L : List Int} (hL : L.length = n) (hd : d + k + 1 = n) (hP : L[d]?.getD 0 = (P : Int)) (hPq : P < q) : (stacksL q L k).set P (stkL L P k ++ [(d : Int)]) = stacksL q L (k + 1) := by
  have e : L.length - 1 - k = d := by omega
  apply List.ext_getElem (by simp [stacksL])
  intro i h1 h2
  rw [List.getElem_set]
  have hs : ∀ j (hj : j < (stacksL q L (k + 1)).length), (stacksL q L (k + 1))[j] = stkL L (j : Int) (k + 1) := by intro j hj; simp [stacksL]
  have hs0 : ∀ j (hj : j < (stacksL q L k).length), (stacksL q L k)[j] = stkL L (j : Int) k := by intro j hj; simp [stacksL]
  rw [hs]
  by_cases hi : P = i
  · subst hi
    rw [if_pos rfl, stkL, e, if_pos hP]
  · rw [if_neg hi, hs0, stkL, e, if_neg (by rw [hP]; omega), List.append_nil]
/-- The outer row behind an append to one of the lists. -/
theorem OwnSS.outer {B n c i : Nat} {w w1 : World} {o : Obj} {gA : Nat} {rs : List Rw} {r : Rw} (h : OwnSS B w (some ⟨gA, 0, none⟩) n c rs) (hi : rs[i]? = some r) (hg : (w.alloc o).grownBy w1 (Value.slice r.A r.n r.c).ownBlock) : OwnG 61 1 B w1 (some ⟨gA, 0, none⟩) n c (rs.map Rw.v) := by
  have hrow := h.2.1 r (List.mem_of_getElem? hi)
  rw [ownBlock_cap r.A r.n r.c r.d] at hg
  refine (h.1.alloc o).kept hg ?_
  intro g' hA e
  injection hA with hA
  injection hA with hA
  subst hA
  have h1 := block_of_own hrow e
  have h2 := hrow
  rw [h1] at h2
  exact absurd (OwnG.two_types h.1 h2) (by decide)

end Go.Proofs.YtpiglaolofddfaaDoor
