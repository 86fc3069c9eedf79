/- The chosen way between two states. No program. · Words for memory: a slice in the call's own memory, of any element type. No program. · Words for memory: an own slice of integers is read. · Two lists of which the one came later: the older one's block is not the younger's. · Words for memory: a list of lists of integers that the call owns, or that is read; such lists are compared, marked, found to hold their marks. · The cells of a slice that is read, as a source. · Contracts: slices.Concat over words of integers, slices.Grow of nothing. · Words for memory: a list of lists grows: by a list at its end, or in one of its lists. · Words for memory: a list of states that the call owns, or that is read; such lists are compared, marked, found to hold their marks. · Contracts of the laws' functions over lists of states: they compare, mark, look for marks. · Words for ranges over functions: blocks that lie as they lay; what abides growth. · Contracts: the legal moves of a state as a function that is ranged over. · Lists of moves in memory: words, and the law's comparisons and marks. · Contracts: the list of the legal moves, by the specification's model. · Contracts: LegalMoves, by the specification's model and by the program. -/
import Derived.Test.YtbcgomimfgggnaaPk3
import Derived.Test.YtbcgomimfgggnaaPk1
import Derived.Deep.AppendLies
import Derived.Maps.AppendAt
import Derived.Laws.CopyOwn
import Derived.Lib.AppendZeros
import Derived.RangeFuncBox
import Derived.StillTailTactics
import Derived.RangeFuncNested
import Derived.RangeFuncBound
import Derived.RangeFuncCalls
import Derived.RangeFuncLeaves
import Derived.Shelf.Abstract
import Derived.Shelf.RegionOpen
import Derived.OwnWalkIn
import Derived.TacticsInMore
import Derived.LoopNIn
import Derived.LoopIn
namespace Go.Proofs.Ytbcgomimfgggnaa
open Go.RowKit
set_option linter.unusedVariables false
set_option maxRecDepth 100000

/-- A move the other way; moves the other way, the last one first. -/
def bkM (m : Mv) : Mv := (m.1, m.2.2, m.2.1)
def bkL (M : List Mv) : List Mv := (M.map bkM).reverse
theorem bkL_nil : bkL [] = [] := rfl
theorem bkL_cons (m : Mv) (M : List Mv) : bkL (m :: M) = bkL M ++ [bkM m] := by simp [bkL]
theorem bkL_len (M : List Mv) : (bkL M).length = M.length := by simp [bkL]
theorem bkL_drop {M : List Mv} {k : Nat} (h : k < M.length) : bkL (M.drop k) = bkL (M.drop (k + 1)) ++ [((M[k]?.getD (0, 0, 0)).1, (M[k]?.getD (0, 0, 0)).2.2, (M[k]?.getD (0, 0, 0)).2.1)] := by
  rw [List.drop_eq_getElem_cons h, bkL_cons, List.getElem?_eq_getElem h]
  rfl
/-- The way by one move of the greatest disc; by two. -/
def w1L (L M : List Int) (D : Nat) (P Q : Int) : List Mv := wayL (L.take D) (3 - P - Q) ++ ([((D : Int), P, Q)] ++ bkL (wayL (M.take D) (3 - P - Q)))
def w2L (L M : List Int) (D : Nat) (P Q : Int) : List Mv := wayL (L.take D) Q ++ ([((D : Int), P, 3 - P - Q)] ++ (wayL (List.replicate D Q) P ++ ([((D : Int), 3 - P - Q, Q)] ++ bkL (wayL (M.take D) P))))
def wbD (L M : List Int) (D : Nat) : List Mv :=
  if oneN L M D ≤ twoN L M D then w1L L M D (L[D]?.getD 0) (M[D]?.getD 0) else w2L L M D (L[D]?.getD 0) (M[D]?.getD 0)
def wbT (L M : List Int) : List Mv := if grt L M L.length = -1 then [] else wbD L M (grt L M L.length).toNat
def wbL (p : Int) (L : List Int) (q : Int) (M : List Int) : List Mv := if code2 p L q M = 0 then wbT L M else []
theorem w1L_len (L M : List Int) (D : Nat) (P Q : Int) (h : D ≤ 7) : (w1L L M D P Q).length ≤ 800 := by
  have h1 := wayL_bd (L := L.take D) (a := 3 - P - Q) (by simp; omega)
  have h2 := wayL_bd (L := M.take D) (a := 3 - P - Q) (by simp; omega)
  unfold w1L
  simp only [List.length_append, List.length_cons, List.length_nil, bkL_len]
  omega
theorem w2L_len (L M : List Int) (D : Nat) (P Q : Int) (h : D ≤ 7) : (w2L L M D P Q).length ≤ 800 := by
  have h1 := wayL_bd (L := L.take D) (a := Q) (by simp; omega)
  have h2 := wayL_bd (L := M.take D) (a := P) (by simp; omega)
  have h3 := wayL_bd (L := List.replicate D Q) (a := P) (by simp; omega)
  unfold w2L
  simp only [List.length_append, List.length_cons, List.length_nil, bkL_len]
  omega
theorem wbL_no {p q : Int} {L M : List Int} (h : ¬ code2 p L q M = 0) : wbL p L q M = [] := by unfold wbL; rw [if_neg h]
theorem wbL_same {p q : Int} {L M : List Int} {n : Nat} (h : code2 p L q M = 0) (hn : L.length = n) (hg : grt L M n = -1) : wbL p L q M = [] := by unfold wbL wbT; rw [if_pos h, hn, if_pos hg]
theorem wbL_at {p q : Int} {L M : List Int} {n D : Nat} (h : code2 p L q M = 0) (hn : L.length = n) (hg : grt L M n = D) : wbL p L q M = wbD L M D := by
  unfold wbL wbT
  rw [if_pos h, hn, hg, if_neg (by omega), Int.toNat_natCast]
theorem rep_pegs {t : Int} (ht : 0 ≤ t ∧ t ≤ 2) (n : Nat) : pegsOk (List.replicate n t) := fun x hx => by rw [(List.mem_replicate.1 hx).2]; exact ht

end Go.Proofs.Ytbcgomimfgggnaa

namespace Go.Proofs.Ytbcgomimfgggnaa
open Go.RowKit
set_option maxRecDepth 100000

/-- The slice is the call's own, from block B on: its cells, of the element type e with so many cells an element, are xs. -/
def OwnG (e size : Nat) (B : Nat) (w : World) (A : Option Addr) (n c : Nat) (xs : List Value) : Prop := w.ownsRow B e size (.slice A n c) n xs

section
variable {e size B : Nat} {w w' : World} {A : Option Addr} {n c : Nat} {xs : List Value}
theorem OwnG.form (h : OwnG e size B w A n c xs) : (A = none ∧ n = 0 ∧ c = 0) ∨ ∃ g, A = some ⟨g, 0, none⟩ ∧ B ≤ g ∧ g < w.heap.size := by
  rcases h.2 with ⟨hv, hn⟩ | ⟨g, cap, cur, hv, hb, hh, _⟩
  · left
    injection hv with h1 h2 h3
    exact ⟨h1, h2, h3⟩
  · right
    injection hv with h1 h2 h3
    exact ⟨g, h1, hb, (Array.getElem?_eq_some_iff.1 hh).1⟩
theorem OwnG.kept {row : Option Nat} (h : OwnG e size B w A n c xs) (hg : w.grownBy w' row) (hne : ∀ g, A = some ⟨g, 0, none⟩ → row ≠ some g) : OwnG e size B w' A n c xs := by
  refine World.ownsRow.kept h hg ?_
  rcases h.form with ⟨rfl, rfl, rfl⟩ | ⟨g, rfl, _, _⟩
  · left; rfl
  · right; exact fun e => hne g rfl e.symm
theorem OwnG.below (h : OwnG e size B w A n c xs) (hb : Below w.heap.size w w') : OwnG e size B w' A n c xs :=
  h.kept (row := none) ⟨hb.os, hb.tape, hb.output, hb.size, fun k hk _ => hb.block k hk⟩ (fun g _ => by simp)
theorem OwnG.alloc (h : OwnG e size B w A n c xs) (o : Obj) : OwnG e size B (w.alloc o) A n c xs := h.below ((Below.refl _ _).alloc (Nat.le_refl _) _)
theorem OwnG.draws (h : OwnG e size B w A n c xs) (m : Nat) : OwnG e size B (w.drewN m) A n c xs := h
theorem OwnG.mono {B' : Nat} (h : OwnG e size B w A n c xs) (hB : B' ≤ B) : OwnG e size B' w A n c xs := by
  refine ⟨h.1, ?_⟩
  rcases h.2 with h2 | ⟨g, cap, cur, h1, h2, h3⟩
  · exact .inl h2
  · exact .inr ⟨g, cap, cur, h1, Nat.le_trans hB h2, h3⟩
theorem OwnG.ne_box {g b t : Nat} {cs : Array Value} (h : OwnG e size B w (some ⟨g, 0, none⟩) n c xs) (hb : Box w b t cs) (ht : t ≠ e) : g ≠ b := by
  rintro rfl
  rcases h.2 with ⟨hv, _⟩ | ⟨g', cap, cur, hv, _, hh, _⟩
  · simp at hv
  · injection hv with h1 h2 h3
    injection h1 with h1
    injection h1 with h1
    subst h1
    unfold Box at hb
    rw [hb] at hh
    injection hh with hh
    injection hh with _ hh _
    exact ht hh
theorem OwnG.box_ne {b t : Nat} {cs : Array Value} (h : OwnG e size B w A n c xs) (hb : Box w b t cs) (ht : t ≠ e) : some b ≠ (Value.slice A n c).ownBlock := by
  rcases h.form with ⟨rfl, rfl, rfl⟩ | ⟨g, rfl, _, _⟩
  · simp [Value.ownBlock]
  · have := h.ne_box hb ht
    simp only [Value.ownBlock, ne_eq, Option.some.injEq]
    exact fun e => this e.symm
theorem ownG_shape {v : Value} {ys : List Value} {e s : Nat} (h : w.ownsRow B e s v n ys) : ∃ A c, v = .slice A n c := by
  rcases h.2 with ⟨rfl, rfl⟩ | ⟨g, cap, cur, rfl, _⟩
  · exact ⟨_, _, rfl⟩
  · exact ⟨_, _, rfl⟩
theorem OwnG.setBox (h : OwnG e size B w A n c xs) {a : Addr} (ha : ∀ g, A = some ⟨g, 0, none⟩ → g ≠ a.block) (u : Value) : OwnG e size B (w.setCell a u) A n c xs :=
  h.kept (row := some a.block) ⟨rfl, rfl, rfl, by simp [World.setCell], fun k _ hk => Below.heap_setCell w a u k (fun e => hk (by rw [e]))⟩ (fun g hg e => ha g hg (by injection e with e; exact e.symm))
theorem OwnG.setBoxed {b t : Nat} {cs : Array Value} (h : OwnG e size B w A n c xs) (hb : Box w b t cs) (ht : t ≠ e) (i : Nat) (u : Value) : OwnG e size B (w.setCell ⟨b, i, none⟩ u) A n c xs :=
  h.setBox (fun g hg => by subst hg; exact h.ne_box hb ht) u
/-- A store below B. -/
theorem OwnG.setBelow (h : OwnG e size B w A n c xs) {a : Addr} (ha : a.block < B) (u : Value) : OwnG e size B (w.setCell a u) A n c xs :=
  h.setBox (fun g hg => by subst hg; rcases h.form with ⟨h1, _⟩ | ⟨g', h1, hB, _⟩ <;> simp at h1; omega) u
/-- What was known of boxes below B is known behind the append. -/
theorem OwnG.grown_box {w1 : World} {o : Obj} {b t : Nat} {cs : Array Value} (h : OwnG e size B w A n c xs) (hg : (w.alloc o).grownBy w1 (Value.slice A n c).ownBlock) (hb : Box w b t cs) (hne : t ≠ e) : Box w1 b t cs :=
  (hb.alloc _).grown hg (h.box_ne hb hne)
theorem OwnG.grown_below {w1 : World} {o : Obj} {B0 : Nat} (h : OwnG e size B w A n c xs) (hg : (w.alloc o).grownBy w1 (Value.slice A n c).ownBlock) (h1 : B0 ≤ B) (h2 : B0 ≤ w.heap.size) : Below B0 w w1 := by
  refine ((Below.refl B0 w).alloc h2 _).grown hg (by simp; omega) (fun k hk => ?_)
  rcases h.form with ⟨rfl, rfl, rfl⟩ | ⟨g, rfl, hB, _⟩
  · simp [Value.ownBlock] at hk
  · simp only [Value.ownBlock, Option.some.injEq] at hk
    omega
theorem OwnG.nilS (e size B : Nat) (w : World) : OwnG e size B w none 0 0 [] := World.ownsRow_nil _ _ _ _
theorem OwnG.emptyAt {g : Nat} (hb : Box w g e #[]) (hB : B ≤ g) : OwnG e size B w (some ⟨g, 0, none⟩) 0 0 [] :=
  ⟨by simp, .inr ⟨g, 0, #[], rfl, hB, hb, Nat.le_refl _, by unfold maxLen; omega, by simp, by simp⟩⟩
theorem OwnG.len (h : OwnG e size B w A n c xs) : xs.length = n * size := h.1
theorem OwnG.cap (h : OwnG e size B w A n c xs) : n ≤ c ∧ c ≤ maxLen := by
  rcases h.2 with ⟨hv, hn⟩ | ⟨g, cap, cur, hv, hb, hh, h1, h2, _⟩
  · injection hv with e1 e2 e3; subst e3; exact ⟨by omega, by unfold maxLen; omega⟩
  · injection hv with e1 e2 e3; subst e3; exact ⟨h1, h2⟩
/-- Each cell. -/
theorem OwnG.cell (h : OwnG e size B w A n c xs) (k : Nat) (hk : k < n * size) : ∃ g, A = some ⟨g, 0, none⟩ ∧ B ≤ g ∧ g < w.heap.size ∧ w.cell? ⟨g, k, none⟩ = xs[k]? := by
  rcases h.2 with ⟨hv, hn⟩ | ⟨g, cap, cur, hv, hb, hh, hcap, _, hs, hx⟩
  · subst hn; simp at hk
  · injection hv with e1 e2 e3
    subst e1
    refine ⟨_, rfl, hb, (Array.getElem?_eq_some_iff.1 hh).1, ?_⟩
    rw [← hx, List.getElem?_take, if_pos hk]
    simp [World.cell?, hh]
theorem OwnG.frozen (h : OwnG e size B w A n c xs) {g : Nat} (hg : A = some ⟨g, 0, none⟩) (k : Nat) : w.frozen? ⟨g, k, none⟩ = false := by
  rcases h.2 with ⟨hv, hn⟩ | ⟨g', cap, cur, hv, hb, hh, hcap, _, hs, hx⟩
  · injection hv with e1 e2 e3; rw [e1] at hg; cases hg
  · injection hv with e1 e2 e3
    rw [e1] at hg
    injection hg with hg
    injection hg with hg
    subst hg
    simp [World.frozen?, hh]
end

end Go.Proofs.Ytbcgomimfgggnaa

namespace Go.Proofs.Ytbcgomimfgggnaa
open Go.RowKit
set_option maxRecDepth 100000

theorem OwnG.intsG0 {B : Nat} {w : World} {A : Option Addr} {n c : Nat} {L : List Int} (h : OwnG 2 1 B w A n c (L.map (Value.int .i64))) : Ints w A L := Own.ints (B := B) (n := n) (c := c) h
/-- The length of a slice that stands in a slot. -/
def lenV : Value → Nat
  | .slice _ n _ => n
  | _ => 0

end Go.Proofs.Ytbcgomimfgggnaa

namespace Go.Proofs.Ytbcgomimfgggnaa
open Go.RowKit
set_option linter.unusedVariables false
set_option maxRecDepth 100000

theorem own_apart_back {B B' : Nat} {w w' : World} {A A' : Option Addr} {n c n' c' : Nat} {L L' : List Int} (h : Own B w A n c L) (h' : Own B' w' A' n' c' L') (hB : w.heap.size ≤ B') :
    ∀ g, A' = some ⟨g, 0, none⟩ → (Value.slice A n c).ownBlock ≠ some g := by
  intro g hg e
  rcases h.form with ⟨rfl, _⟩ | ⟨g1, rfl, _, hlt⟩
  · simp [Value.ownBlock] at e
  · rcases h'.form with ⟨h1, _⟩ | ⟨g2, h1, hB2, _⟩
    · rw [hg] at h1; simp at h1
    · rw [hg] at h1
      simp only [Option.some.injEq, Addr.mk.injEq, and_true] at h1
      simp only [Value.ownBlock, Option.some.injEq] at e
      omega

end Go.Proofs.Ytbcgomimfgggnaa

namespace Go.Proofs.Ytbcgomimfgggnaa
open Go.RowKit
set_option linter.unusedVariables false
set_option maxRecDepth 100000

/-- A list of integers in memory: its slice (n elements, capacity c), the capacity d of its block, what it reads as. -/
structure Rw where
  A : Option Addr
  n : Nat
  c : Nat
  d : Nat
  L : List Int
def Rw.v (r : Rw) : Value := .slice r.A r.n r.c
/-- The lists can be read. -/
def IntsSS (w : World) (A : Option Addr) (rs : List Rw) : Prop :=
  ∀ k r, rs[k]? = some r → ∃ ad : Addr, A = some ad ∧ ad.block < w.heap.size ∧ w.cell? (ad.add k) = some r.v ∧ r.L.length = r.n ∧ Ints w r.A r.L
/-- No two of the lists lie in one block. -/
def Distinct (rs : List Rw) : Prop := rs.Pairwise (fun r s => ∀ g, r.A = some ⟨g, 0, none⟩ → s.A ≠ some ⟨g, 0, none⟩)
/-- The list of lists is the call's own, from block B on. -/
def OwnSS (B : Nat) (w : World) (A : Option Addr) (n c : Nat) (rs : List Rw) : Prop :=
  OwnG 28 1 B w A n c (rs.map Rw.v) ∧ (∀ r ∈ rs, Own B w r.A r.n r.d r.L) ∧ Distinct rs
def totN (rs : List Rw) : Nat := (rs.map Rw.n).sum
def LLof (rs : List Rw) : List (List Int) := rs.map Rw.L
theorem add_zero_at (R j : Nat) : (⟨R, 0, none⟩ : Addr).add j = ⟨R, j, none⟩ := by
  unfold Addr.add
  split
  · next h0 => rw [h0]
  · simp

section
variable {B : Nat} {w w' : World} {A : Option Addr} {n c : Nat} {rs : List Rw}
theorem IntsSS.below (h : IntsSS w A rs) (hb : Below w.heap.size w w') : IntsSS w' A rs := by
  intro k r hr
  obtain ⟨ad, h1, h2, h3, h4, h5⟩ := h k r hr
  exact ⟨ad, h1, Nat.lt_of_lt_of_le h2 hb.size, (hb.cell (p := ad.add k) (by rw [add_block]; exact h2)).trans h3, h4, h5.below hb⟩
theorem IntsSS.draws (h : IntsSS w A rs) (m : Nat) : IntsSS (w.drewN m) A rs := h
theorem OwnSS.len (h : OwnSS B w A n c rs) : rs.length = n := by have := h.1.len; simpa using this
theorem OwnSS.ints (h : OwnSS B w A n c rs) : IntsSS w A rs := by
  intro k r hr
  have hk := (List.getElem?_eq_some_iff.1 hr).1
  obtain ⟨g, h1, _, h2, h3⟩ := h.1.cell k (by rw [← h.len]; omega)
  have ho := h.2.1 r (List.mem_of_getElem? hr)
  refine ⟨_, h1, h2, ?_, ho.len, ho.ints⟩
  rw [add_zero_at, h3, List.getElem?_map, hr]
  rfl
theorem OwnSS.below (h : OwnSS B w A n c rs) (hb : Below w.heap.size w w') : OwnSS B w' A n c rs :=
  ⟨h.1.below hb, fun r hr => (h.2.1 r hr).below hb, h.2.2⟩
theorem OwnSS.mono {B' : Nat} (h : OwnSS B w A n c rs) (hB : B' ≤ B) : OwnSS B' w A n c rs :=
  ⟨h.1.mono hB, fun r hr => (h.2.1 r hr).mono hB, h.2.2⟩
theorem OwnSS.draws (h : OwnSS B w A n c rs) (m : Nat) : OwnSS B (w.drewN m) A n c rs := h
/-- A block below B is written to. -/
theorem OwnSS.keptBelow {row : Option Nat} (h : OwnSS B w A n c rs) (hg : w.grownBy w' row) (hr : ∀ g, row = some g → g < B) : OwnSS B w' A n c rs := by
  have key : ∀ {A' : Option Addr} {n' c' : Nat} {L : List Int}, Own B w A' n' c' L → Own B w' A' n' c' L := by
    intro A' n' c' L ho
    refine ho.kept hg ?_
    intro g hA e
    rcases ho.form with ⟨h1, _⟩ | ⟨g', h1, hB, _⟩
    · rw [h1] at hA; cases hA
    · rw [h1] at hA
      injection hA with hA
      injection hA with hA
      have := hr _ e
      omega
  refine ⟨?_, fun r hr' => key (h.2.1 r hr'), h.2.2⟩
  refine h.1.kept hg ?_
  intro g hA e
  rcases h.1.form with ⟨h1, _⟩ | ⟨g', h1, hB, _⟩
  · rw [h1] at hA; cases hA
  · rw [h1] at hA
    injection hA with hA
    injection hA with hA
    have := hr _ e
    omega
theorem OwnSS.nilS (B : Nat) (w : World) : OwnSS B w none 0 0 [] := ⟨OwnG.nilS _ _ _ _, fun r hr => by simp at hr, List.Pairwise.nil⟩
/-- One of the lists is written to. -/
theorem OwnSS.row {i : Nat} {r : Rw} {L' : List Int} (h : OwnSS B w A n c rs) (hi : rs[i]? = some r) (hO : Own B w' r.A r.n r.d L') (hg : w.grownBy w' (Value.slice r.A r.n r.d).ownBlock) :
    OwnSS B w' A n c (rs.set i { r with L := L' }) := by
  have hil := (List.getElem?_eq_some_iff.1 hi).1
  have hir := (List.getElem?_eq_some_iff.1 hi).2
  have hrow := h.2.1 r (List.mem_of_getElem? hi)
  have hne : ∀ {A' : Option Addr} {n' c' d' : Nat} {xs : List Value}, OwnG 28 1 B w A' n' c' xs → ∀ g, A' = some ⟨g, 0, none⟩ → (Value.slice r.A r.n r.d).ownBlock ≠ some g := by
    intro A' n' c' d' xs ho g hA e
    subst hA
    rcases hrow.form with ⟨h1, _⟩ | ⟨g1, h1, _, _⟩
    · rw [h1] at e; simp [Value.ownBlock] at e
    · rw [h1] at e
      simp only [Value.ownBlock, Option.some.injEq] at e
      subst e
      rcases hrow.2 with ⟨hv, _⟩ | ⟨g2, cap, cur, hv, _, hh, _⟩
      · rw [h1] at hv; simp at hv
      · rw [h1] at hv
        injection hv with hv
        injection hv with hv
        injection hv with hv
        subst hv
        rcases ho.2 with ⟨hv2, _⟩ | ⟨g3, cap3, cur3, hv2, _, hh2, _⟩
        · simp at hv2
        · injection hv2 with hv2
          injection hv2 with hv2
          injection hv2 with hv2
          subst hv2
          rw [hh] at hh2
          injection hh2 with hh2
          injection hh2 with _ h3
          exact absurd h3 (by decide)
  have e : (rs.set i { r with L := L' }).map Rw.v = rs.map Rw.v := by
    apply List.ext_getElem?
    intro k
    rw [List.getElem?_map, List.getElem?_map, List.getElem?_set]
    by_cases hk : i = k
    · subst hk; rw [if_pos rfl, if_pos hil, hi]; rfl
    · rw [if_neg hk]
  refine ⟨?_, ?_, ?_⟩
  · rw [e]
    exact h.1.kept hg (hne (d' := 0) h.1)
  · intro s hs
    obtain ⟨k, hk⟩ := List.getElem?_of_mem hs
    rw [List.getElem?_set] at hk
    by_cases hki : i = k
    · subst hki
      rw [if_pos rfl, if_pos hil] at hk
      injection hk with hk
      subst hk
      exact hO
    · rw [if_neg hki] at hk
      have ho := h.2.1 s (List.mem_of_getElem? hk)
      refine ho.kept hg ?_
      intro g hA e2
      have hkl := (List.getElem?_eq_some_iff.1 hk).1
      have hkr := (List.getElem?_eq_some_iff.1 hk).2
      rcases hrow.form with ⟨h1, _⟩ | ⟨g1, h1, _, _⟩
      · rw [h1] at e2; simp [Value.ownBlock] at e2
      · rw [h1] at e2
        simp only [Value.ownBlock, Option.some.injEq] at e2
        subst e2
        rcases Nat.lt_or_gt_of_ne hki with hlt | hlt
        · have := List.pairwise_iff_getElem.1 h.2.2 i k hil hkl hlt g1 (by rw [hir]; exact h1)
          rw [hkr] at this
          exact this hA
        · have := List.pairwise_iff_getElem.1 h.2.2 k i hkl hil hlt g1 (by rw [hkr]; exact hA)
          rw [hir] at this
          exact this h1
  · unfold Distinct
    rw [List.pairwise_iff_getElem]
    intro p q hp hq hpq g hA
    have hA' : ∀ (j : Nat) (hj : j < (rs.set i { r with L := L' }).length), ((rs.set i { r with L := L' })[j]'hj).A = (rs[j]'(by simpa using hj)).A := by
      intro j hj
      rw [List.getElem_set]
      by_cases hij : i = j
      · subst hij; rw [if_pos rfl, hir]
      · rw [if_neg hij]
    rw [hA'] at hA
    rw [hA']
    exact List.pairwise_iff_getElem.1 h.2.2 p q (by simpa using hp) (by simpa using hq) hpq g hA
end

/-- The lists with their marks. -/
def mkSS : Int → List Rw → List Rw
  | _, [] => []
  | k, r :: t => { r with L := iotaL k r.n } :: mkSS (k + r.n) t
theorem mkSS_len : ∀ (k : Int) (rs : List Rw), (mkSS k rs).length = rs.length
  | _, [] => rfl
  | k, r :: t => by simp [mkSS, mkSS_len (k + r.n) t]
theorem totN_cons (r : Rw) (t : List Rw) : totN (r :: t) = r.n + totN t := by simp [totN]
theorem rows_small {rs : List Rw} {b : Nat} (h : totN rs ≤ b) : ∀ r ∈ rs, r.n ≤ b := by
  induction rs with
  | nil => intro r hr; simp at hr
  | cons s t ih =>
    intro r hr
    rw [totN_cons] at h
    rcases List.mem_cons.1 hr with rfl | hr
    · omega
    · exact ih (by omega) r hr
theorem totN_take_succ {rs : List Rw} {i : Nat} {r : Rw} (h : rs[i]? = some r) : totN (rs.take (i + 1)) = totN (rs.take i) + r.n := by
  obtain ⟨hi, he⟩ := List.getElem?_eq_some_iff.1 h
  unfold totN
  rw [List.take_succ_eq_append_getElem hi, he]
  simp
theorem totN_take_le (rs : List Rw) (i : Nat) : totN (rs.take i) ≤ totN rs := by
  have e : totN rs = totN (rs.take i) + totN (rs.drop i) := by
    unfold totN
    rw [← List.sum_append, ← List.map_append, List.take_append_drop]
  omega
theorem mkSS_get : ∀ (k : Int) (rs : List Rw) (i : Nat) (r : Rw), rs[i]? = some r → (mkSS k rs)[i]? = some { r with L := iotaL (k + totN (rs.take i)) r.n }
  | k, [], i, r, h => by simp at h
  | k, s :: t, 0, r, h => by
    simp at h
    subst h
    simp [mkSS, totN]
  | k, s :: t, i + 1, r, h => by
    have := mkSS_get (k + s.n) t i r (by simpa using h)
    rw [mkSS, List.getElem?_cons_succ, this, List.take_succ_cons, totN_cons]
    congr 3
    omega
/-- The first i are marked. -/
def mixSS (k : Int) (rs : List Rw) (i : Nat) : List Rw := mkSS k (rs.take i) ++ rs.drop i
theorem mixSS_zero (k : Int) (rs : List Rw) : mixSS k rs 0 = rs := by simp [mixSS, mkSS]
theorem mixSS_all (k : Int) (rs : List Rw) : mixSS k rs rs.length = mkSS k rs := by simp [mixSS]
theorem mkSS_append : ∀ (k : Int) (a b : List Rw), mkSS k (a ++ b) = mkSS k a ++ mkSS (k + totN a) b
  | k, [], b => by simp [mkSS, totN]
  | k, r :: t, b => by
    rw [List.cons_append, mkSS, mkSS, mkSS_append (k + r.n) t b, totN_cons, List.cons_append]
    congr 3
    omega
theorem mixSS_get {k : Int} {rs : List Rw} {i : Nat} {r : Rw} (h : rs[i]? = some r) : (mixSS k rs i)[i]? = some r := by
  have hi := (List.getElem?_eq_some_iff.1 h).1
  unfold mixSS
  rw [List.getElem?_append_right (by rw [mkSS_len, List.length_take]; omega), mkSS_len, List.getElem?_drop]
  have e : i + (i - (rs.take i).length) = i := by simp; omega
  rw [e]
  exact h
theorem mixSS_step {k : Int} {rs : List Rw} {i : Nat} {r : Rw} (h : rs[i]? = some r) : (mixSS k rs i).set i { r with L := iotaL (k + totN (rs.take i)) r.n } = mixSS k rs (i + 1) := by
  obtain ⟨hi, he⟩ := List.getElem?_eq_some_iff.1 h
  unfold mixSS
  have hl : (mkSS k (rs.take i)).length = i := by rw [mkSS_len]; simp; omega
  rw [List.set_append_right _ _ (by omega), hl, Nat.sub_self, List.drop_eq_getElem_cons hi, he, List.set_cons_zero, List.take_succ_eq_append_getElem hi, he, mkSS_append]
  simp [mkSS]

end Go.Proofs.Ytbcgomimfgggnaa

namespace Go.Proofs.Ytbcgomimfgggnaa
open Go.RowKit
set_option linter.unusedVariables false
set_option maxRecDepth 100000

theorem Ints.news {w : World} {ad : Addr} {L : List Int} (h : Ints w (some ad) L) : ∀ j u, (L.map (Value.int .i64))[j]? = some u → w.cell? (ad.add j) = some u := by
  intro j u hu
  rw [List.getElem?_map] at hu
  by_cases hj : j < L.length
  · rw [List.getElem?_eq_getElem hj] at hu
    simp only [Option.map_some, Option.some.injEq] at hu
    obtain ⟨ad', h1, _, hc⟩ := h j hj
    injection h1 with h1
    subst h1
    rw [hc, ← hu, List.getD_eq_getElem?_getD, List.getElem?_eq_getElem hj, Option.getD_some]
  · rw [List.getElem?_eq_none (by omega)] at hu
    simp at hu

end Go.Proofs.Ytbcgomimfgggnaa

namespace Go.Proofs.Ytbcgomimfgggnaa
open Go.RowKit
set_option linter.unusedVariables false
set_option maxRecDepth 100000

/-- A word that lies in memory. -/
structure Wd where
  ad : Addr
  n : Nat
  c : Nat
  L : List Int
def Wd.v (x : Wd) : Value := .slice (some x.ad) x.n x.c
def Wd.at (w : World) (x : Wd) : Prop := x.L.length = x.n ∧ x.n ≤ 16 ∧ Ints w (some x.ad) x.L
def WdsAt (w : World) (g : Nat) (ws : List Wd) : Prop := Box w g 28 (ws.map Wd.v).toArray ∧ ∀ x ∈ ws, x.at w
def catL (ws : List Wd) : List Int := (ws.map Wd.L).flatten
theorem WdsAt.below {w w' : World} {g : Nat} {ws : List Wd} (h : WdsAt w g ws) (hb : Below w.heap.size w w') : WdsAt w' g ws :=
  ⟨h.1.below hb h.1.lt, fun x hx => ⟨(h.2 x hx).1, (h.2 x hx).2.1, (h.2 x hx).2.2.below hb⟩⟩
theorem catL_succ {ws : List Wd} {j : Nat} {x : Wd} (h : ws[j]? = some x) : catL (ws.take (j + 1)) = catL (ws.take j) ++ x.L := by
  obtain ⟨hj, he⟩ := List.getElem?_eq_some_iff.1 h
  unfold catL
  rw [List.take_succ_eq_append_getElem hj, he]
  simp
theorem catL_len {ws : List Wd} {w : World} (h : ∀ x ∈ ws, x.at w) : (catL ws).length ≤ 16 * ws.length := by
  induction ws with
  | nil => simp [catL]
  | cons x t ih =>
    have h1 := h x List.mem_cons_self
    have h2 := ih (fun y hy => h y (List.mem_cons_of_mem _ hy))
    have e : catL (x :: t) = x.L ++ catL t := by simp [catL]
    rw [e, List.length_append, h1.1, List.length_cons]
    have := h1.2.1
    omega
theorem WdsAt.get {w : World} {g j : Nat} {ws : List Wd} (h : WdsAt w g ws) (hj : j < ws.length) : ∃ (ad : Addr) (n c : Nat) (L : List Int), ws[j]? = some ⟨ad, n, c, L⟩ ∧ L.length = n ∧ n ≤ 16 ∧ Ints w (some ad) L ∧ w.cell? ⟨g, j, none⟩ = some (.slice (some ad) n c) := by
  have hx := List.getElem?_eq_getElem hj
  have ha := h.2 _ (List.getElem_mem hj)
  refine ⟨ws[j].ad, ws[j].n, ws[j].c, ws[j].L, hx, ha.1, ha.2.1, ha.2.2, ?_⟩
  rw [h.1.cell j]
  simp [hj, Wd.v]

theorem OwnG.grown_belowB {e size B : Nat} {w w1 : World} {A : Option Addr} {n c : Nat} {xs : List Value} {B0 : Nat} (h : OwnG e size B w A n c xs) (hg : w.grownBy w1 (Value.slice A n c).ownBlock) (h1 : B0 ≤ B) (h2 : B0 ≤ w.heap.size) : Below B0 w w1 := by
  refine (Below.refl B0 w).grown hg h2 (fun k hk => ?_)
  rcases h.form with ⟨rfl, rfl, rfl⟩ | ⟨g, rfl, hB, _⟩
  · simp [Value.ownBlock] at hk
  · simp only [Value.ownBlock, Option.some.injEq] at hk
    omega

end Go.Proofs.Ytbcgomimfgggnaa

namespace Go.Proofs.Ytbcgomimfgggnaa
open Go.RowKit
set_option linter.unusedVariables false
set_option maxRecDepth 100000

theorem Try.infoSS : (Try.prog.info? 28).map (fun i => (i.zero, i.size, i.bytes)) = some (some (.slice none 0 0), 1, 24) := by kernel_rfl

section
variable {B : Nat} {w w1 : World} {A : Option Addr} {n c : Nat} {rs : List Rw}
/-- A row's own block is of its element type. -/
theorem OwnG.block_type {e size : Nat} {g : Nat} {xs : List Value} (h : OwnG e size B w (some ⟨g, 0, none⟩) n c xs) : ∃ cur, w.heap[g]? = some (.cells cur e (0, 0)) := by
  rcases h.2 with ⟨hv, _⟩ | ⟨g1, cap, cur, hv, _, hh, _⟩
  · simp at hv
  · injection hv with hv
    injection hv with hv
    injection hv with hv
    subst hv
    exact ⟨cur, hh⟩
theorem OwnG.two_types {e e' size size' B' g n' c' : Nat} {xs xs' : List Value} (h : OwnG e size B w (some ⟨g, 0, none⟩) n c xs) (h' : OwnG e' size' B' w (some ⟨g, 0, none⟩) n' c' xs') : e = e' := by
  obtain ⟨c1, h1⟩ := h.block_type
  obtain ⟨c2, h2⟩ := h'.block_type
  rw [h1] at h2
  injection h2 with h2
  injection h2
theorem ownG_lt {e size g : Nat} {xs : List Value} (h : OwnG e size B w (some ⟨g, 0, none⟩) n c xs) : B ≤ g ∧ g < w.heap.size := by
  rcases h.form with ⟨h1, _⟩ | ⟨g', h1, h2, h3⟩
  · cases h1
  · injection h1 with h1
    injection h1 with h1
    subst h1
    exact ⟨h2, h3⟩
theorem block_of_own {e size : Nat} {xs : List Value} {k : Nat} (h : OwnG e size B w A n c xs) (hk : (Value.slice A n c).ownBlock = some k) : A = some ⟨k, 0, none⟩ := by
  rcases h.form with ⟨rfl, rfl, rfl⟩ | ⟨g, rfl, _, _⟩
  · simp [Value.ownBlock] at hk
  · simp only [Value.ownBlock, Option.some.injEq] at hk
    subst hk
    rfl
theorem ownBlock_cap (A : Option Addr) (n c c' : Nat) : (Value.slice A n c).ownBlock = (Value.slice A n c').ownBlock := by
  cases A <;> rfl

/-- A list is put at the end. The world behind the append is w1; the new list lay in blocks from b on, the others' blocks lie below b. -/
theorem OwnSS.snoc {o : Obj} {A' : Option Addr} {c' b : Nat} {r : Rw} (h : OwnSS B w A n c rs) (hr : Own B w r.A r.n r.d r.L) (hb : ∀ g, r.A = some ⟨g, 0, none⟩ → b ≤ g) (hold : ∀ s ∈ rs, ∀ g, s.A = some ⟨g, 0, none⟩ → g < b)
    (hown : OwnG 28 1 B w1 A' (n + 1) c' (rs.map Rw.v ++ [r.v])) (hg : (w.alloc o).grownBy w1 (Value.slice A n c).ownBlock) : OwnSS B w1 A' (n + 1) c' (rs ++ [r]) := by
  have key : ∀ {A2 : Option Addr} {n2 d2 : Nat} {L2 : List Int}, Own B w A2 n2 d2 L2 → Own B w1 A2 n2 d2 L2 := by
    intro A2 n2 d2 L2 ho
    refine Own.kept (w := w.alloc o) (OwnG.alloc ho o) hg ?_
    intro g hA e
    have h1 := block_of_own h.1 e
    subst h1
    subst hA
    exact absurd (OwnG.two_types ho h.1) (by decide)
  refine ⟨by rw [List.map_append]; exact hown, ?_, ?_⟩
  · intro s hs
    rcases List.mem_append.1 hs with hs | hs
    · exact key (h.2.1 s hs)
    · rw [List.mem_singleton] at hs
      subst hs
      exact key hr
  · unfold Distinct
    rw [List.pairwise_append]
    refine ⟨h.2.2, List.pairwise_singleton _ _, ?_⟩
    intro s hs t ht g hA hT
    rw [List.mem_singleton] at ht
    subst ht
    have h1 := hold s hs g hA
    have h2 := hb g hT
    omega

/-- One of the lists is appended to, and its slice stored anew. -/
theorem OwnSS.pushed {o : Obj} {g cap i gA : Nat} {x : Int} {r : Rw} (h : OwnSS B w (some ⟨gA, 0, none⟩) n c rs) (hi : rs[i]? = some r)
    (hown : Own B w1 (some ⟨g, 0, none⟩) (r.n + 1) cap (r.L ++ [x])) (hg : (w.alloc o).grownBy w1 (Value.slice r.A r.n r.c).ownBlock) (hat : (Value.slice r.A r.n r.c).ownBlock = some g ∨ g = w.heap.size + 1) :
    OwnSS B (w1.setCell ⟨gA, i, none⟩ (.slice (some ⟨g, 0, none⟩) (r.n + 1) cap)) (some ⟨gA, 0, none⟩) n c (rs.set i ⟨some ⟨g, 0, none⟩, r.n + 1, cap, cap, r.L ++ [x]⟩) := by
  obtain ⟨hil, hir⟩ := List.getElem?_eq_some_iff.1 hi
  have hrow := h.2.1 r (List.mem_of_getElem? hi)
  rw [ownBlock_cap r.A r.n r.c r.d] at hg hat
  -- the outer row behind the append
  have hO1 : OwnG 28 1 B w1 (some ⟨gA, 0, none⟩) n c (rs.map Rw.v) := by
    refine (h.1.alloc o).kept hg ?_
    intro g' hA e
    injection hA with hA
    injection hA with hA
    subst hA
    have h1 := block_of_own hrow e
    have h2 := hrow
    rw [h1] at h2
    exact absurd (OwnG.two_types h.1 h2) (by decide)
  obtain ⟨s1, s2⟩ := World.ownsRow.stored hO1 i (.slice (some ⟨g, 0, none⟩) (r.n + 1) cap)
  have hgA : ∀ {A2 : Option Addr} {n2 d2 : Nat} {L2 : List Int}, Own B w1 A2 n2 d2 L2 → Own B (w1.setCell ⟨gA, i, none⟩ (.slice (some ⟨g, 0, none⟩) (r.n + 1) cap)) A2 n2 d2 L2 := by
    intro A2 n2 d2 L2 ho
    refine ho.setBox ?_ _
    rintro g2 rfl e
    have e2 : g2 = gA := e
    subst e2
    exact absurd (OwnG.two_types ho hO1) (by decide)
  refine ⟨?_, ?_, ?_⟩
  · rw [List.map_set]
    exact s1
  · intro s hs
    obtain ⟨k, hk⟩ := List.getElem?_of_mem hs
    rw [List.getElem?_set] at hk
    by_cases hki : i = k
    · subst hki
      rw [if_pos rfl, if_pos hil] at hk
      injection hk with hk
      subst hk
      exact hgA hown
    · rw [if_neg hki] at hk
      have ho := h.2.1 s (List.mem_of_getElem? hk)
      obtain ⟨hkl, hkr⟩ := List.getElem?_eq_some_iff.1 hk
      refine hgA (Own.kept (w := w.alloc o) (OwnG.alloc ho o) hg ?_)
      intro g1 hA e2
      have h1 := block_of_own hrow e2
      rcases Nat.lt_or_gt_of_ne hki with hlt | hlt
      · have := List.pairwise_iff_getElem.1 h.2.2 i k hil hkl hlt g1 (by rw [hir]; exact h1)
        rw [hkr] at this
        exact this hA
      · have := List.pairwise_iff_getElem.1 h.2.2 k i hkl hil hlt g1 (by rw [hkr]; exact hA)
        rw [hir] at this
        exact this h1
  · -- the new list's block is its old one, or a new one
    have hnew : ∀ k (hk : k < rs.length), k ≠ i → (rs[k]'hk).A ≠ some ⟨g, 0, none⟩ := by
      intro k hk hki hA
      have ho := h.2.1 (rs[k]'hk) (List.getElem_mem hk)
      rcases hat with hat | hat
      · have h1 := block_of_own hrow hat
        rcases Nat.lt_or_gt_of_ne hki with hlt | hlt
        · have := List.pairwise_iff_getElem.1 h.2.2 k i hk hil hlt g hA
          rw [hir] at this
          exact this h1
        · have := List.pairwise_iff_getElem.1 h.2.2 i k hil hk hlt g (by rw [hir]; exact h1)
          exact this hA
      · rw [hA] at ho
        have := (ownG_lt ho).2
        omega
    unfold Distinct
    rw [List.pairwise_iff_getElem]
    intro p q hp hq hpq g2 hA hB
    have hp' : p < rs.length := by simpa using hp
    have hq' : q < rs.length := by simpa using hq
    rw [List.getElem_set] at hA hB
    by_cases hip : i = p
    · subst hip
      rw [if_pos rfl] at hA
      rw [if_neg (by omega)] at hB
      have e : g2 = g := by
        have h0 : (some (⟨g, 0, none⟩ : Addr)) = some ⟨g2, 0, none⟩ := hA
        injection h0 with h0
        injection h0 with h0
        exact h0.symm
      subst e
      exact hnew q hq' (by omega) hB
    · rw [if_neg hip] at hA
      by_cases hiq : i = q
      · subst hiq
        rw [if_pos rfl] at hB
        have e : g2 = g := by
          have h0 : (some (⟨g, 0, none⟩ : Addr)) = some ⟨g2, 0, none⟩ := hB
          injection h0 with h0
          injection h0 with h0
          exact h0.symm
        subst e
        exact hnew p hp' (by omega) hA
      · rw [if_neg hiq] at hB
        exact List.pairwise_iff_getElem.1 h.2.2 p q hp' hq' hpq g2 hA hB
theorem OwnSS.pushed_below {o : Obj} {i gA B0 : Nat} {r : Rw} {v : Value} (h : OwnSS B w (some ⟨gA, 0, none⟩) n c rs) (hi : rs[i]? = some r)
    (hg : (w.alloc o).grownBy w1 (Value.slice r.A r.n r.c).ownBlock) (hB : B0 ≤ B) (hs : B0 ≤ w.heap.size) : Below B0 w (w1.setCell ⟨gA, i, none⟩ v) := by
  have hrow := h.2.1 r (List.mem_of_getElem? hi)
  rw [ownBlock_cap r.A r.n r.c r.d] at hg
  exact (OwnG.grown_below hrow hg hB hs).setCell (Nat.le_trans hB (ownG_lt h.1).1) _
end

/-- A list of lists and a code are the answer. -/
def RetSS (w : World) (LL : List (List Int)) (E : Int) (e : Ending) (w' : World) : Prop :=
  ∃ A n c rs, e = .returned (.tuple #[.slice A n c, .int .i64 E]) ∧ OwnSS w.heap.size w' A n c rs ∧ LLof rs = LL ∧ Below w.heap.size w w'
theorem retSS_zero {w w' : World} {e : Ending} {E : Int} (he : e = .returned (.tuple #[.slice none 0 0, .int .i64 E])) (hb : Below w.heap.size w w') : RetSS w [] E e w' :=
  ⟨none, 0, 0, [], he, OwnSS.nilS _ _, rfl, hb⟩
theorem totN_LL {B : Nat} {w : World} {A : Option Addr} {n c : Nat} {rs : List Rw} (h : OwnSS B w A n c rs) : totN rs = ((LLof rs).map List.length).sum := by
  unfold totN LLof
  rw [List.map_map]
  congr 1
  apply List.map_congr_left
  intro r hr
  exact (h.2.1 r hr).len.symm

end Go.Proofs.Ytbcgomimfgggnaa

namespace Go.Proofs.Ytbcgomimfgggnaa
open Go.RowKit
set_option linter.unusedVariables false
set_option maxRecDepth 100000

/-- A state in memory: its number of pegs, its list (n elements, capacity c), the capacity d of the list's block, what the list reads as. -/
structure Sw where
  q : Int
  A : Option Addr
  n : Nat
  c : Nat
  d : Nat
  L : List Int
def Sw.vs (r : Sw) : List Value := [.int .i64 r.q, .slice r.A r.n r.c]
/-- The cells of a list of states. -/
def stCells (rs : List Sw) : List Value := rs.flatMap Sw.vs
theorem stCells_cons (r : Sw) (t : List Sw) : stCells (r :: t) = .int .i64 r.q :: .slice r.A r.n r.c :: stCells t := rfl
theorem stCells_len : ∀ rs : List Sw, (stCells rs).length = rs.length * 2
  | [] => rfl
  | r :: t => by rw [stCells_cons, List.length_cons, List.length_cons, List.length_cons, stCells_len t]; omega
theorem stCells_append (a b : List Sw) : stCells (a ++ b) = stCells a ++ stCells b := by simp [stCells]
theorem stCells_at : ∀ (rs : List Sw) (k : Nat) (r : Sw), rs[k]? = some r → (stCells rs)[k * 2]? = some (.int .i64 r.q) ∧ (stCells rs)[k * 2 + 1]? = some (.slice r.A r.n r.c)
  | [], k, r, h => by simp at h
  | s :: t, 0, r, h => by
    simp at h
    subst h
    simp [stCells_cons]
  | s :: t, k + 1, r, h => by
    have ih := stCells_at t k r (by simpa using h)
    rw [stCells_cons]
    refine ⟨?_, ?_⟩
    · rw [show (k + 1) * 2 = k * 2 + 2 by omega]; simpa using ih.1
    · rw [show (k + 1) * 2 + 1 = k * 2 + 1 + 2 by omega]; simpa using ih.2
theorem stCells_set : ∀ (rs : List Sw) (i : Nat) (r : Sw) (q : Int) (L : List Int), rs[i]? = some r → stCells (rs.set i { r with q := q, L := L }) = (stCells rs).set (i * 2) (.int .i64 q)
  | [], i, r, q, L, h => by simp at h
  | s :: t, 0, r, q, L, h => by
    simp at h
    subst h
    simp [stCells_cons]
  | s :: t, i + 1, r, q, L, h => by
    have ih := stCells_set t i r q L (by simpa using h)
    rw [List.set_cons_succ, stCells_cons, ih, stCells_cons, show (i + 1) * 2 = i * 2 + 2 by omega]
    rfl
/-- The states can be read. -/
def IntsSt (w : World) (A : Option Addr) (rs : List Sw) : Prop :=
  ∀ k r, rs[k]? = some r → ∃ g, A = some ⟨g, 0, none⟩ ∧ g < w.heap.size ∧ w.cell? ⟨g, k * 2, none⟩ = some (.int .i64 r.q) ∧ w.cell? ⟨g, k * 2 + 1, none⟩ = some (.slice r.A r.n r.c) ∧ r.L.length = r.n ∧ Ints w r.A r.L
/-- No two of the lists lie in one block. -/
def DistinctT (rs : List Sw) : Prop := rs.Pairwise (fun r s => ∀ g, r.A = some ⟨g, 0, none⟩ → s.A ≠ some ⟨g, 0, none⟩)
/-- The list of states is the call's own, from block B on. -/
def OwnSt (B : Nat) (w : World) (A : Option Addr) (n c : Nat) (rs : List Sw) : Prop :=
  OwnG 30 2 B w A n c (stCells rs) ∧ (∀ r ∈ rs, Own B w r.A r.n r.d r.L) ∧ DistinctT rs
def totT (rs : List Sw) : Nat := (rs.map (fun r => r.n + 1)).sum
def QLof (rs : List Sw) : List (Int × List Int) := rs.map (fun r => (r.q, r.L))

section
variable {B : Nat} {w w' : World} {A : Option Addr} {n c : Nat} {rs : List Sw}
theorem IntsSt.below (h : IntsSt w A rs) (hb : Below w.heap.size w w') : IntsSt w' A rs := by
  intro k r hr
  obtain ⟨g, h1, h2, h3, h4, h5, h6⟩ := h k r hr
  exact ⟨g, h1, Nat.lt_of_lt_of_le h2 hb.size, (hb.cell (p := ⟨g, k * 2, none⟩) h2).trans h3, (hb.cell (p := ⟨g, k * 2 + 1, none⟩) h2).trans h4, h5, h6.below hb⟩
theorem OwnSt.len (h : OwnSt B w A n c rs) : rs.length = n := by have := h.1.len; rw [stCells_len] at this; omega
theorem OwnSt.ints (h : OwnSt B w A n c rs) : IntsSt w A rs := by
  intro k r hr
  have hk := (List.getElem?_eq_some_iff.1 hr).1
  have hl := h.len
  obtain ⟨g, h1, _, h2, h3⟩ := h.1.cell (k * 2) (by omega)
  obtain ⟨g', h1', _, _, h3'⟩ := h.1.cell (k * 2 + 1) (by omega)
  subst h1
  cases h1'
  have ho := h.2.1 r (List.mem_of_getElem? hr)
  obtain ⟨e1, e2⟩ := stCells_at rs k r hr
  exact ⟨_, rfl, h2, h3.trans e1, h3'.trans e2, ho.len, ho.ints⟩
theorem OwnSt.below (h : OwnSt B w A n c rs) (hb : Below w.heap.size w w') : OwnSt B w' A n c rs :=
  ⟨h.1.below hb, fun r hr => (h.2.1 r hr).below hb, h.2.2⟩
theorem OwnSt.mono {B' : Nat} (h : OwnSt B w A n c rs) (hB : B' ≤ B) : OwnSt B' w A n c rs :=
  ⟨h.1.mono hB, fun r hr => (h.2.1 r hr).mono hB, h.2.2⟩
/-- Whatever writes to none of its blocks keeps it. -/
theorem OwnSt.keptRow {row : Option Nat} (h : OwnSt B w A n c rs) (hg : w.grownBy w' row) (h0 : ∀ g, A = some ⟨g, 0, none⟩ → row ≠ some g) (h1 : ∀ r ∈ rs, ∀ g, r.A = some ⟨g, 0, none⟩ → row ≠ some g) : OwnSt B w' A n c rs :=
  ⟨h.1.kept hg h0, fun r hr => (h.2.1 r hr).kept hg (h1 r hr), h.2.2⟩
/-- A block below B is written to. -/
theorem OwnSt.keptBelow {row : Option Nat} (h : OwnSt B w A n c rs) (hg : w.grownBy w' row) (hr : ∀ g, row = some g → g < B) : OwnSt B w' A n c rs := by
  have key : ∀ {e s n' c' : Nat} {A' : Option Addr} {xs : List Value}, OwnG e s B w A' n' c' xs → ∀ g, A' = some ⟨g, 0, none⟩ → row ≠ some g := by
    intro e s n' c' A' xs ho g hA e
    rcases ho.form with ⟨h1, _⟩ | ⟨g', h1, hB, _⟩
    · rw [h1] at hA; cases hA
    · rw [h1] at hA
      injection hA with hA
      injection hA with hA
      have := hr _ e
      omega
  exact h.keptRow hg (key h.1) (fun r hr' => key (h.2.1 r hr'))
theorem OwnSt.nilS (B : Nat) (w : World) : OwnSt B w none 0 0 [] := ⟨OwnG.nilS _ _ _ _, fun r hr => by simp at hr, List.Pairwise.nil⟩
/-- An address of the outer list is none of an inner one. -/
theorem OwnSt.apart (h : OwnSt B w A n c rs) {r : Sw} (hr : r ∈ rs) {g : Nat} (hA : A = some ⟨g, 0, none⟩) : r.A ≠ some ⟨g, 0, none⟩ := by
  intro e
  have h1 := h.2.1 r hr
  have h2 := h.1
  rw [e] at h1
  rw [hA] at h2
  exact absurd (OwnG.two_types h1 h2) (by decide)
theorem distinctT_set {i : Nat} {r s : Sw} (h : DistinctT rs) (hi : rs[i]? = some r) (hA : s.A = r.A) : DistinctT (rs.set i s) := by
  obtain ⟨hil, hir⟩ := List.getElem?_eq_some_iff.1 hi
  unfold DistinctT
  rw [List.pairwise_iff_getElem]
  intro p q hp hq hpq g hA1
  have hA' : ∀ (j : Nat) (hj : j < (rs.set i s).length), ((rs.set i s)[j]'hj).A = (rs[j]'(by simpa using hj)).A := by
    intro j hj
    rw [List.getElem_set]
    by_cases hij : i = j
    · subst hij; rw [if_pos rfl, hir]; exact hA
    · rw [if_neg hij]
  rw [hA'] at hA1
  rw [hA']
  exact List.pairwise_iff_getElem.1 h p q (by simpa using hp) (by simpa using hq) hpq g hA1
/-- A state's number of pegs is written. -/
theorem OwnSt.setq {i gA : Nat} {r : Sw} (h : OwnSt B w (some ⟨gA, 0, none⟩) n c rs) (hi : rs[i]? = some r) (q : Int) :
    OwnSt B (w.setCell ⟨gA, i * 2, none⟩ (.int .i64 q)) (some ⟨gA, 0, none⟩) n c (rs.set i { r with q := q }) ∧ w.grownBy (w.setCell ⟨gA, i * 2, none⟩ (.int .i64 q)) (some gA) := by
  obtain ⟨s1, s2⟩ := World.ownsRow.stored h.1 (i * 2) (.int .i64 q)
  have hrow := h.2.1 r (List.mem_of_getElem? hi)
  refine ⟨⟨?_, ?_, distinctT_set h.2.2 hi rfl⟩, s2⟩
  · have := stCells_set rs i r q r.L hi
    rw [this]
    exact s1
  · intro s hs
    obtain ⟨k, hk⟩ := List.getElem?_of_mem hs
    rw [List.getElem?_set] at hk
    have keep : ∀ {s' : Sw}, s' ∈ rs → Own B (w.setCell ⟨gA, i * 2, none⟩ (.int .i64 q)) s'.A s'.n s'.d s'.L := by
      intro s' hs'
      refine Own.kept (h.2.1 s' hs') s2 ?_
      intro g hA e
      injection e with e
      subst e
      exact h.apart hs' rfl hA
    by_cases hki : i = k
    · subst hki
      rw [if_pos rfl, if_pos (List.getElem?_eq_some_iff.1 hi).1] at hk
      injection hk with hk
      subst hk
      exact keep (s' := r) (List.mem_of_getElem? hi)
    · rw [if_neg hki] at hk
      exact keep (List.mem_of_getElem? hk)
/-- One of the lists is written to. -/
theorem OwnSt.row {i : Nat} {r : Sw} {L' : List Int} (h : OwnSt B w A n c rs) (hi : rs[i]? = some r) (hO : Own B w' r.A r.n r.d L') (hg : w.grownBy w' (Value.slice r.A r.n r.d).ownBlock) :
    OwnSt B w' A n c (rs.set i { r with L := L' }) := by
  obtain ⟨hil, hir⟩ := List.getElem?_eq_some_iff.1 hi
  have hmem := List.mem_of_getElem? hi
  have hrow := h.2.1 r hmem
  refine ⟨?_, ?_, distinctT_set h.2.2 hi rfl⟩
  · have e : stCells (rs.set i { r with L := L' }) = stCells rs := by
      have h1 := stCells_set rs i r r.q L' hi
      have h2 := (stCells_at rs i r hi).1
      obtain ⟨h3, h4⟩ := List.getElem?_eq_some_iff.1 h2
      have h5 : (stCells rs).set (i * 2) (.int .i64 r.q) = stCells rs := by rw [← h4]; exact List.set_getElem_self _
      exact h1.trans h5
    rw [e]
    refine h.1.kept hg ?_
    intro g hA e2
    have h1 := block_of_own hrow e2
    exact h.apart hmem hA h1
  · intro s hs
    obtain ⟨k, hk⟩ := List.getElem?_of_mem hs
    rw [List.getElem?_set] at hk
    by_cases hki : i = k
    · subst hki
      rw [if_pos rfl, if_pos hil] at hk
      injection hk with hk
      subst hk
      exact hO
    · rw [if_neg hki] at hk
      have ho := h.2.1 s (List.mem_of_getElem? hk)
      refine ho.kept hg ?_
      intro g hA e2
      obtain ⟨hkl, hkr⟩ := List.getElem?_eq_some_iff.1 hk
      have h1 := block_of_own hrow e2
      rcases Nat.lt_or_gt_of_ne hki with hlt | hlt
      · have := List.pairwise_iff_getElem.1 h.2.2 i k hil hkl hlt g (by rw [hir]; exact h1)
        rw [hkr] at this
        exact this hA
      · have := List.pairwise_iff_getElem.1 h.2.2 k i hkl hil hlt g (by rw [hkr]; exact hA)
        rw [hir] at this
        exact this h1
/-- A state is put at the end. The world behind the append is w1; the new state's list lay in blocks from b on, the others' blocks lie below b. -/
theorem OwnSt.snoc {w1 : World} {o : Obj} {A' : Option Addr} {c' b : Nat} {r : Sw} (h : OwnSt B w A n c rs) (hr : Own B w r.A r.n r.d r.L) (hb : ∀ g, r.A = some ⟨g, 0, none⟩ → b ≤ g) (hold : ∀ s ∈ rs, ∀ g, s.A = some ⟨g, 0, none⟩ → g < b)
    (hown : OwnG 30 2 B w1 A' (n + 1) c' (stCells rs ++ [.int .i64 r.q, .slice r.A r.n r.c])) (hg : (w.alloc o).grownBy w1 (Value.slice A n c).ownBlock) : OwnSt B w1 A' (n + 1) c' (rs ++ [r]) := by
  have key : ∀ {A2 : Option Addr} {n2 d2 : Nat} {L2 : List Int}, Own B w A2 n2 d2 L2 → Own B w1 A2 n2 d2 L2 := by
    intro A2 n2 d2 L2 ho
    refine Own.kept (w := w.alloc o) (OwnG.alloc ho o) hg ?_
    intro g hA e
    have h1 := block_of_own h.1 e
    have h2 := h.1
    rw [h1] at h2
    subst hA
    exact absurd (OwnG.two_types ho h2) (by decide)
  refine ⟨by rw [stCells_append]; exact hown, ?_, ?_⟩
  · intro s hs
    rcases List.mem_append.1 hs with hs | hs
    · exact key (h.2.1 s hs)
    · rw [List.mem_singleton] at hs
      subst hs
      exact key hr
  · unfold DistinctT
    rw [List.pairwise_append]
    refine ⟨h.2.2, List.pairwise_singleton _ _, ?_⟩
    intro s hs t ht g hA hT
    rw [List.mem_singleton] at ht
    subst ht
    have h1 := hold s hs g hA
    have h2 := hb g hT
    omega
theorem OwnSt.rows_lt (h : OwnSt B w A n c rs) : ∀ s ∈ rs, ∀ g, s.A = some ⟨g, 0, none⟩ → g < w.heap.size := by
  intro s hs g hA
  have := h.2.1 s hs
  rw [hA] at this
  exact (ownG_lt this).2
end

/-- The states with their marks. -/
def mkSt : Int → List Sw → List Sw
  | _, [] => []
  | k, r :: t => { r with q := k, L := iotaL (k + 1) r.n } :: mkSt (k + 1 + r.n) t
theorem mkSt_len : ∀ (k : Int) (rs : List Sw), (mkSt k rs).length = rs.length
  | _, [] => rfl
  | k, r :: t => by simp [mkSt, mkSt_len (k + 1 + r.n) t]
theorem totT_cons (r : Sw) (t : List Sw) : totT (r :: t) = r.n + 1 + totT t := by simp [totT]
theorem rowsT_small {rs : List Sw} {b : Nat} (h : totT rs ≤ b) : ∀ r ∈ rs, r.n ≤ b := by
  induction rs with
  | nil => intro r hr; simp at hr
  | cons s t ih =>
    intro r hr
    rw [totT_cons] at h
    rcases List.mem_cons.1 hr with rfl | hr
    · omega
    · exact ih (by omega) r hr
theorem totT_take_succ {rs : List Sw} {i : Nat} {r : Sw} (h : rs[i]? = some r) : totT (rs.take (i + 1)) = totT (rs.take i) + (r.n + 1) := by
  obtain ⟨hi, he⟩ := List.getElem?_eq_some_iff.1 h
  unfold totT
  rw [List.take_succ_eq_append_getElem hi, he]
  simp
theorem totT_take_le (rs : List Sw) (i : Nat) : totT (rs.take i) ≤ totT rs := by
  have e : totT rs = totT (rs.take i) + totT (rs.drop i) := by
    unfold totT
    rw [← List.sum_append, ← List.map_append, List.take_append_drop]
  omega
theorem mkSt_get : ∀ (k : Int) (rs : List Sw) (i : Nat) (r : Sw), rs[i]? = some r → (mkSt k rs)[i]? = some { r with q := k + totT (rs.take i), L := iotaL (k + totT (rs.take i) + 1) r.n }
  | k, [], i, r, h => by simp at h
  | k, s :: t, 0, r, h => by
    simp at h
    subst h
    simp [mkSt, totT]
  | k, s :: t, i + 1, r, h => by
    have := mkSt_get (k + 1 + s.n) t i r (by simpa using h)
    have e : k + 1 + (s.n : Int) + (totT (t.take i) : Int) = k + ((s.n + 1 + totT (t.take i) : Nat) : Int) := by omega
    rw [mkSt, List.getElem?_cons_succ, this, List.take_succ_cons, totT_cons, e]
/-- The first i are marked. -/
def mixSt (k : Int) (rs : List Sw) (i : Nat) : List Sw := mkSt k (rs.take i) ++ rs.drop i
theorem mixSt_zero (k : Int) (rs : List Sw) : mixSt k rs 0 = rs := by simp [mixSt, mkSt]
theorem mixSt_all (k : Int) (rs : List Sw) : mixSt k rs rs.length = mkSt k rs := by simp [mixSt]
theorem mkSt_append : ∀ (k : Int) (a b : List Sw), mkSt k (a ++ b) = mkSt k a ++ mkSt (k + totT a) b
  | k, [], b => by simp [mkSt, totT]
  | k, r :: t, b => by
    have e : k + 1 + (r.n : Int) + (totT t : Int) = k + ((r.n + 1 + totT t : Nat) : Int) := by omega
    rw [List.cons_append, mkSt, mkSt, mkSt_append (k + 1 + r.n) t b, totT_cons, List.cons_append, e]
theorem mixSt_get {k : Int} {rs : List Sw} {i : Nat} {r : Sw} (h : rs[i]? = some r) : (mixSt k rs i)[i]? = some r := by
  have hi := (List.getElem?_eq_some_iff.1 h).1
  unfold mixSt
  rw [List.getElem?_append_right (by rw [mkSt_len, List.length_take]; omega), mkSt_len, List.getElem?_drop]
  have e : i + (i - (rs.take i).length) = i := by simp; omega
  rw [e]
  exact h
theorem mixSt_step {k : Int} {rs : List Sw} {i : Nat} {r : Sw} (h : rs[i]? = some r) : (mixSt k rs i).set i { r with q := k + totT (rs.take i), L := iotaL (k + totT (rs.take i) + 1) r.n } = mixSt k rs (i + 1) := by
  obtain ⟨hi, he⟩ := List.getElem?_eq_some_iff.1 h
  unfold mixSt
  have hl : (mkSt k (rs.take i)).length = i := by rw [mkSt_len]; simp; omega
  rw [List.set_append_right _ _ (by omega), hl, Nat.sub_self, List.drop_eq_getElem_cons hi, he, List.set_cons_zero, List.take_succ_eq_append_getElem hi, he, mkSt_append]
  simp [mkSt]

/-- A list of states and a code are the answer. -/
def RetSt (w : World) (QL : List (Int × List Int)) (E : Int) (e : Ending) (w' : World) : Prop :=
  ∃ A n c rs, e = .returned (.tuple #[.slice A n c, .int .i64 E]) ∧ OwnSt w.heap.size w' A n c rs ∧ QLof rs = QL ∧ Below w.heap.size w w'
theorem retSt_zero {w w' : World} {e : Ending} {E : Int} (he : e = .returned (.tuple #[.slice none 0 0, .int .i64 E])) (hb : Below w.heap.size w w') : RetSt w [] E e w' :=
  ⟨none, 0, 0, [], he, OwnSt.nilS _ _, rfl, hb⟩
theorem QL_at {rs : List Sw} {k : Nat} {r : Sw} (h : rs[k]? = some r) : (QLof rs)[k]? = some (r.q, r.L) := by unfold QLof; rw [List.getElem?_map, h]; rfl
theorem QL_len (rs : List Sw) : (QLof rs).length = rs.length := by simp [QLof]
theorem getT_of_lt {rs : List Sw} {k : Nat} (h : k < rs.length) : ∃ r, rs[k]? = some r := ⟨_, List.getElem?_eq_getElem h⟩
theorem totT_QL {B : Nat} {w : World} {A : Option Addr} {n c : Nat} {rs : List Sw} (h : OwnSt B w A n c rs) : totT rs = ((QLof rs).map (fun x => x.2.length + 1)).sum := by
  unfold totT QLof
  rw [List.map_map]
  congr 1
  apply List.map_congr_left
  intro r hr
  simp only [Function.comp_apply]
  rw [(h.2.1 r hr).len]
theorem totT_len (rs : List Sw) : rs.length ≤ totT rs := by
  induction rs with
  | nil => simp
  | cons r t ih => rw [totT_cons, List.length_cons]; omega

/-- A block that is no cells is none of a slice's own. -/
theorem ownG_far {e s B : Nat} {w : World} {A : Option Addr} {n c : Nat} {xs : List Value} {row : Option Nat} (h : OwnG e s B w A n c xs) (hrow : ∀ r, row = some r → ∃ o : Obj, w.heap[r]? = some o ∧ o.isCells = false) : ∀ g, A = some ⟨g, 0, none⟩ → row ≠ some g := by
  intro g hA he
  obtain ⟨o, ho, hc⟩ := hrow g he
  rcases h.2 with ⟨hv, _⟩ | ⟨g', cap, cur, hv, _, hh, _⟩
  · injection hv with h1 h2 h3
    rw [hA] at h1
    cases h1
  · injection hv with h1 h2 h3
    rw [hA] at h1
    injection h1 with h1
    injection h1 with h1
    subst h1
    rw [hh] at ho
    cases ho
    cases hc
/-- A boxed list of states, through the iterator's own steps. -/
theorem stRow_own {β : Type} (n₀ nB t : Nat) (k : β → Nat) (f : β → List (Int × List Int)) :
    Go.Own (fun (s : β) W => ∃ A c rs, Boxed W nB t (.slice A (k s) c) ∧ OwnSt n₀ W A (k s) c rs ∧ QLof rs = f s) := by
  rintro s X Y row ⟨A, c, rs, hv, ho, hq⟩ hg hrow
  refine ⟨A, c, rs, hv.kept hg (fun e' => ?_), ho.keptRow hg (ownG_far ho.1 hrow) (fun r hr => ownG_far (ho.2.1 r hr) hrow), hq⟩
  obtain ⟨o, h1, hc⟩ := hrow nB e'.symm
  rw [show X.heap[nB]? = _ from hv] at h1; cases h1; cases hc

end Go.Proofs.Ytbcgomimfgggnaa

namespace Go.Proofs.Ytbcgomimfgggnaa
open Go.RowKit
set_option linter.unusedVariables false
set_option maxRecDepth 100000

end Go.Proofs.Ytbcgomimfgggnaa

namespace Go.Proofs.Ytbcgomimfgggnaa
open Go.RowKit Go.Shelf
set_option linter.unusedVariables false
set_option maxRecDepth 100000
attribute [local go_sem] Oper.semAt_some

/-- The blocks of S lie as they lay. -/
def KeepB (S : Nat → Prop) (W W' : World) : Prop := ∀ b, S b → W'.heap[b]? = W.heap[b]?
theorem keepB_t {S : Nat → Prop} {A B C : World} (h : KeepB S A B) (k : KeepB S B C) : KeepB S A C := fun b hb => (k b hb).trans (h b hb)
theorem keepB_b {S : Nat → Prop} {w : World} (hS : ∀ b, S b → b < w.heap.size) (W : World) (l : Nat) (o o' : Obj) (hl : w.heap.size ≤ l) (h : W.heap[l]? = some o) (_ : o.isCells = false) (_ : o.isWalk = false) : KeepB S W (W.putObj l o') :=
  fun b hb => World.putObj_heap_other (by have := hS b hb; omega)
theorem keepB_below {S : Nat → Prop} {B : Nat} {W W' : World} (h : Below B W W') (hS : ∀ b, S b → b < B) : KeepB S W W' := fun b hb => h.block b (hS b hb)
/-- The block of a state's box and that of its list. -/
def stS (Bx : Nat) (A : Option Addr) (L : List Int) (b : Nat) : Prop := b = Bx ∨ (L ≠ [] ∧ ∃ ad : Addr, A = some ad ∧ b = ad.block)
theorem stS_cases {w : World} {Bx b : Nat} {A : Option Addr} {L : List Int} (hI : Ints w A L) (h : stS Bx A L b) : b = Bx ∨ b < w.heap.size := by
  rcases h with h | ⟨hne, ad, rfl, rfl⟩
  · exact .inl h
  · obtain ⟨ad', e, hlt, _⟩ := hI 0 (List.length_pos_iff.2 hne)
    cases e
    exact .inr hlt
theorem Ints.keepB {S : Nat → Prop} {W W' : World} {A : Option Addr} {L : List Int} (h : Ints W A L) (hk : KeepB S W W') (hS : ∀ ad : Addr, A = some ad → L ≠ [] → S ad.block) : Ints W' A L := by
  intro k hlt
  obtain ⟨ad, rfl, hb, hc⟩ := h k hlt
  have hh := hk ad.block (hS ad rfl (by intro e; rw [e] at hlt; simp at hlt))
  have hb' : ad.block < W'.heap.size := by
    rcases Nat.lt_or_ge ad.block W'.heap.size with h' | h'
    · exact h'
    · rw [Array.getElem?_eq_none h', Array.getElem?_eq_getElem hb] at hh; cases hh
  refine ⟨ad, rfl, hb', ?_⟩
  rw [← hc]
  unfold World.cell?
  rw [add_block, hh]
theorem grown_of_below {W W' : World} (h : Below W.heap.size W W') : W.grownBy W' none := ⟨h.os, h.tape, h.output, h.size, fun k hk _ => h.block k hk⟩
theorem keepsOthers_of_below {W W' : World} (h : Below W.heap.size W W') : KeepsOthers W W' := KeepsOthers.of_grownBy (grown_of_below h) (fun j o e _ => by cases e)
theorem abide {β : Type} {B : Nat} {J : β → World → Prop} (hJ : AbidesFrom B J) {s : β} {W W' : World} (hs : J s W) (h : Below W.heap.size W W') : J s W' := hJ s W W' none hs (grown_of_below h) (fun r e => by cases e)

theorem box_own {β : Type} (B : Nat) (t : TypeId) (cs : Array Value) : Go.Own (fun (_ : β) W => Box W B t cs) := fun s X Y row hs hg hrow =>
  hs.grown hg (fun e' => by obtain ⟨o, ho, hc⟩ := hrow B e'.symm; rw [show X.heap[B]? = _ from hs] at ho; cases ho; cases hc)

theorem ownFrom_size {β : Type} (B k : Nat) : OwnFrom B (fun (_ : β) W => k ≤ W.heap.size) := fun _ _ _ _ hs hg _ => Nat.le_trans hs hg.size
/-- Behind an append and the store of its answer: the blocks that are neither the list's own nor the variable's lie as they lay. -/
theorem keepB_appended {S : Nat → Prop} {W w2 : World} {tmp : Obj} {v u : Value} {B : Nat} (hg : (W.alloc tmp).grownBy w2 v.ownBlock) (hS : ∀ b, S b → b < W.heap.size ∧ some b ≠ v.ownBlock ∧ b ≠ B) : KeepB S W (w2.setCell ⟨B, 0, none⟩ u) := fun b hb => by
  obtain ⟨h1, h2, h3⟩ := hS b hb
  exact (Below.heap_setCell _ _ _ _ (by exact h3)).trans ((hg.block b (by simp; omega) h2).trans (Below.heap_alloc W tmp b h1))

theorem ints_own {β : Type} (A : Option Addr) (L : List Int) : Go.Own (fun (_ : β) W => Ints W A L) := fun s X Y row hs hg hrow k hk => by
  obtain ⟨ad, hA, hlt, hc⟩ := hs k hk
  refine ⟨ad, hA, Nat.lt_of_lt_of_le hlt hg.size, ?_⟩
  have hb := hg.block ad.block hlt (fun e => by
    obtain ⟨o, ho, hcs⟩ := hrow _ e.symm
    unfold World.cell? at hc
    rw [add_block, ho] at hc
    cases o <;> simp [Obj.isCells] at hcs hc)
  rw [← hc]
  unfold World.cell?
  rw [add_block, hb]

end Go.Proofs.Ytbcgomimfgggnaa

namespace Go.Proofs.Ytbcgomimfgggnaa
open Go.RowKit Go.Shelf
set_option linter.unusedVariables false
set_option maxRecDepth 100000
attribute [local go_sem] Oper.semAt_some

end Go.Proofs.Ytbcgomimfgggnaa

namespace Go.Proofs.Ytbcgomimfgggnaa
open Go.RowKit
set_option linter.unusedVariables false
set_option maxRecDepth 100000

theorem Try.infoM : (Try.prog.info? 69).map (fun i => (i.zero, i.size, i.bytes)) = some (some (.agg #[.int .i64 0, .int .i64 0, .int .i64 0]), 3, 24) := by kernel_rfl

/-- The cells of a list of moves. -/
def mvF (M : List Mv) : List Int := M.flatMap (fun m => [m.1, m.2.1, m.2.2])
def mvCells (M : List Mv) : List Value := (mvF M).map (Value.int .i64)
theorem mvF_len (M : List Mv) : (mvF M).length = M.length * 3 := by
  induction M with
  | nil => rfl
  | cons m M ih => simp only [mvF, List.flatMap_cons, List.length_append, List.length_cons, List.length_nil] at ih ⊢; omega
theorem mvF_cons (m : Mv) (M : List Mv) : mvF (m :: M) = m.1 :: m.2.1 :: m.2.2 :: mvF M := rfl
theorem mvCells_snoc (M : List Mv) (m : Mv) : mvCells (M ++ [m]) = mvCells M ++ [.int .i64 m.1, .int .i64 m.2.1, .int .i64 m.2.2] := by simp [mvCells, mvF]
theorem mvCells_len (M : List Mv) : (mvCells M).length = M.length * 3 := by unfold mvCells; rw [List.length_map, mvF_len]
theorem mvF_at : ∀ (M : List Mv) (k : Nat), k < M.length → (mvF M)[k * 3]? = some (M[k]?.getD (0, 0, 0)).1 ∧ (mvF M)[k * 3 + 1]? = some (M[k]?.getD (0, 0, 0)).2.1 ∧ (mvF M)[k * 3 + 2]? = some (M[k]?.getD (0, 0, 0)).2.2
  | [], k, h => by simp at h
  | m :: M, 0, _ => by simp [mvF_cons]
  | m :: M, k + 1, h => by
    have ih := mvF_at M k (by simpa using h)
    rw [mvF_cons]
    refine ⟨?_, ?_, ?_⟩
    · rw [show (k + 1) * 3 = k * 3 + 3 by omega]; simpa using ih.1
    · rw [show (k + 1) * 3 + 1 = k * 3 + 1 + 3 by omega]; simpa using ih.2.1
    · rw [show (k + 1) * 3 + 2 = k * 3 + 2 + 3 by omega]; simpa using ih.2.2
theorem mvF_inj : ∀ (M M' : List Mv), mvF M = mvF M' → M = M'
  | [], [], _ => rfl
  | [], m :: M, h => by rw [mvF_cons] at h; cases h
  | m :: M, [], h => by rw [mvF_cons] at h; cases h
  | (a, b, c) :: M, (a', b', c') :: M', h => by
    rw [mvF_cons, mvF_cons] at h
    injection h with h1 h
    injection h with h2 h
    injection h with h3 h
    simp only at h1 h2 h3
    rw [h1, h2, h3, mvF_inj M M' h]
/-- A list of moves that is read. -/
def Mvs (w : World) (A : Option Addr) (M : List Mv) : Prop :=
  ∀ k, k < M.length → ∃ g, A = some ⟨g, 0, none⟩ ∧ g < w.heap.size ∧ w.cell? ⟨g, k * 3, none⟩ = some (.int .i64 (M[k]?.getD (0, 0, 0)).1) ∧ w.cell? ⟨g, k * 3 + 1, none⟩ = some (.int .i64 (M[k]?.getD (0, 0, 0)).2.1) ∧ w.cell? ⟨g, k * 3 + 2, none⟩ = some (.int .i64 (M[k]?.getD (0, 0, 0)).2.2)
theorem Mvs.below {w w' : World} {A : Option Addr} {M : List Mv} (h : Mvs w A M) (hb : Below w.heap.size w w') : Mvs w' A M := by
  intro k hk
  obtain ⟨g, rfl, hg, h1, h2, h3⟩ := h k hk
  exact ⟨g, rfl, Nat.lt_of_lt_of_le hg hb.size, (hb.cell (p := ⟨g, k * 3, none⟩) hg).trans h1, (hb.cell (p := ⟨g, k * 3 + 1, none⟩) hg).trans h2, (hb.cell (p := ⟨g, k * 3 + 2, none⟩) hg).trans h3⟩
/-- A list of moves in the call's own memory. -/
abbrev OwnM (B : Nat) (w : World) (A : Option Addr) (n c : Nat) (M : List Mv) : Prop := OwnG 69 3 B w A n c (mvCells M)
theorem OwnM.len {B : Nat} {w : World} {A : Option Addr} {n c : Nat} {M : List Mv} (h : OwnM B w A n c M) : M.length = n := by
  have := OwnG.len h
  rw [mvCells_len] at this
  omega
theorem OwnM.mvs {B : Nat} {w : World} {A : Option Addr} {n c : Nat} {M : List Mv} (h : OwnM B w A n c M) : Mvs w A M := by
  intro k hk
  have hl := OwnM.len h
  obtain ⟨e1, e2, e3⟩ := mvF_at M k hk
  obtain ⟨g, hA, _, hg, c1⟩ := OwnG.cell h (k * 3) (by omega)
  obtain ⟨g2, hA2, _, _, c2⟩ := OwnG.cell h (k * 3 + 1) (by omega)
  obtain ⟨g3, hA3, _, _, c3⟩ := OwnG.cell h (k * 3 + 2) (by omega)
  subst hA
  cases hA2
  cases hA3
  exact ⟨g, rfl, hg, by rw [c1]; simp [mvCells, e1], by rw [c2]; simp [mvCells, e2], by rw [c3]; simp [mvCells, e3]⟩

/-- Two slices of which the one came later (of whatever element types). -/
theorem ows_form {B e s n c : Nat} {w : World} {A : Option Addr} {xs : List Value} (h : w.ownsRow B e s (.slice A n c) n xs) : (A = none ∧ n = 0 ∧ c = 0) ∨ ∃ g, A = some ⟨g, 0, none⟩ ∧ B ≤ g ∧ g < w.heap.size := OwnG.form h
theorem ows_bk {B e s n c : Nat} {w : World} {A : Option Addr} {xs : List Value} (h : w.ownsRow B e s (.slice A n c) n xs) : ∀ k, (Value.slice A n c).ownBlock = some k → B ≤ k := by
  intro k hk
  rcases ows_form h with ⟨rfl, rfl, rfl⟩ | ⟨g, rfl, hB, _⟩
  · simp [Value.ownBlock] at hk
  · simp only [Value.ownBlock, Option.some.injEq] at hk
    omega
theorem ows_apart {B B' e s e' s' n c n' c' : Nat} {w w' : World} {A A' : Option Addr} {xs xs' : List Value} (h : w.ownsRow B e s (.slice A n c) n xs) (h' : w'.ownsRow B' e' s' (.slice A' n' c') n' xs') (hB : w.heap.size ≤ B') :
    ∀ g, A = some ⟨g, 0, none⟩ → (Value.slice A' n' c').ownBlock ≠ some g := by
  intro g hg e
  subst hg
  rcases ows_form h with ⟨h1, _⟩ | ⟨g1, h1, _, hlt⟩
  · cases h1
  · injection h1 with h1
    injection h1 with h1
    subst h1
    have := ows_bk h' _ e
    omega
theorem ows_apart_back {B B' e s e' s' n c n' c' : Nat} {w w' : World} {A A' : Option Addr} {xs xs' : List Value} (h : w.ownsRow B e s (.slice A n c) n xs) (h' : w'.ownsRow B' e' s' (.slice A' n' c') n' xs') (hB : w.heap.size ≤ B') :
    ∀ g, A' = some ⟨g, 0, none⟩ → (Value.slice A n c).ownBlock ≠ some g := by
  intro g hg e
  subst hg
  rcases ows_form h' with ⟨h1, _⟩ | ⟨g1, h1, hB1, _⟩
  · cases h1
  · injection h1 with h1
    injection h1 with h1
    subst h1
    rcases ows_form h with ⟨rfl, rfl, rfl⟩ | ⟨g2, rfl, _, hlt⟩
    · simp [Value.ownBlock] at e
    · simp only [Value.ownBlock, Option.some.injEq] at e
      omega

/-- Whether two moves are equal. -/
def mvEqB (m m' : Mv) : Bool := decide (m.1 = m'.1 ∧ m.2.1 = m'.2.1 ∧ m.2.2 = m'.2.2)
theorem ret_mvEq {a b d a' b' d' : Int} {x : Bool} (h : decide (a = a' ∧ b = b' ∧ d = d') = x) : Ending.returned (.bool x) = .returned (.bool (mvEqB (a, b, d) (a', b', d'))) := by rw [← h]; rfl

set_option maxHeartbeats 400000 in
theorem eqMove_calls (a b d a' b' d' : Int) (w : World) :
    Calls Try.prog 55 #[.agg #[.int .i64 a, .int .i64 b, .int .i64 d], .agg #[.int .i64 a', .int .i64 b', .int .i64 d']] w fun e w' => e = .returned (.bool (mvEqB (a, b, d) (a', b', d'))) ∧ Below w.heap.size w w' := by
  have hb0 : Below w.heap.size w ((w.alloc (.cells #[.int .i64 a, .int .i64 b, .int .i64 d] 69)).alloc (.cells #[.int .i64 a', .int .i64 b', .int .i64 d'] 69)) := ((Below.refl _ _).alloc (Nat.le_refl _) _).alloc (by simp) _
  have HB := Lib.hid hb0
  clear hb0
  by_cases h1 : a = a'
  · have e1 : (a != a') = false := by simpa using h1
    by_cases h2 : b = b'
    · have e2 : (b != b') = false := by simpa using h2
      by_cases h3 : d = d'
      · have e3 : (d != d') = false := by simpa using h3
        have H1 := Lib.hid h1
        have H2 := Lib.hid h2
        have H3 := Lib.hid h3
        clear h1 h2 h3
        go_enter Try.func55, Try.ntmps55
        go_wp2
        go_ret
        exact ⟨ret_mvEq (by rw [decide_eq_true_iff]; exact ⟨H1.out, H2.out, H3.out⟩), HB.out⟩
      · have e3 : (d != d') = true := by simpa using h3
        have H3 := Lib.hid h3
        clear h1 h2 h3
        go_enter Try.func55, Try.ntmps55
        go_wp2
        go_ret
        exact ⟨ret_mvEq (by rw [decide_eq_false_iff_not]; rintro ⟨_, _, h⟩; exact H3.out h), HB.out⟩
    · have e2 : (b != b') = true := by simpa using h2
      have H2 := Lib.hid h2
      clear h1 h2
      go_enter Try.func55, Try.ntmps55
      go_wp2
      go_ret
      exact ⟨ret_mvEq (by rw [decide_eq_false_iff_not]; rintro ⟨_, h, _⟩; exact H2.out h), HB.out⟩
  · have e1 : (a != a') = true := by simpa using h1
    have H1 := Lib.hid h1
    clear h1
    go_enter Try.func55, Try.ntmps55
    go_wp2
    go_ret
    exact ⟨ret_mvEq (by rw [decide_eq_false_iff_not]; rintro ⟨h, _, _⟩; exact H1.out h), HB.out⟩

theorem mvs_ext {M M' : List Mv} {n : Nat} (h : M.length = n) (h' : M'.length = n) (hs : ∀ j, j < n → M[j]?.getD (0, 0, 0) = M'[j]?.getD (0, 0, 0)) : M = M' := by
  apply List.ext_getElem (by omega)
  intro i h1 h2
  have := hs i (by omega)
  rwa [List.getElem?_eq_getElem h1, List.getElem?_eq_getElem h2] at this
theorem mv_eq {x y : Mv} (h : x.1 = y.1 ∧ x.2.1 = y.2.1 ∧ x.2.2 = y.2.2) : x = y := by
  obtain ⟨a, b, c⟩ := x
  obtain ⟨a', b', c'⟩ := y
  simp only at h
  rw [h.1, h.2.1, h.2.2]

set_option maxHeartbeats 1000000 in
theorem eqMoveS_calls (A A' : Option Addr) (n c n' c' : Nat) (M M' : List Mv) (w : World) (hL : M.length = n) (hL' : M'.length = n') (hn : n ≤ 1048576) (hn' : n' ≤ 1048576) (hI : Mvs w A M) (hI' : Mvs w A' M') :
    Calls Try.prog 29 #[.slice A n c, .slice A' n' c'] w fun e w' => e = .returned (.bool (decide (M = M'))) ∧ Below w.heap.size w w' := by
  have HL : Hid (M.length = n) := hL
  have HL' : Hid (M'.length = n') := hL'
  clear hL hL'
  by_cases hne : n = n'
  · subst hne
    go_enter Try.func29, Try.ntmps29
    go_wp2
    go_loopw [5] (fun i wr => ∃ k : Nat, k ≤ n ∧ i = .int .i64 k ∧ (∀ j, j < k → M[j]?.getD (0, 0, 0) = M'[j]?.getD (0, 0, 0)) ∧ Below w.heap.size w wr) (fun i _ => n - (intOf i).toNat)
    case atStart => exact ⟨0, Nat.zero_le _, rfl, fun j hj => absurd hj (by omega), Below.refl _ _⟩
    case round =>
      obtain ⟨k, hk, rfl, hsame, hb⟩ := hrel
      have HS := Lib.hid hsame
      clear hsame
      by_cases hlt : k < n
      · obtain ⟨g, rfl, hg, c0, c1, c2⟩ := (hI.below hb) k (by rw [HL.out]; exact hlt)
        obtain ⟨g', rfl, hg', d0, d1, d2⟩ := (hI'.below hb) k (by rw [HL'.out]; exact hlt)
        have HB := Lib.hid hb
        clear hb
        generalize hm : M[k]?.getD (0, 0, 0) = m at *
        generalize hm' : M'[k]?.getD (0, 0, 0) = m' at *
        have HM := Lib.hid hm
        have HM' := Lib.hid hm'
        clear hm hm'
        go_wp2_with fail
        go_still_tail 8, (by kernel_rfl)
        change wpList _ _ _ _ _ wr.drew
        go_wp2_with fail
        refine (eqMove_calls m.1 m.2.1 m.2.2 m'.1 m'.2.1 m'.2.2 _).mono ?_
        rintro e w1 ⟨rfl, hb1⟩
        have HB1 := Lib.hid (HB.out.drew.trans (hb1.mono HB.out.size))
        clear hb1
        go_wp2
        · have ht : (!mvEqB (m.1, m.2.1, m.2.2) (m'.1, m'.2.1, m'.2.2)) = true := by assumption
          go_ret
          refine ⟨ret_bool ?_, HB1.out⟩
          symm
          rw [decide_eq_false_iff_not]
          rintro rfl
          have := HM.out.symm.trans HM'.out
          subst this
          simp [mvEqB] at ht
        · have ht : (!mvEqB (m.1, m.2.1, m.2.2) (m'.1, m'.2.1, m'.2.2)) = false := by assumption
          have hmm := Lib.hid (mv_eq (x := m) (y := m') (by simpa [mvEqB] using ht))
          go_roundw
          case rel => exact ⟨k + 1, by omega, by go_num, fun j hj => by
            by_cases hjk : j = k
            · subst hjk; rw [HM.out, HM'.out]; exact hmm.out
            · exact HS.out j (by omega), HB1.out⟩
          case measure => simp [intOf]; omega
      · obtain rfl : k = n := by omega
        go_wp2
        go_ret
        exact ⟨ret_bool (by
          symm
          rw [decide_eq_true_iff]
          exact mvs_ext HL.out HL'.out HS.out), hb⟩
  · have hd : ((n : Int) != (n' : Int)) = true := by simp; omega
    go_enter Try.func29, Try.ntmps29
    go_wp2
    go_ret
    exact ⟨ret_bool (by symm; rw [decide_eq_false_iff_not]; rintro rfl; exact hne (HL.out.symm.trans HL'.out)), Below.refl _ _⟩

set_option maxHeartbeats 1000000 in
theorem markMoveS_calls (B : Nat) (A : Option Addr) (n c : Nat) (L : List Int) (k : Int) (w : World) (hO : OwnG 69 3 B w A n c (L.map (Value.int .i64))) (hn : n ≤ 1048576) (hk0 : 0 ≤ k) (hk1 : k ≤ 1000000000000) :
    Calls Try.prog 32 #[.slice A n c, .int .i64 k] w fun e w' => e = .returned (.int .i64 (k + ((n * 3 : Nat) : Int))) ∧ OwnG 69 3 B w' A n c ((iotaL k (n * 3)).map (Value.int .i64)) ∧ w.grownBy w' (Value.slice A n c).ownBlock := by
  have hlen : L.length = n * 3 := by have := hO.len; simpa using this
  have HL := Lib.hid hlen
  clear hlen
  rcases hO.form with ⟨rfl, rfl, rfl⟩ | ⟨g, rfl, hB, hg⟩
  · go_enter Try.func32, Try.ntmps32
    go_wp2
    refine wp_loop_rounds 1 ?_
    rw [rounds_succ]
    go_wp2
    go_ret
    have e : L = [] := List.eq_nil_of_length_eq_zero HL.out
    subst e
    exact ⟨ret_int (by omega), hO, grown_refl _ _⟩
  · have HO := Lib.hid hO
    clear hO
    go_enter Try.func32, Try.ntmps32
    go_wp2
    go_loopw [1, 5] (fun m i wr => ∃ j : Nat, j ≤ n ∧ i = .int .i64 j ∧ m = .int .i64 (k + ((j * 3 : Nat) : Int)) ∧ OwnG 69 3 B wr (some ⟨g, 0, none⟩) n c ((mixL k L (j * 3)).map (Value.int .i64)) ∧ w.grownBy wr (some g)) (fun _ i _ => n - (intOf i).toNat)
    case atStart => exact ⟨0, Nat.zero_le _, rfl, by simp, by rw [Nat.zero_mul, mixL_zero]; exact HO.out, grown_refl _ _⟩
    case round =>
      obtain ⟨j, hj, rfl, rfl, hown, hgr⟩ := hrel
      by_cases hlt : j < n
      · have hcell : ∀ i, i < n * 3 → ∃ u, wr.cell? ⟨g, i, none⟩ = some u := fun i hi => ⟨_, by rw [World.ownsRow.cellAt hown i hi, List.getElem?_eq_getElem (by simp [mixL_len _ _ _ (show j * 3 ≤ L.length by rw [HL.out]; omega), HL.out]; exact hi)]⟩
        obtain ⟨u0, h0⟩ := hcell (j * 3) (by omega)
        obtain ⟨u1, h1⟩ := hcell (j * 3 + 1) (by omega)
        obtain ⟨u2, h2⟩ := hcell (j * 3 + 2) (by omega)
        have f0 := World.ownsRow.frozenAt hown (j * 3)
        have f1 := World.ownsRow.frozenAt hown (j * 3 + 1)
        have f2 := World.ownsRow.frozenAt hown (j * 3 + 2)
        have HOW := Lib.hid hown
        clear hown hcell
        go_wp2
        go_roundw
        case rel =>
          obtain ⟨s1, t1⟩ := World.ownsRow.stored HOW.out (j * 3) (.int .i64 (k + ((j * 3 : Nat) : Int)))
          rw [mixL_step k L (by rw [HL.out]; omega)] at s1
          obtain ⟨s2, t2⟩ := World.ownsRow.stored s1 (j * 3 + 1) (.int .i64 (k + ((j * 3 + 1 : Nat) : Int)))
          rw [mixL_step k L (by rw [HL.out]; omega)] at s2
          obtain ⟨s3, t3⟩ := World.ownsRow.stored s2 (j * 3 + 1 + 1) (.int .i64 (k + ((j * 3 + 1 + 1 : Nat) : Int)))
          rw [mixL_step k L (by rw [HL.out]; omega)] at s3
          have e1 : k + ((j * 3 : Nat) : Int) = k + (j : Int) * 3 := by omega
          have e2 : k + ((j * 3 + 1 : Nat) : Int) = k + (j : Int) * 3 + 1 := by omega
          have e3 : k + ((j * 3 + 1 + 1 : Nat) : Int) = k + (j : Int) * 3 + 1 + 1 := by omega
          rw [e1, e2, e3] at s3 t3
          rw [e1, e2] at t2
          rw [e1] at t1
          exact ⟨j + 1, by omega, by go_num, by congr 1; omega, by rw [show (j + 1) * 3 = j * 3 + 1 + 1 + 1 by omega]; exact s3, grown_trans (grown_trans (grown_trans hgr t1) t2) t3⟩
        case measure => simp [intOf]; omega
      · obtain rfl : j = n := by omega
        go_wp2
        go_ret
        refine ⟨rfl, ?_, hgr⟩
        have := mixL_all k L
        rw [HL.out] at this
        rwa [this] at hown

set_option maxHeartbeats 1000000 in
theorem heldMoveS_calls (B : Nat) (A : Option Addr) (n c : Nat) (k : Int) (w : World) (hO : OwnG 69 3 B w A n c ((iotaL k (n * 3)).map (Value.int .i64))) (hn : n ≤ 1048576) (hk0 : 0 ≤ k) (hk1 : k ≤ 1000000000000) :
    Calls Try.prog 33 #[.slice A n c, .int .i64 k] w fun e w' => e = .returned (.int .i64 (k + ((n * 3 : Nat) : Int))) ∧ Below w.heap.size w w' := by
  have HO := Lib.hid hO
  clear hO
  go_enter Try.func33, Try.ntmps33
  go_wp2
  go_loopw [1, 5] (fun m i wr => ∃ j : Nat, j ≤ n ∧ i = .int .i64 j ∧ m = .int .i64 (k + ((j * 3 : Nat) : Int)) ∧ Below w.heap.size w wr) (fun _ i _ => n - (intOf i).toNat)
  case atStart => exact ⟨0, Nat.zero_le _, rfl, by simp, Below.refl _ _⟩
  case round =>
    obtain ⟨j, hj, rfl, rfl, hb⟩ := hrel
    by_cases hlt : j < n
    · have HOW := HO.out.below hb
      obtain ⟨g, rfl, _, hg, h0⟩ := HOW.cell (j * 3) (by omega)
      obtain ⟨g1, hg1, _, _, h1⟩ := HOW.cell (j * 3 + 1) (by omega)
      obtain ⟨g2, hg2, _, _, h2⟩ := HOW.cell (j * 3 + 2) (by omega)
      cases hg1
      cases hg2
      have hat : ∀ i, i < n * 3 → ((iotaL k (n * 3)).map (Value.int .i64))[i]? = some (.int .i64 (k + i)) := fun i hi => by simp [iotaL, hi]
      rw [hat _ (by omega)] at h0 h1 h2
      have e1 : k + ((j * 3 : Nat) : Int) = k + (j : Int) * 3 := by omega
      have e2 : k + ((j * 3 + 1 : Nat) : Int) = k + (j : Int) * 3 + 1 := by omega
      have e3 : k + ((j * 3 + 2 : Nat) : Int) = k + (j : Int) * 3 + 1 + 1 := by omega
      rw [e1] at h0
      rw [e2] at h1
      rw [e3] at h2
      rw [e1]
      have q1 : (k + (j : Int) * 3 != k + (j : Int) * 3) = false := by simp
      have q2 : (k + (j : Int) * 3 + 1 != k + (j : Int) * 3 + 1) = false := by simp
      have q3 : (k + (j : Int) * 3 + 1 + 1 != k + (j : Int) * 3 + 1 + 1) = false := by simp
      have HB := Lib.hid hb
      clear HOW hat hb e1 e2 e3
      go_wp2
      go_roundw
      case rel => exact ⟨j + 1, by omega, by go_num, by congr 1; omega, HB.out⟩
      case measure => simp [intOf]; omega
    · obtain rfl : j = n := by omega
      go_wp2
      go_ret
      exact ⟨rfl, hb⟩

/-- A list of moves and a code are the answer; the list lies in the call's own memory. -/
def RetMvs (w : World) (n : Nat) (M : List Mv) (E : Int) (e : Ending) (w' : World) : Prop :=
  ∃ A c, e = .returned (.tuple #[.slice A n c, .int .i64 E]) ∧ OwnM w.heap.size w' A n c M ∧ Below w.heap.size w w'
theorem retMvs_zero {w w' : World} {e : Ending} {E : Int} (he : e = .returned (.tuple #[.slice none 0 0, .int .i64 E])) (hb : Below w.heap.size w w') : RetMvs w ([] : List Mv).length [] E e w' :=
  ⟨none, 0, he, OwnG.nilS _ _ _ _, hb⟩

end Go.Proofs.Ytbcgomimfgggnaa

namespace Go.Proofs.Ytbcgomimfgggnaa
open Go.RowKit
set_option linter.unusedVariables false
set_option maxRecDepth 100000

end Go.Proofs.Ytbcgomimfgggnaa

namespace Go.Proofs.Ytbcgomimfgggnaa
open Go.RowKit Go.Shelf
set_option linter.unusedVariables false
set_option maxRecDepth 100000
attribute [local go_sem] Oper.semAt_some


/-- What LegalMoves answers. -/
def lmL (p : Int) (L : List Int) : List Mv := if stateB p L = true then movesL p L else []
theorem lmL_yes {p : Int} {L : List Int} (h : stateB p L = true) : lmL p L = movesL p L := by unfold lmL; rw [if_pos h]
theorem lmL_no {p : Int} {L : List Int} (h : stateB p L = false) : lmL p L = [] := by unfold lmL; rw [h]; rfl
theorem lmL_len (p : Int) (L : List Int) : (lmL p L).length ≤ 1048576 := by
  by_cases h : stateB p L = true
  · rw [lmL_yes h]; have := movesL_len h; omega
  · rw [lmL_no (by simpa using h)]; simp

end Go.Proofs.Ytbcgomimfgggnaa
