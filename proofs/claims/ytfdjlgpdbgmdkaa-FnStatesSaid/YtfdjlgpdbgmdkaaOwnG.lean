/- Words for memory: a slice in the call's own memory, of any element type. No program. -/
import Derived.Test.YtfdjlgpdbgmdkaaBase
import Derived.Deep.AppendLies
import Derived.Maps.AppendAt
namespace Go.Proofs.Ytfdjlgpdbgmdkaa
open Go.RowKit

/-- The slice is the call's own, from block B on: its cells, of the element type e with so many cells an element, are xs. -/
def OwnG (e size : Nat) (B : Nat) (w : World) (A : Option Addr) (n c : Nat) (xs : List Value) : Prop := w.ownsRow B e size (.slice A n c) n xs

section
variable {e size B : Nat} {w w' : World} {A : Option Addr} {n c : Nat} {xs : List Value}
theorem OwnG.form (h : OwnG e size B w A n c xs) : (A = none ∧ n = 0 ∧ c = 0) ∨ ∃ g, A = some ⟨g, 0, none⟩ ∧ B ≤ g ∧ g < w.heap.size := by
  rcases h.2 with ⟨hv, hn⟩ | ⟨g, cap, cur, hv, hb, hh, _⟩
  · left
    injection hv with h1 h2 h3
    exact ⟨h1, h2, h3⟩
  · right
    injection hv with h1 h2 h3
    exact ⟨g, h1, hb, (Array.getElem?_eq_some_iff.1 hh).1⟩
theorem OwnG.kept {row : Option Nat} (h : OwnG e size B w A n c xs) (hg : w.grownBy w' row) (hne : ∀ g, A = some ⟨g, 0, none⟩ → row ≠ some g) : OwnG e size B w' A n c xs := by
  refine World.ownsRow.kept h hg ?_
  rcases h.form with ⟨rfl, rfl, rfl⟩ | ⟨g, rfl, _, _⟩
  · left; rfl
  · right; exact fun e => hne g rfl e.symm
theorem OwnG.below (h : OwnG e size B w A n c xs) (hb : Below w.heap.size w w') : OwnG e size B w' A n c xs :=
  h.kept (row := none) ⟨hb.os, hb.tape, hb.output, hb.size, fun k hk _ => hb.block k hk⟩ (fun g _ => by simp)
theorem OwnG.alloc (h : OwnG e size B w A n c xs) (o : Obj) : OwnG e size B (w.alloc o) A n c xs := h.below ((Below.refl _ _).alloc (Nat.le_refl _) _)
theorem OwnG.draws (h : OwnG e size B w A n c xs) (m : Nat) : OwnG e size B (w.drewN m) A n c xs := h
theorem OwnG.mono {B' : Nat} (h : OwnG e size B w A n c xs) (hB : B' ≤ B) : OwnG e size B' w A n c xs := by
  refine ⟨h.1, ?_⟩
  rcases h.2 with h2 | ⟨g, cap, cur, h1, h2, h3⟩
  · exact .inl h2
  · exact .inr ⟨g, cap, cur, h1, Nat.le_trans hB h2, h3⟩
theorem OwnG.ne_box {g b t : Nat} {cs : Array Value} (h : OwnG e size B w (some ⟨g, 0, none⟩) n c xs) (hb : Box w b t cs) (ht : t ≠ e) : g ≠ b := by
  rintro rfl
  rcases h.2 with ⟨hv, _⟩ | ⟨g', cap, cur, hv, _, hh, _⟩
  · simp at hv
  · injection hv with h1 h2 h3
    injection h1 with h1
    injection h1 with h1
    subst h1
    unfold Box at hb
    rw [hb] at hh
    injection hh with hh
    injection hh with _ hh _
    exact ht hh
theorem OwnG.box_ne {b t : Nat} {cs : Array Value} (h : OwnG e size B w A n c xs) (hb : Box w b t cs) (ht : t ≠ e) : some b ≠ (Value.slice A n c).ownBlock := by
  rcases h.form with ⟨rfl, rfl, rfl⟩ | ⟨g, rfl, _, _⟩
  · simp [Value.ownBlock]
  · have := h.ne_box hb ht
    simp only [Value.ownBlock, ne_eq, Option.some.injEq]
    exact fun e => this e.symm
theorem ownG_shape {v : Value} {ys : List Value} {e s : Nat} (h : w.ownsRow B e s v n ys) : ∃ A c, v = .slice A n c := by
  rcases h.2 with ⟨rfl, rfl⟩ | ⟨g, cap, cur, rfl, _⟩
  · exact ⟨_, _, rfl⟩
  · exact ⟨_, _, rfl⟩
theorem OwnG.setBox (h : OwnG e size B w A n c xs) {a : Addr} (ha : ∀ g, A = some ⟨g, 0, none⟩ → g ≠ a.block) (u : Value) : OwnG e size B (w.setCell a u) A n c xs :=
  h.kept (row := some a.block) ⟨rfl, rfl, rfl, by simp [World.setCell], fun k _ hk => Below.heap_setCell w a u k (fun e => hk (by rw [e]))⟩ (fun g hg e => ha g hg (by injection e with e; exact e.symm))
theorem OwnG.setBoxed {b t : Nat} {cs : Array Value} (h : OwnG e size B w A n c xs) (hb : Box w b t cs) (ht : t ≠ e) (i : Nat) (u : Value) : OwnG e size B (w.setCell ⟨b, i, none⟩ u) A n c xs :=
  h.setBox (fun g hg => by subst hg; exact h.ne_box hb ht) u
/-- A store below B. -/
theorem OwnG.setBelow (h : OwnG e size B w A n c xs) {a : Addr} (ha : a.block < B) (u : Value) : OwnG e size B (w.setCell a u) A n c xs :=
  h.setBox (fun g hg => by subst hg; rcases h.form with ⟨h1, _⟩ | ⟨g', h1, hB, _⟩ <;> simp at h1; omega) u
/-- What was known of boxes below B is known behind the append. -/
theorem OwnG.grown_box {w1 : World} {o : Obj} {b t : Nat} {cs : Array Value} (h : OwnG e size B w A n c xs) (hg : (w.alloc o).grownBy w1 (Value.slice A n c).ownBlock) (hb : Box w b t cs) (hne : t ≠ e) : Box w1 b t cs :=
  (hb.alloc _).grown hg (h.box_ne hb hne)
theorem OwnG.grown_below {w1 : World} {o : Obj} {B0 : Nat} (h : OwnG e size B w A n c xs) (hg : (w.alloc o).grownBy w1 (Value.slice A n c).ownBlock) (h1 : B0 ≤ B) (h2 : B0 ≤ w.heap.size) : Below B0 w w1 := by
  refine ((Below.refl B0 w).alloc h2 _).grown hg (by simp; omega) (fun k hk => ?_)
  rcases h.form with ⟨rfl, rfl, rfl⟩ | ⟨g, rfl, hB, _⟩
  · simp [Value.ownBlock] at hk
  · simp only [Value.ownBlock, Option.some.injEq] at hk
    omega
theorem OwnG.nilS (e size B : Nat) (w : World) : OwnG e size B w none 0 0 [] := World.ownsRow_nil _ _ _ _
theorem OwnG.emptyAt {g : Nat} (hb : Box w g e #[]) (hB : B ≤ g) : OwnG e size B w (some ⟨g, 0, none⟩) 0 0 [] :=
  ⟨by simp, .inr ⟨g, 0, #[], rfl, hB, hb, Nat.le_refl _, by unfold maxLen; omega, by simp, by simp⟩⟩
theorem OwnG.len (h : OwnG e size B w A n c xs) : xs.length = n * size := h.1
theorem OwnG.cap (h : OwnG e size B w A n c xs) : n ≤ c ∧ c ≤ maxLen := by
  rcases h.2 with ⟨hv, hn⟩ | ⟨g, cap, cur, hv, hb, hh, h1, h2, _⟩
  · injection hv with e1 e2 e3; subst e3; exact ⟨by omega, by unfold maxLen; omega⟩
  · injection hv with e1 e2 e3; subst e3; exact ⟨h1, h2⟩
/-- Each cell. -/
theorem OwnG.cell (h : OwnG e size B w A n c xs) (k : Nat) (hk : k < n * size) : ∃ g, A = some ⟨g, 0, none⟩ ∧ B ≤ g ∧ g < w.heap.size ∧ w.cell? ⟨g, k, none⟩ = xs[k]? := by
  rcases h.2 with ⟨hv, hn⟩ | ⟨g, cap, cur, hv, hb, hh, hcap, _, hs, hx⟩
  · subst hn; simp at hk
  · injection hv with e1 e2 e3
    subst e1
    refine ⟨_, rfl, hb, (Array.getElem?_eq_some_iff.1 hh).1, ?_⟩
    rw [← hx, List.getElem?_take, if_pos hk]
    simp [World.cell?, hh]
theorem OwnG.frozen (h : OwnG e size B w A n c xs) {g : Nat} (hg : A = some ⟨g, 0, none⟩) (k : Nat) : w.frozen? ⟨g, k, none⟩ = false := by
  rcases h.2 with ⟨hv, hn⟩ | ⟨g', cap, cur, hv, hb, hh, hcap, _, hs, hx⟩
  · injection hv with e1 e2 e3; rw [e1] at hg; cases hg
  · injection hv with e1 e2 e3
    rw [e1] at hg
    injection hg with hg
    injection hg with hg
    subst hg
    simp [World.frozen?, hh]
end

end Go.Proofs.Ytfdjlgpdbgmdkaa
