/- Words for memory: a slice of integers that is read, one that the call owns. No program. -/
import Derived.WalkKit
import Derived.Laws.OwnMore
import Derived.Deep.OwnRows
import Derived.Deep.Draws
import Derived.Lib.Hide
import Derived.Deep.QuietTactic
namespace Go.Proofs.Ytfdjlgpdbgmdkaa
open Go.RowKit

/-- The cells at the address read as the list. -/
def Ints (w : World) (A : Option Addr) (L : List Int) : Prop :=
  ∀ k, k < L.length → ∃ ad : Addr, A = some ad ∧ ad.block < w.heap.size ∧ w.cell? (ad.add k) = some (.int .i64 (L.getD k 0))

theorem add_block (a : Addr) (n : Nat) : (a.add n).block = a.block := by
  unfold Addr.add
  split <;> rfl

theorem Ints.below {w w' : World} {A : Option Addr} {L : List Int} (h : Ints w A L) (hb : Below w.heap.size w w') : Ints w' A L := by
  intro k hk
  obtain ⟨ad, rfl, hlt, hc⟩ := h k hk
  exact ⟨ad, rfl, Nat.lt_of_lt_of_le hlt hb.size, (hb.cell (p := ad.add k) (by rw [add_block]; exact hlt)).trans hc⟩

theorem Ints.nil (w : World) (A : Option Addr) : Ints w A [] := fun k hk => absurd hk (by simp)

/-- Below, from a later call on. -/
theorem belowThen {B : Nat} {a b c : World} (h : Below B a b) (hB : B ≤ b.heap.size) (k : Below b.heap.size b c) : Below B a c := h.trans (k.mono hB)

/-- A fresh row of integers: block g, of the element type e. -/
def Row (w : World) (g e : Nat) (L : List Int) : Prop := w.rowIs g e L.length (fun j => .int .i64 (L.getD j 0))

theorem Row.ints {w : World} {g e : Nat} {L : List Int} (h : Row w g e L) : Ints w (some ⟨g, 0, none⟩) L := by
  intro k hk
  refine ⟨⟨g, 0, none⟩, rfl, h.lt, ?_⟩
  have := h.cell hk
  unfold Addr.add
  split
  · next h0 => subst h0; exact this
  · simpa using this

theorem Row.below {w w' : World} {g e : Nat} {L : List Int} (h : Row w g e L) (hb : Below w.heap.size w w') : Row w' g e L :=
  h.of_block (hb.block g h.lt)

theorem belowDraws {B : Nat} {a w : World} (h : Below B a w) (n : Nat) : Below B a (w.drewN n) := ⟨h.os, h.tape, h.output, h.size, h.block⟩

theorem undrew {B : Nat} {a w : World} (h : Below B a.drew w) : Below B a w := ⟨h.os, h.tape, h.output, h.size, h.block⟩
theorem undrewN {B n : Nat} {a w : World} (h : Below B (a.drewN n) w) : Below B a w := ⟨h.os, h.tape, h.output, h.size, h.block⟩

/-- What a later call has not touched, cell by cell. -/
theorem keptCells {W w1 : World} (hb : Below W.heap.size W w1) : (∀ b o, b < W.heap.size → w1.cell? ⟨b, o, none⟩ = W.cell? ⟨b, o, none⟩) ∧ (∀ b o, b < W.heap.size → w1.frozen? ⟨b, o, none⟩ = W.frozen? ⟨b, o, none⟩) :=
  ⟨fun b o h => hb.cell (p := ⟨b, o, none⟩) h, fun b o h => hb.frozen (p := ⟨b, o, none⟩) h⟩

theorem list_ext {L L' : List Int} {n : Nat} (h : L.length = n) (h' : L'.length = n) (hs : ∀ j, j < n → L.getD j 0 = L'.getD j 0) : L = L' := by
  apply List.ext_getElem (by omega)
  intro i h1 h2
  have := hs i (by omega)
  rw [List.getD_eq_getElem?_getD, List.getD_eq_getElem?_getD, List.getElem?_eq_getElem h1, List.getElem?_eq_getElem h2] at this
  simpa using this

theorem ret_int {k : IntKind} {a b : Int} (h : a = b) : Ending.returned (.int k a) = .returned (.int k b) := by rw [h]
theorem ret_bool {a b : Bool} (h : a = b) : Ending.returned (.bool a) = .returned (.bool b) := by rw [h]

/-- A call that leaves the world alone, met inside a region that draws its order. -/
theorem quietL {P : Program} {f : FuncId} {args : Array Value} {w : World} {n : Nat} {v : Value} (h : ∀ W, Calls P f args W fun e w' => e = .returned v ∧ W = w') :
    Calls P f args (w.drewN n) fun e w'' => e = .returned v ∧ ∃ m, w'' = w.drewN m := (h _).mono fun _ _ ⟨he, hm⟩ => ⟨he, n, hm.symm⟩
theorem quietLa {P : Program} {f : FuncId} {args : Array Value} {w : World} {a n : Nat} {v : Value} (h : ∀ W, Calls P f args W fun e w' => e = .returned v ∧ W = w') :
    Calls P f args (w.drewN (a + n)) fun e w'' => e = .returned v ∧ ∃ m, w'' = w.drewN (a + m) := (h _).mono fun _ _ ⟨he, hm⟩ => ⟨he, n, hm.symm⟩

theorem block_of_cell {w : World} {a : Addr} {v : Value} (h : w.cell? a = some v) : a.block < w.heap.size := by
  rcases Nat.lt_or_ge a.block w.heap.size with h' | h'
  · exact h'
  · simp [World.cell?, Array.getElem?_eq_none h'] at h

/-- What came in as a slice of integers: nil, or an address with its cells. -/
def ArgInts (w : World) (A : Option Addr) (n : Nat) (L : List Int) : Prop := L.length = n ∧ n ≤ 9223372036854775807 ∧ Ints w A L

/-- A struct of two cells in a box of its own, after whatever has come since. -/
theorem boxed2 {w w1 : World} {u v : Value} {t : Nat} (h : Below (w.heap.size + 1) (w.alloc (.cells #[u, v] t)) w1) :
    w1.cell? ⟨w.heap.size, 0, none⟩ = some u ∧ w1.cell? ⟨w.heap.size, 1, none⟩ = some v ∧ w.heap.size + 1 ≤ w1.heap.size := by
  refine ⟨?_, ?_, by have := h.size; simpa using this⟩
  · rw [h.cell (p := ⟨w.heap.size, 0, none⟩) (by simp)]; simp
  · rw [h.cell (p := ⟨w.heap.size, 1, none⟩) (by simp)]; simp

/-- Block b is just these cells of type t, none frozen. -/
def Box (w : World) (b t : Nat) (cs : Array Value) : Prop := w.heap[b]? = some (.cells cs t (0, 0))
section
variable {w w' : World} {b t : Nat} {cs : Array Value}
theorem Box.lt (h : Box w b t cs) : b < w.heap.size := by
  rcases Nat.lt_or_ge b w.heap.size with h' | h'
  · exact h'
  · unfold Box at h; rw [Array.getElem?_eq_none h'] at h; cases h
theorem Box.cell (h : Box w b t cs) (i : Nat) : w.cell? ⟨b, i, none⟩ = cs[i]? := by unfold Box at h; simp [World.cell?, h]
theorem Box.frozen (h : Box w b t cs) (i : Nat) : w.frozen? ⟨b, i, none⟩ = false := by unfold Box at h; simp [World.frozen?, h]
theorem Box.new (w : World) (t : Nat) (cs : Array Value) : Box (w.alloc (.cells cs t)) w.heap.size t cs := by
  show (w.heap.push _)[w.heap.size]? = _
  simp
theorem Box.below {B : Nat} (h : Box w b t cs) (hb : Below B w w') (hB : b < B) : Box w' b t cs := (hb.block b hB).trans h
theorem Box.alloc (h : Box w b t cs) (o : Obj) : Box (w.alloc o) b t cs := (Below.heap_alloc w o b h.lt).trans h
theorem Box.draws (h : Box w b t cs) (n : Nat) : Box (w.drewN n) b t cs := h
theorem Box.grown {row : Option Nat} (h : Box w b t cs) (hg : w.grownBy w' row) (hr : some b ≠ row) : Box w' b t cs := (hg.block b h.lt hr).trans h
theorem Box.set (h : Box w b t cs) (i : Nat) (u : Value) : Box (w.setCell ⟨b, i, none⟩ u) b t (cs.setIfInBounds i u) := by
  unfold Box at h ⊢
  simp [World.setCell, Array.getElem?_modify, h]
theorem Box.two {u v : Value} (h : Box w b t #[u, v]) : w.cell? ⟨b, 0, none⟩ = some u ∧ w.cell? ⟨b, 1, none⟩ = some v ∧ w.frozen? ⟨b, 0, none⟩ = false ∧ w.frozen? ⟨b, 1, none⟩ = false := by
  have c0 := h.cell 0
  have c1 := h.cell 1
  exact ⟨by simpa using c0, by simpa using c1, h.frozen 0, h.frozen 1⟩
theorem Box.three {u v x : Value} (h : Box w b t #[u, v, x]) : w.cell? ⟨b, 0, none⟩ = some u ∧ w.cell? ⟨b, 1, none⟩ = some v ∧ w.cell? ⟨b, 2, none⟩ = some x := by
  have c0 := h.cell 0
  have c1 := h.cell 1
  have c2 := h.cell 2
  exact ⟨by simpa using c0, by simpa using c1, by simpa using c2⟩
/-- The cells of a box of two and of a box of three. -/
theorem cells23 {b' t' : Nat} {u v x y z : Value} (h : Box w b t #[u, v]) (h' : Box w b' t' #[x, y, z]) :
    w.cell? ⟨b, 0, none⟩ = some u ∧ w.cell? ⟨b, 1, none⟩ = some v ∧ w.cell? ⟨b', 0, none⟩ = some x ∧ w.cell? ⟨b', 1, none⟩ = some y ∧ w.cell? ⟨b', 2, none⟩ = some z :=
  ⟨h.two.1, h.two.2.1, h'.three.1, h'.three.2.1, h'.three.2.2⟩
theorem cells22 {b' t' : Nat} {u v x y : Value} (h : Box w b t #[u, v]) (h' : Box w b' t' #[x, y]) :
    w.cell? ⟨b, 0, none⟩ = some u ∧ w.cell? ⟨b, 1, none⟩ = some v ∧ w.cell? ⟨b', 0, none⟩ = some x ∧ w.cell? ⟨b', 1, none⟩ = some y :=
  ⟨h.two.1, h.two.2.1, h'.two.1, h'.two.2.1⟩
theorem Box.one {u : Value} (h : Box w b t #[u]) : w.cell? ⟨b, 0, none⟩ = some u ∧ w.frozen? ⟨b, 0, none⟩ = false := by
  have c0 := h.cell 0
  exact ⟨by simpa using c0, h.frozen 0⟩
theorem Box.other (h : Box w b t cs) {a : Addr} (ha : b ≠ a.block) (u : Value) : Box (w.setCell a u) b t cs := (Below.heap_setCell w a u b ha).trans h
end

/-- What is left of an allowance when n are taken: less than nought, told as -1, if it is not enough. -/
def szI (n : Nat) (left : Int) : Int := if left < n then -1 else left - n

/-- The list so far, then noughts. -/
def upto (L : List Int) (k j : Nat) : Value := if j < k then .int .i64 (L.getD j 0) else .int .i64 0
theorem upto_step (L : List Int) (k : Nat) : ∀ j, (if j = k then Value.int .i64 (L[k]?.getD 0) else upto L k j) = upto L (k + 1) j := by
  intro j
  unfold upto
  by_cases h : j = k
  · subst h; simp
  · rw [if_neg h]
    by_cases h2 : j < k
    · rw [if_pos h2, if_pos (by omega)]
    · rw [if_neg h2, if_neg (by omega)]


end Go.Proofs.Ytfdjlgpdbgmdkaa
