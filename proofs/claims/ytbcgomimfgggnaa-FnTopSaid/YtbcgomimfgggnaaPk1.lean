/- Words for memory: a slice of integers that is read, one that the call owns. No program. · How a state and a list of integers that came in are opened. · Contracts: the law's comparisons. · Contracts: a list that the call owns is marked with numbers, and found to hold them. · Contracts: the numbers that a law draws from its code. · How a slice of bytes that came in is opened. · Contracts: the great laws' own helpers: a code that is too long, two lists that are alike, a sum. · Plain numbers: what is a state, powers. No program. · Contracts: what is a state, by the specification's model and by the program. · Plain numbers of chapter 2: goals, distances to a peg, the greatest disc that differs, both numbers. No program. -/
import Derived.WalkKit
import Derived.Laws.OwnMore
import Derived.Deep.OwnRows
import Derived.Deep.Draws
import Derived.Lib.Hide
import Derived.Deep.QuietTactic
import Derived.Test.YtbcgomimfgggnaaRows
import Derived.ProofKit
import Derived.OpenShut
import Derived.Lib.SmallJoins
import Derived.WalkSpells
import Derived.BigQuiet
import Derived.OwnWalk
import Derived.Laws.Bits64b
namespace Go.Proofs.Ytbcgomimfgggnaa
open Go.RowKit
set_option maxRecDepth 100000

/-- The cells at the address read as the list. -/
def Ints (w : World) (A : Option Addr) (L : List Int) : Prop :=
  ∀ k, k < L.length → ∃ ad : Addr, A = some ad ∧ ad.block < w.heap.size ∧ w.cell? (ad.add k) = some (.int .i64 (L.getD k 0))

theorem add_block (a : Addr) (n : Nat) : (a.add n).block = a.block := by
  unfold Addr.add
  split <;> rfl

theorem Ints.below {w w' : World} {A : Option Addr} {L : List Int} (h : Ints w A L) (hb : Below w.heap.size w w') : Ints w' A L := by
  intro k hk
  obtain ⟨ad, rfl, hlt, hc⟩ := h k hk
  exact ⟨ad, rfl, Nat.lt_of_lt_of_le hlt hb.size, (hb.cell (p := ad.add k) (by rw [add_block]; exact hlt)).trans hc⟩

theorem Ints.nil (w : World) (A : Option Addr) : Ints w A [] := fun k hk => absurd hk (by simp)

/-- Below, from a later call on. -/
theorem belowThen {B : Nat} {a b c : World} (h : Below B a b) (hB : B ≤ b.heap.size) (k : Below b.heap.size b c) : Below B a c := h.trans (k.mono hB)

/-- A fresh row of integers: block g, of the element type e. -/
def Row (w : World) (g e : Nat) (L : List Int) : Prop := w.rowIs g e L.length (fun j => .int .i64 (L.getD j 0))

theorem Row.ints {w : World} {g e : Nat} {L : List Int} (h : Row w g e L) : Ints w (some ⟨g, 0, none⟩) L := by
  intro k hk
  refine ⟨⟨g, 0, none⟩, rfl, h.lt, ?_⟩
  have := h.cell hk
  unfold Addr.add
  split
  · next h0 => subst h0; exact this
  · simpa using this

theorem Row.below {w w' : World} {g e : Nat} {L : List Int} (h : Row w g e L) (hb : Below w.heap.size w w') : Row w' g e L :=
  h.of_block (hb.block g h.lt)

theorem belowDraws {B : Nat} {a w : World} (h : Below B a w) (n : Nat) : Below B a (w.drewN n) := ⟨h.os, h.tape, h.output, h.size, h.block⟩

theorem undrew {B : Nat} {a w : World} (h : Below B a.drew w) : Below B a w := ⟨h.os, h.tape, h.output, h.size, h.block⟩
theorem undrewN {B n : Nat} {a w : World} (h : Below B (a.drewN n) w) : Below B a w := ⟨h.os, h.tape, h.output, h.size, h.block⟩

/-- What a later call has not touched, cell by cell. -/
theorem keptCells {W w1 : World} (hb : Below W.heap.size W w1) : (∀ b o, b < W.heap.size → w1.cell? ⟨b, o, none⟩ = W.cell? ⟨b, o, none⟩) ∧ (∀ b o, b < W.heap.size → w1.frozen? ⟨b, o, none⟩ = W.frozen? ⟨b, o, none⟩) :=
  ⟨fun b o h => hb.cell (p := ⟨b, o, none⟩) h, fun b o h => hb.frozen (p := ⟨b, o, none⟩) h⟩

theorem list_ext {L L' : List Int} {n : Nat} (h : L.length = n) (h' : L'.length = n) (hs : ∀ j, j < n → L.getD j 0 = L'.getD j 0) : L = L' := by
  apply List.ext_getElem (by omega)
  intro i h1 h2
  have := hs i (by omega)
  rw [List.getD_eq_getElem?_getD, List.getD_eq_getElem?_getD, List.getElem?_eq_getElem h1, List.getElem?_eq_getElem h2] at this
  simpa using this

theorem ret_int {k : IntKind} {a b : Int} (h : a = b) : Ending.returned (.int k a) = .returned (.int k b) := by rw [h]
theorem ret_bool {a b : Bool} (h : a = b) : Ending.returned (.bool a) = .returned (.bool b) := by rw [h]

/-- A call that leaves the world alone, met inside a region that draws its order. -/
theorem quietL {P : Program} {f : FuncId} {args : Array Value} {w : World} {n : Nat} {v : Value} (h : ∀ W, Calls P f args W fun e w' => e = .returned v ∧ W = w') :
    Calls P f args (w.drewN n) fun e w'' => e = .returned v ∧ ∃ m, w'' = w.drewN m := (h _).mono fun _ _ ⟨he, hm⟩ => ⟨he, n, hm.symm⟩
theorem quietLa {P : Program} {f : FuncId} {args : Array Value} {w : World} {a n : Nat} {v : Value} (h : ∀ W, Calls P f args W fun e w' => e = .returned v ∧ W = w') :
    Calls P f args (w.drewN (a + n)) fun e w'' => e = .returned v ∧ ∃ m, w'' = w.drewN (a + m) := (h _).mono fun _ _ ⟨he, hm⟩ => ⟨he, n, hm.symm⟩

theorem block_of_cell {w : World} {a : Addr} {v : Value} (h : w.cell? a = some v) : a.block < w.heap.size := by
  rcases Nat.lt_or_ge a.block w.heap.size with h' | h'
  · exact h'
  · simp [World.cell?, Array.getElem?_eq_none h'] at h

/-- What came in as a slice of integers: nil, or an address with its cells. -/
def ArgInts (w : World) (A : Option Addr) (n : Nat) (L : List Int) : Prop := L.length = n ∧ n ≤ 9223372036854775807 ∧ Ints w A L

/-- A struct of two cells in a box of its own, after whatever has come since. -/
theorem boxed2 {w w1 : World} {u v : Value} {t : Nat} (h : Below (w.heap.size + 1) (w.alloc (.cells #[u, v] t)) w1) :
    w1.cell? ⟨w.heap.size, 0, none⟩ = some u ∧ w1.cell? ⟨w.heap.size, 1, none⟩ = some v ∧ w.heap.size + 1 ≤ w1.heap.size := by
  refine ⟨?_, ?_, by have := h.size; simpa using this⟩
  · rw [h.cell (p := ⟨w.heap.size, 0, none⟩) (by simp)]; simp
  · rw [h.cell (p := ⟨w.heap.size, 1, none⟩) (by simp)]; simp

/-- Block b is just these cells of type t, none frozen. -/
def Box (w : World) (b t : Nat) (cs : Array Value) : Prop := w.heap[b]? = some (.cells cs t (0, 0))
section
variable {w w' : World} {b t : Nat} {cs : Array Value}
theorem Box.lt (h : Box w b t cs) : b < w.heap.size := by
  rcases Nat.lt_or_ge b w.heap.size with h' | h'
  · exact h'
  · unfold Box at h; rw [Array.getElem?_eq_none h'] at h; cases h
theorem Box.cell (h : Box w b t cs) (i : Nat) : w.cell? ⟨b, i, none⟩ = cs[i]? := by unfold Box at h; simp [World.cell?, h]
theorem Box.frozen (h : Box w b t cs) (i : Nat) : w.frozen? ⟨b, i, none⟩ = false := by unfold Box at h; simp [World.frozen?, h]
theorem Box.new (w : World) (t : Nat) (cs : Array Value) : Box (w.alloc (.cells cs t)) w.heap.size t cs := by
  show (w.heap.push _)[w.heap.size]? = _
  simp
theorem Box.below {B : Nat} (h : Box w b t cs) (hb : Below B w w') (hB : b < B) : Box w' b t cs := (hb.block b hB).trans h
theorem Box.alloc (h : Box w b t cs) (o : Obj) : Box (w.alloc o) b t cs := (Below.heap_alloc w o b h.lt).trans h
theorem Box.draws (h : Box w b t cs) (n : Nat) : Box (w.drewN n) b t cs := h
theorem Box.grown {row : Option Nat} (h : Box w b t cs) (hg : w.grownBy w' row) (hr : some b ≠ row) : Box w' b t cs := (hg.block b h.lt hr).trans h
theorem Box.set (h : Box w b t cs) (i : Nat) (u : Value) : Box (w.setCell ⟨b, i, none⟩ u) b t (cs.setIfInBounds i u) := by
  unfold Box at h ⊢
  simp [World.setCell, Array.getElem?_modify, h]
theorem Box.two {u v : Value} (h : Box w b t #[u, v]) : w.cell? ⟨b, 0, none⟩ = some u ∧ w.cell? ⟨b, 1, none⟩ = some v ∧ w.frozen? ⟨b, 0, none⟩ = false ∧ w.frozen? ⟨b, 1, none⟩ = false := by
  have c0 := h.cell 0
  have c1 := h.cell 1
  exact ⟨by simpa using c0, by simpa using c1, h.frozen 0, h.frozen 1⟩
theorem Box.three {u v x : Value} (h : Box w b t #[u, v, x]) : w.cell? ⟨b, 0, none⟩ = some u ∧ w.cell? ⟨b, 1, none⟩ = some v ∧ w.cell? ⟨b, 2, none⟩ = some x := by
  have c0 := h.cell 0
  have c1 := h.cell 1
  have c2 := h.cell 2
  exact ⟨by simpa using c0, by simpa using c1, by simpa using c2⟩
/-- The cells of a box of two and of a box of three. -/
theorem cells23 {b' t' : Nat} {u v x y z : Value} (h : Box w b t #[u, v]) (h' : Box w b' t' #[x, y, z]) :
    w.cell? ⟨b, 0, none⟩ = some u ∧ w.cell? ⟨b, 1, none⟩ = some v ∧ w.cell? ⟨b', 0, none⟩ = some x ∧ w.cell? ⟨b', 1, none⟩ = some y ∧ w.cell? ⟨b', 2, none⟩ = some z :=
  ⟨h.two.1, h.two.2.1, h'.three.1, h'.three.2.1, h'.three.2.2⟩
theorem cells22 {b' t' : Nat} {u v x y : Value} (h : Box w b t #[u, v]) (h' : Box w b' t' #[x, y]) :
    w.cell? ⟨b, 0, none⟩ = some u ∧ w.cell? ⟨b, 1, none⟩ = some v ∧ w.cell? ⟨b', 0, none⟩ = some x ∧ w.cell? ⟨b', 1, none⟩ = some y :=
  ⟨h.two.1, h.two.2.1, h'.two.1, h'.two.2.1⟩
theorem Box.one {u : Value} (h : Box w b t #[u]) : w.cell? ⟨b, 0, none⟩ = some u ∧ w.frozen? ⟨b, 0, none⟩ = false := by
  have c0 := h.cell 0
  exact ⟨by simpa using c0, h.frozen 0⟩
theorem Box.other (h : Box w b t cs) {a : Addr} (ha : b ≠ a.block) (u : Value) : Box (w.setCell a u) b t cs := (Below.heap_setCell w a u b ha).trans h
end

/-- What is left of an allowance when n are taken: less than nought, told as -1, if it is not enough. -/
def szI (n : Nat) (left : Int) : Int := if left < n then -1 else left - n

/-- The list so far, then noughts. -/
def upto (L : List Int) (k j : Nat) : Value := if j < k then .int .i64 (L.getD j 0) else .int .i64 0
theorem upto_step (L : List Int) (k : Nat) : ∀ j, (if j = k then Value.int .i64 (L[k]?.getD 0) else upto L k j) = upto L (k + 1) j := by
  intro j
  unfold upto
  by_cases h : j = k
  · subst h; simp
  · rw [if_neg h]
    by_cases h2 : j < k
    · rw [if_pos h2, if_pos (by omega)]
    · rw [if_neg h2, if_neg (by omega)]


end Go.Proofs.Ytbcgomimfgggnaa

namespace Go.Proofs.Ytbcgomimfgggnaa
open Go.ChangeShapes Go.WideShapes Go.ChangeAt Go.RowKit Go.Joins
set_option linter.unusedVariables false
set_option maxRecDepth 100000

theorem own : ownKnob Try.prog.godebug = none := by kernel_rfl
theorem laidOut : laidOutB Try.prog = true := by kernel_rfl
theorem cellsI : Try.prog.cellsOf 2 = 1 := by kernel_rfl

theorem zs_ints {w : World} {a : Addr} {len : Nat} {zs : List Int} (hl : len ≤ zs.length) (hc : ∀ i, i < zs.length → w.cell? (a.add i) = some (.int .i64 (zs.getD i 0))) :
    Ints w (some a) (zs.take len) := by
  intro k hk
  have hk' : k < len := by simp at hk; omega
  have h := hc k (by omega)
  refine ⟨a, rfl, by have := block_of_cell h; rwa [add_block] at this, ?_⟩
  rw [h]
  simp [hk']

/-- A slice of integers: its value, and what it reads as. -/
theorem open_slice_ints {H : Type} {enc : TypeId × Value → H} {W : World} {fuel : Nat} {v : Value} {x : DataW H × List MemPlace}
    (hf : DataW.trod enc Try.prog W 0 (fun _ => true) true fuel 28 [v] = some x) :
    ∃ (A : Option Addr) (n c : Nat) (L : List Int), v = .slice A n c ∧ ArgInts W A n L := by
  rcases open_ints Try.underlying28 Try.underlying2 cellsI hf with ⟨hcs, _⟩ | ⟨a, l, c, zs, hcs, _, hl, hm, hz, _, hcell, hwz⟩
  · simp only [List.cons.injEq, and_true] at hcs
    exact ⟨none, 0, 0, [], hcs, rfl, by omega, Ints.nil _ _⟩
  · simp only [List.cons.injEq, and_true] at hcs
    simp only [if_true] at hz
    refine ⟨some a, l, c, zs.take l, hcs, by simp; omega, by unfold maxLen at hm; omega, zs_ints (by omega) hcell⟩

end Go.Proofs.Ytbcgomimfgggnaa

namespace Go.Proofs.Ytbcgomimfgggnaa
open Go.RowKit
set_option linter.unusedVariables false
set_option maxRecDepth 100000

theorem Try.infoI : (Try.prog.info? 2).map (fun i => (i.zero, i.size, i.bytes)) = some (some (.int .i64 0), 1, 8) := by kernel_rfl

theorem list_ne_len {L L' : List Int} {n n' : Nat} (h : L.length = n) (h' : L'.length = n') (hne : ¬ n = n') : decide (L = L') = false := by
  simp
  rintro rfl
  omega

set_option maxHeartbeats 400000 in
theorem eqInt64S_calls (A A' : Option Addr) (n c n' c' : Nat) (L L' : List Int) (w : World) (hL : L.length = n) (hL' : L'.length = n') (hn : n ≤ 1048576) (hn' : n' ≤ 1048576) (hI : Ints w A L) (hI' : Ints w A' L') :
    Calls Try.prog 56 #[.slice A n c, .slice A' n' c'] w fun e w' => e = .returned (.bool (decide (L = L'))) ∧ ∃ m, w' = w.drewN m := by
  have HL : Hid (L.length = n) := hL
  have HL' : Hid (L'.length = n') := hL'
  clear hL hL'
  by_cases hne : n = n'
  · subst hne
    go_enter Try.func56, Try.ntmps56
    go_wp2
    go_loopw [5] (fun i wr => ∃ k : Nat, k ≤ n ∧ i = .int .i64 k ∧ (∀ j, j < k → L.getD j 0 = L'.getD j 0) ∧ ∃ m, wr = w.drewN m) (fun i _ => n - (intOf i).toNat)
    case atStart => exact ⟨0, Nat.zero_le _, rfl, fun j hj => absurd hj (by omega), 0, rfl⟩
    case round =>
      obtain ⟨k, hk, rfl, hsame, m, rfl⟩ := hrel
      have HS := Lib.hid hsame
      clear hsame
      by_cases hlt : k < n
      · obtain ⟨ad, rfl, had, hc⟩ := hI k (by rw [HL.out]; exact hlt)
        obtain ⟨ad', rfl, had', hc'⟩ := hI' k (by rw [HL'.out]; exact hlt)
        go_wp2_with fail
        go_quiet (fail)
        go_wp2
        · have hd : (L[k]?.getD 0 != L'[k]?.getD 0) = true := by assumption
          go_ret
          exact ⟨ret_bool (by
            symm
            rw [decide_eq_false_iff_not]
            rintro rfl
            simp at hd), by first | exact ⟨_, rfl⟩ | exact ⟨_, World.drewN_drewN _ _ _⟩⟩
        · have hd : (L[k]?.getD 0 != L'[k]?.getD 0) = false := by assumption
          go_roundw
          case rel => exact ⟨k + 1, by omega, by go_num, fun j hj => by
            by_cases hjk : j = k
            · subst hjk; simpa using hd
            · exact HS.out j (by omega), by first | exact ⟨_, rfl⟩ | exact ⟨_, World.drewN_drewN _ _ _⟩⟩
          case measure => simp [intOf]; omega
      · obtain rfl : k = n := by omega
        go_wp2
        go_ret
        exact ⟨ret_bool (by
          symm
          rw [decide_eq_true_iff]
          exact list_ext HL.out HL'.out HS.out), _, rfl⟩
  · have hd : ((n : Int) != (n' : Int)) = true := by simp; omega
    go_enter Try.func56, Try.ntmps56
    go_wp2
    go_ret
    exact ⟨ret_bool (list_ne_len HL.out HL'.out hne).symm, 0, rfl⟩

set_option maxHeartbeats 400000 in
theorem eqState_calls (A A' : Option Addr) (n c n' c' : Nat) (p p' : Int) (L L' : List Int) (w : World) (hL : L.length = n) (hL' : L'.length = n') (hn : n ≤ 1048576) (hn' : n' ≤ 1048576) (hI : Ints w A L) (hI' : Ints w A' L') :
    Calls Try.prog 30 #[.agg #[.int .i64 p, .slice A n c], .agg #[.int .i64 p', .slice A' n' c']] w fun e w' => e = .returned (.bool (decide (p = p' ∧ L = L'))) ∧ Below w.heap.size w w' := by
  by_cases hp : p = p'
  · subst hp
    go_enter Try.func30, Try.ntmps30
    go_wp2_with fail
    refine (eqInt64S_calls A A' n c n' c' L L' _ hL hL' hn hn' (hI.below (((Below.refl _ _).alloc (Nat.le_refl _) _).alloc (by simp) _)) (hI'.below (((Below.refl _ _).alloc (Nat.le_refl _) _).alloc (by simp) _))).mono ?_
    rintro e w1 ⟨rfl, m, rfl⟩
    go_wp2
    · have ht : (!decide (L = L')) = true := by assumption
      go_ret
      exact ⟨ret_bool (by simpa using ht), belowDraws (((Below.refl _ _).alloc (Nat.le_refl _) _).alloc (by simp) _) m⟩
    · have ht : (!decide (L = L')) = false := by assumption
      go_ret
      exact ⟨ret_bool (by simpa using ht), belowDraws (((Below.refl _ _).alloc (Nat.le_refl _) _).alloc (by simp) _) m⟩
  · have hd : (p != p') = true := by simp; omega
    go_enter Try.func30, Try.ntmps30
    go_wp2
    go_ret
    exact ⟨ret_bool (by simp [hp]), ((Below.refl _ _).alloc (Nat.le_refl _) _).alloc (by simp) _⟩

end Go.Proofs.Ytbcgomimfgggnaa

namespace Go.Proofs.Ytbcgomimfgggnaa
open Go.RowKit
set_option linter.unusedVariables false
set_option maxRecDepth 100000

/-- A slice of integers in the call's own memory from block B on, or nil. -/
def Own (B : Nat) (w : World) (A : Option Addr) (n c : Nat) (L : List Int) : Prop := w.ownsRow B 2 1 (.slice A n c) n (L.map (Value.int .i64))

section
variable {B : Nat} {w w' : World} {A : Option Addr} {n c : Nat} {L : List Int}
theorem Own.len (h : Own B w A n c L) : L.length = n := by have := h.1; simpa using this
theorem Own.form (h : Own B w A n c L) : (A = none ∧ n = 0 ∧ c = 0) ∨ ∃ g, A = some ⟨g, 0, none⟩ ∧ B ≤ g ∧ g < w.heap.size := by
  rcases h.2 with ⟨hv, hn⟩ | ⟨g, cap, cur, hv, hb, hh, _⟩
  · left
    injection hv with h1 h2 h3
    exact ⟨h1, h2, h3⟩
  · right
    injection hv with h1 h2 h3
    refine ⟨g, h1, hb, ?_⟩
    rcases Nat.lt_or_ge g w.heap.size with hlt | hge
    · exact hlt
    · rw [Array.getElem?_eq_none hge] at hh; cases hh
theorem Own.ints (h : Own B w A n c L) : Ints w A L := by
  intro k hk
  have hl := h.len
  rcases h.form with ⟨rfl, rfl, rfl⟩ | ⟨g, rfl, hb, hlt⟩
  · omega
  · refine ⟨_, rfl, hlt, ?_⟩
    have := World.ownsRow.cellAt h k (by omega)
    have e : (⟨g, 0, none⟩ : Addr).add k = ⟨g, k, none⟩ := by
      unfold Addr.add
      split
      · next h0 => rw [h0]
      · simp
    rw [e, this, List.getElem?_map, List.getElem?_eq_getElem hk]
    simp [hk]
theorem Own.kept {row : Option Nat} (h : Own B w A n c L) (hg : w.grownBy w' row) (hne : ∀ g, A = some ⟨g, 0, none⟩ → row ≠ some g) : Own B w' A n c L := by
  refine World.ownsRow.kept h hg ?_
  rcases h.form with ⟨rfl, rfl, rfl⟩ | ⟨g, rfl, _, _⟩
  · left; rfl
  · right; exact fun e => hne g rfl e.symm
theorem Own.below (h : Own B w A n c L) (hb : Below w.heap.size w w') : Own B w' A n c L :=
  h.kept (row := none) ⟨hb.os, hb.tape, hb.output, hb.size, fun k hk _ => hb.block k hk⟩ (fun g _ => by simp)
theorem Own.mono {B' : Nat} (h : Own B w A n c L) (hB : B' ≤ B) : Own B' w A n c L := by
  refine ⟨h.1, ?_⟩
  rcases h.2 with h2 | ⟨g, cap, cur, h1, h2, h3⟩
  · exact .inl h2
  · exact .inr ⟨g, cap, cur, h1, Nat.le_trans hB h2, h3⟩
theorem Row.own {g : Nat} (h : Row w g 2 L) (hB : B ≤ g) (hm : L.length ≤ 1048576) : Own B w (some ⟨g, 0, none⟩) L.length L.length L := by
  obtain ⟨cs, hb, hs, hc⟩ := h
  refine ⟨by simp, .inr ⟨g, L.length, cs, rfl, hB, hb, Nat.le_refl _, by unfold maxLen; omega, by simpa using hs, ?_⟩⟩
  apply List.ext_getElem?
  intro j
  by_cases hj : j < L.length
  · have := hc j hj
    simp [hj, this]
  · rw [List.getElem?_eq_none (by simp; omega), List.getElem?_eq_none (by simp; omega)]
theorem Own.ne_box {g b t : Nat} {cs : Array Value} (h : Own B w (some ⟨g, 0, none⟩) n c L) (hb : Box w b t cs) (ht : t ≠ 2) : g ≠ b := by
  rintro rfl
  rcases h.2 with ⟨hv, _⟩ | ⟨g', cap, cur, hv, _, hh, _⟩
  · simp at hv
  · injection hv with h1 h2 h3
    injection h1 with h1
    injection h1 with h1
    subst h1
    unfold Box at hb
    rw [hb] at hh
    injection hh with hh
    injection hh with _ hh
    exact ht hh
theorem Own.box_ne {b t : Nat} {cs : Array Value} (h : Own B w A n c L) (hb : Box w b t cs) (ht : t ≠ 2) : some b ≠ (Value.slice A n c).ownBlock := by
  rcases h.form with ⟨rfl, rfl, rfl⟩ | ⟨g, rfl, _, _⟩
  · simp [Value.ownBlock]
  · have := h.ne_box hb ht
    simp only [Value.ownBlock, ne_eq, Option.some.injEq]
    exact fun e => this e.symm
theorem own_shape {v : Value} {xs : List Value} {e s : Nat} (h : w.ownsRow B e s v n xs) : ∃ A c, v = .slice A n c := by
  rcases h.2 with ⟨rfl, rfl⟩ | ⟨g, cap, cur, rfl, _⟩
  · exact ⟨_, _, rfl⟩
  · exact ⟨_, _, rfl⟩
theorem Own.setBox (h : Own B w A n c L) {a : Addr} (ha : ∀ g, A = some ⟨g, 0, none⟩ → g ≠ a.block) (u : Value) : Own B (w.setCell a u) A n c L :=
  h.kept (row := some a.block) ⟨rfl, rfl, rfl, by simp [World.setCell], fun k _ hk => Below.heap_setCell w a u k (fun e => hk (by rw [e]))⟩ (fun g hg e => ha g hg (by injection e with e; exact e.symm))
theorem Own.setBoxed {b t : Nat} {cs : Array Value} (h : Own B w A n c L) (hb : Box w b t cs) (ht : t ≠ 2) (i : Nat) (u : Value) : Own B (w.setCell ⟨b, i, none⟩ u) A n c L :=
  h.setBox (fun g hg => by subst hg; exact h.ne_box hb ht) u
/-- One more has been appended. -/
theorem Own.pushed {w1 : World} {A' : Option Addr} {c' : Nat} {a : Int} (h : Own B w A n c L) (hg : (w.alloc (.cells #[.int .i64 a] 2)).grownBy w1 (Value.slice A n c).ownBlock)
    (ho : w1.ownsRow B 2 1 (.slice A' (n + 1) c') (n + 1) (L.map (Value.int .i64) ++ [.int .i64 a])) :
    Own B w1 A' (n + 1) c' (L ++ [a]) ∧ (∀ b t cs, Box w b t cs → t ≠ 2 → Box w1 b t cs) ∧ w.heap.size + 1 ≤ w1.heap.size ∧ (∀ B0, B0 ≤ B → B0 ≤ w.heap.size → Below B0 w w1) := by
  refine ⟨by unfold Own; simpa using ho, fun b t cs hb ht => (hb.alloc _).grown hg (h.box_ne hb ht), by have := hg.size; simpa using this, fun B0 h1 h2 => ?_⟩
  refine ((Below.refl B0 w).alloc h2 _).grown hg (by simp; omega) (fun k hk => ?_)
  rcases h.form with ⟨rfl, rfl, rfl⟩ | ⟨g, rfl, hB, _⟩
  · simp [Value.ownBlock] at hk
  · simp only [Value.ownBlock, Option.some.injEq] at hk
    omega
theorem Own.nilS (B : Nat) (w : World) : Own B w none 0 0 [] := World.ownsRow_nil _ _ _ _
theorem Own.emptyAt {g : Nat} (hb : Box w g 2 #[]) (hB : B ≤ g) : Own B w (some ⟨g, 0, none⟩) 0 0 [] :=
  ⟨rfl, .inr ⟨g, 0, #[], rfl, hB, hb, Nat.le_refl _, by unfold maxLen; omega, rfl, rfl⟩⟩
end

def iotaL (k : Int) (n : Nat) : List Int := (List.range n).map (fun i => k + (i : Nat))
theorem iotaL_len (k : Int) (n : Nat) : (iotaL k n).length = n := by simp [iotaL]
theorem iotaL_at (k : Int) {n i : Nat} (h : i < n) : (iotaL k n).getD i 0 = k + i := by simp [iotaL, h]
/-- The first i are marked, the others as they were. -/
def mixL (k : Int) (L : List Int) (i : Nat) : List Int := iotaL k i ++ L.drop i
theorem mixL_zero (k : Int) (L : List Int) : mixL k L 0 = L := by simp [mixL, iotaL]
theorem mixL_all (k : Int) (L : List Int) : mixL k L L.length = iotaL k L.length := by simp [mixL]
theorem mixL_len (k : Int) (L : List Int) (i : Nat) (h : i ≤ L.length) : (mixL k L i).length = L.length := by simp [mixL, iotaL_len]; omega
theorem mixL_step (k : Int) (L : List Int) {i : Nat} (h : i < L.length) : ((mixL k L i).map (Value.int .i64)).set i (.int .i64 (k + i)) = (mixL k L (i + 1)).map (Value.int .i64) := by
  rw [← List.map_set]
  congr 1
  apply List.ext_getElem?
  intro j
  have e1 : (iotaL k i).length = i := iotaL_len k i
  have e2 : (iotaL k (i + 1)).length = i + 1 := iotaL_len k (i + 1)
  rw [List.getElem?_set]
  by_cases hj : i = j
  · subst hj
    rw [if_pos rfl, if_pos (by rw [mixL_len _ _ _ (by omega)]; exact h)]
    unfold mixL
    rw [List.getElem?_append_left (by omega)]
    simp [iotaL]
  · rw [if_neg hj]
    unfold mixL
    by_cases hlt : j < i
    · rw [List.getElem?_append_left (by omega), List.getElem?_append_left (by omega)]
      simp [iotaL, hlt, show j < i + 1 by omega]
    · rw [List.getElem?_append_right (by omega), List.getElem?_append_right (by omega), List.getElem?_drop, List.getElem?_drop]
      congr 1
      omega

theorem grown_trans {a b c : World} {g : Nat} (h : a.grownBy b (some g)) (k : b.grownBy c (some g)) : a.grownBy c (some g) :=
  ⟨k.os.trans h.os, k.tape.trans h.tape, k.output.trans h.output, Nat.le_trans h.size k.size, fun i hi hne => (k.block i (Nat.lt_of_lt_of_le hi h.size) hne).trans (h.block i hi hne)⟩
theorem grown_undrew {a c : World} {r : Option Nat} (h : a.drew.grownBy c r) : a.grownBy c r := ⟨h.os, h.tape, h.output, h.size, h.block⟩
theorem grown_undrewN {a c : World} {r : Option Nat} {n : Nat} (h : (a.drewN n).grownBy c r) : a.grownBy c r := ⟨h.os, h.tape, h.output, h.size, h.block⟩
theorem grown_refl (a : World) (r : Option Nat) : a.grownBy a r := ⟨rfl, rfl, rfl, Nat.le_refl _, fun _ _ _ => rfl⟩

set_option maxHeartbeats 400000 in
theorem markInt64S_gen (B : Nat) (A : Option Addr) (n c d : Nat) (L : List Int) (k : Int) (w : World) (hO : Own B w A n c L) (hn : n ≤ 1048576) (hk0 : 0 ≤ k) (hk1 : k ≤ 1000000000000) :
    Calls Try.prog 57 #[.slice A n d, .int .i64 k] w fun e w' => e = .returned (.int .i64 (k + n)) ∧ Own B w' A n c (iotaL k n) ∧ w.grownBy w' (Value.slice A n c).ownBlock := by
  have HL := Lib.hid hO.len
  rcases hO.form with ⟨rfl, rfl, rfl⟩ | ⟨g, rfl, hB, hg⟩
  · go_enter Try.func57, Try.ntmps57
    go_wp2
    refine wp_loop_rounds 1 ?_
    rw [rounds_succ]
    go_wp2
    go_ret
    have e : L = [] := List.eq_nil_of_length_eq_zero HL.out
    subst e
    exact ⟨ret_int (by omega), hO, grown_refl _ _⟩
  · have HO := Lib.hid hO
    clear hO
    go_enter Try.func57, Try.ntmps57
    go_wp2
    go_loopw [1, 5] (fun m i wr => ∃ j : Nat, j ≤ n ∧ i = .int .i64 j ∧ m = .int .i64 (k + j) ∧ Own B wr (some ⟨g, 0, none⟩) n c (mixL k L j) ∧ w.grownBy wr (some g)) (fun _ i _ => n - (intOf i).toNat)
    case atStart => exact ⟨0, Nat.zero_le _, rfl, by simp, by rw [mixL_zero]; exact HO.out, grown_refl _ _⟩
    case round =>
      obtain ⟨j, hj, rfl, rfl, hown, hgr⟩ := hrel
      by_cases hlt : j < n
      · obtain ⟨ad, had, _, hc⟩ := hown.ints j (by rw [mixL_len _ _ _ (by rw [HL.out]; omega), HL.out]; exact hlt)
        injection had with had
        subst had
        have hc' : ∃ u, wr.cell? ⟨g, j, none⟩ = some u := ⟨_, by rw [World.ownsRow.cellAt hown j (by omega), List.getElem?_eq_getElem (by simp [mixL_len _ _ _ (show j ≤ L.length by rw [HL.out]; omega), HL.out]; exact hlt)]⟩
        obtain ⟨u, hcu⟩ := hc'
        have hfz := World.ownsRow.frozenAt hown j
        have HOW := Lib.hid hown
        clear hown hc
        go_wp2
        go_roundw
        case rel =>
          obtain ⟨s1, s2⟩ := World.ownsRow.stored HOW.out j (.int .i64 (k + j))
          rw [mixL_step k L (by rw [HL.out]; exact hlt)] at s1
          exact ⟨j + 1, by omega, by go_num, by go_num, s1, grown_trans hgr s2⟩
        case measure => simp [intOf]; omega
      · obtain rfl : j = n := by omega
        go_wp2
        go_ret
        refine ⟨rfl, ?_, hgr⟩
        have := mixL_all k L
        rw [HL.out] at this
        rwa [this] at hown

theorem markInt64S_calls (B : Nat) (A : Option Addr) (n c : Nat) (L : List Int) (k : Int) (w : World) (hO : Own B w A n c L) (hn : n ≤ 1048576) (hk0 : 0 ≤ k) (hk1 : k ≤ 1000000000000) :
    Calls Try.prog 57 #[.slice A n c, .int .i64 k] w fun e w' => e = .returned (.int .i64 (k + n)) ∧ Own B w' A n c (iotaL k n) ∧ w.grownBy w' (Value.slice A n c).ownBlock :=
  markInt64S_gen B A n c c L k w hO hn hk0 hk1

theorem markState_calls (B : Nat) (A : Option Addr) (n c : Nat) (p : Int) (L : List Int) (k : Int) (w : World) (hO : Own B w A n c L) (hn : n ≤ 1048576) (hk0 : 0 ≤ k) (hk1 : k ≤ 1000000000000) :
    Calls Try.prog 31 #[.agg #[.int .i64 p, .slice A n c], .int .i64 k] w fun e w' => e = .returned (.int .i64 (k + n)) ∧ Own B w' A n c (iotaL k n) ∧ w.grownBy w' (Value.slice A n c).ownBlock := by
  go_enter Try.func31, Try.ntmps31
  go_wp2_with fail
  refine (markInt64S_calls B A n c L k _ (hO.below ((Below.refl _ _).alloc (Nat.le_refl _) _)) hn hk0 hk1).mono ?_
  rintro e w1 ⟨rfl, hO1, hg1⟩
  have HO := Lib.hid hO1
  have HG := Lib.hid hg1
  clear hO1 hg1
  go_wp2
  go_ret
  exact ⟨rfl, HO.out, ⟨HG.out.os, HG.out.tape, HG.out.output, Nat.le_trans (by simp) HG.out.size, fun i hi hne => (HG.out.block i (by simp; omega) hne).trans (Below.heap_alloc w _ i hi)⟩⟩

/-- A state and a code are the answer; the state's list lies in the call's own memory. -/
def RetState (w : World) (P : Int) (n : Nat) (L : List Int) (E : Int) (e : Ending) (w' : World) : Prop :=
  ∃ A c, e = .returned (.tuple #[.agg #[.int .i64 P, .slice A n c], .int .i64 E]) ∧ Own w.heap.size w' A n c L ∧ Below w.heap.size w w'

theorem own_bk {B : Nat} {w : World} {A : Option Addr} {n c : Nat} {L : List Int} (h : Own B w A n c L) : ∀ k, (Value.slice A n c).ownBlock = some k → B ≤ k := by
  intro k hk
  rcases h.form with ⟨rfl, rfl, rfl⟩ | ⟨g, rfl, hB, _⟩
  · simp [Value.ownBlock] at hk
  · simp only [Value.ownBlock, Option.some.injEq] at hk
    omega
/-- Two lists of which the one came later. -/
theorem own_apart {B B' : Nat} {w w' : World} {A A' : Option Addr} {n c n' c' : Nat} {L L' : List Int} (h : Own B w A n c L) (h' : Own B' w' A' n' c' L') (hB : w.heap.size ≤ B') :
    ∀ g, A = some ⟨g, 0, none⟩ → (Value.slice A' n' c').ownBlock ≠ some g := by
  intro g hg e
  subst hg
  rcases h.form with ⟨h1, _⟩ | ⟨g1, h1, _, hlt⟩
  · cases h1
  · injection h1 with h1
    injection h1 with h1
    subst h1
    have := own_bk h' _ e
    omega

/-- A list of integers and a code are the answer; the list lies in the call's own memory. -/
def RetInts (w : World) (n : Nat) (L : List Int) (E : Int) (e : Ending) (w' : World) : Prop :=
  ∃ A c, e = .returned (.tuple #[.slice A n c, .int .i64 E]) ∧ Own w.heap.size w' A n c L ∧ Below w.heap.size w w'

theorem retInts_zero {w w' : World} {e : Ending} {E : Int} (he : e = .returned (.tuple #[.slice none 0 0, .int .i64 E])) (hb : Below w.heap.size w w') : RetInts w ([] : List Int).length [] E e w' :=
  ⟨none, 0, he, Own.nilS _ _, hb⟩

end Go.Proofs.Ytbcgomimfgggnaa

namespace Go.Proofs.Ytbcgomimfgggnaa
open Go.RowKit
set_option linter.unusedVariables false
set_option maxRecDepth 100000

/-- Bytes that lie at the address. -/
def By (w : World) (A : Option Addr) (n : Nat) : Prop :=
  ∀ k, k < n → ∃ ad : Addr, A = some ad ∧ ad.block < w.heap.size ∧ ∃ b : Nat, b < 256 ∧ w.cell? (ad.add k) = some (.int .u8 b)
theorem By.below {w w' : World} {A : Option Addr} {n : Nat} (h : By w A n) (hb : Below w.heap.size w w') : By w' A n := by
  intro k hk
  obtain ⟨ad, rfl, hlt, b, hl, hc⟩ := h k hk
  exact ⟨ad, rfl, Nat.lt_of_lt_of_le hlt hb.size, b, hl, (hb.cell (p := ad.add k) (by rw [add_block]; exact hlt)).trans hc⟩
theorem By.belowAt {B : Nat} {w w' : World} {A : Option Addr} {n : Nat} (h : By w A n) (hA : ∀ ad, A = some ad → 0 < n → ad.block < B) (hb : Below B w w') : By w' A n := by
  intro k hk
  obtain ⟨ad, rfl, hlt, b, hl, hc⟩ := h k hk
  exact ⟨ad, rfl, Nat.lt_of_lt_of_le hlt hb.size, b, hl, (hb.cell (p := ad.add k) (by rw [add_block]; exact hA _ rfl (by omega))).trans hc⟩

/-- The source of drawn numbers in block g: a code that lies ahead of it, a place in it, a number. -/
def Src (w : World) (g : Nat) (A : Option Addr) (n c : Nat) : Prop :=
  ∃ k h : Nat, k ≤ n ∧ h < 18446744073709551616 ∧ Box w g 120 #[.slice A n c, .int .i64 k, .int .u64 h] ∧ By w A n ∧ ∀ ad, A = some ad → 0 < n → ad.block < g
theorem Src.below {w w' : World} {g : Nat} {A : Option Addr} {n c : Nat} (h : Src w g A n c) (hb : Below w.heap.size w w') : Src w' g A n c := by
  obtain ⟨k, x, hk, hx, hB, hA, hl⟩ := h
  exact ⟨k, x, hk, hx, hB.below hb hB.lt, hA.below hb, hl⟩
theorem Src.lt {w : World} {g : Nat} {A : Option Addr} {n c : Nat} (h : Src w g A n c) : g < w.heap.size := by
  obtain ⟨k, x, hk, hx, hB, hA, hl⟩ := h
  exact hB.lt

theorem mask24 (x : Nat) (hx : x < 18446744073709551616) : ∃ y : Nat, y ≤ 16777215 ∧ bits .and .u64 ((x : Int) / 8589934592) 16777215 = y := by
  refine ⟨x / 8589934592 &&& 16777215, Nat.and_le_right, ?_⟩
  rw [show (x : Int) / 8589934592 = ((x / 8589934592 : Nat) : Int) by omega, show (16777215 : Int) = ((16777215 : Nat) : Int) from rfl, bits_and_u64_nat _ _ (by omega) (by omega)]

theorem grown_set (w : World) (g i : Nat) (u : Value) : w.grownBy (w.setCell ⟨g, i, none⟩ u) (some g) :=
  ⟨rfl, rfl, rfl, by simp [World.setCell], fun k _ hk => Below.heap_setCell _ _ _ k (fun e => hk (by rw [e]))⟩
theorem grown_drew {w w' : World} {row : Option Nat} (h : w.grownBy w' row) : w.grownBy w'.drew row := ⟨h.os, h.tape, h.output, h.size, h.block⟩
theorem By.grown {w w' : World} {A : Option Addr} {n g : Nat} (h : By w A n) (hg : w.grownBy w' (some g)) (hA : ∀ ad, A = some ad → 0 < n → ad.block < g) : By w' A n := by
  intro k hk
  obtain ⟨ad, rfl, hlt, b, hl, hc⟩ := h k hk
  refine ⟨ad, rfl, Nat.lt_of_lt_of_le hlt hg.size, b, hl, hg.cell hc ?_⟩
  rw [add_block]
  intro e
  injection e with e
  have := hA _ rfl (by omega)
  omega
theorem wrapu_is (z : Int) : ∃ H : Nat, H < 18446744073709551616 ∧ IntKind.u64.wrap (IntKind.u64.wrap z + 1442695040888963407) = H := by
  rw [IntKind.wrap_u64 (IntKind.u64.wrap z + 1442695040888963407)]
  generalize IntKind.u64.wrap z + 1442695040888963407 = u
  have h0 := Int.emod_nonneg u (show (18446744073709551616 : Int) ≠ 0 by decide)
  have h1 := Int.emod_lt_of_pos u (show (0 : Int) < 18446744073709551616 by decide)
  obtain ⟨H, hH⟩ := Int.eq_ofNat_of_zero_le h0
  exact ⟨H, by rw [hH] at h1; clear hH h0; omega, hH⟩
theorem wrap_small (z : Int) (h0 : 0 ≤ z) (h1 : z ≤ 4294967296) : wrap64 z = z := IntWalk.wrap64_in _ (by omega)
theorem mod_in (z m : Int) (hz : 0 ≤ z) (hm : 1 ≤ m) : 0 ≤ z % m ∧ z % m ≤ z ∧ z % m < m := by
  obtain ⟨a, rfl⟩ := Int.eq_ofNat_of_zero_le hz
  obtain ⟨b, rfl⟩ := Int.eq_ofNat_of_zero_le (show (0 : Int) ≤ m by omega)
  have h1 := Nat.mod_le a b
  exact ⟨Int.emod_nonneg _ (by omega), by exact_mod_cast h1, Int.emod_lt_of_pos _ (by omega)⟩

theorem l01Next_calls (g : Nat) (A : Option Addr) (n c : Nat) (m : Int) (w : World) (hn : n ≤ 4096) (h : Src w g A n c) :
    Calls Try.prog 79 #[.pointer (some ⟨g, 0, none⟩), .int .i64 m] w fun e w' => ∃ x : Int, e = .returned (.int .i64 x) ∧ (0 ≤ x ∧ x ≤ 16777470 ∧ (x < m ∨ x = 0)) ∧ Src w' g A n c ∧ w.grownBy w' (some g) := by
  have hSrc := h
  obtain ⟨k, x, hk, hx, hB, hA, hl⟩ := h
  obtain ⟨c0, c1, c2⟩ := hB.three
  have z0 := hB.frozen 0
  have z1 := hB.frozen 1
  have z2 := hB.frozen 2
  by_cases hm1 : m < 1
  · go_enter Try.func79, Try.ntmps79
    go_wp2
    go_ret
    exact ⟨0, rfl, ⟨by omega, by omega, .inr rfl⟩, hSrc, World.grownBy.refl _ _⟩
  · obtain ⟨H, hH, eH⟩ := wrapu_is ((x : Int) * 6364136223846793005)
    obtain ⟨y, hy, eY⟩ := mask24 H hH
    have e64 : wrap64 (y : Int) = y := wrap_small _ (by clear eY eH hH hx; omega) (by clear eY eH hH hx; omega)
    have EH := Lib.hid eH
    have EY := Lib.hid eY
    have E64 := Lib.hid e64
    have HH := Lib.hid hH
    clear eH eY e64 hH hx
    go_enter Try.func79, Try.ntmps79
    go_wp2
    simp only [EH.out, EY.out, E64.out]
    have hB1 : Box (w.setCell ⟨g, 2, none⟩ (.int .u64 (H : Int))) g 120 #[.slice A n c, .int .i64 k, .int .u64 H] := hB.set 2 _
    have hG1 := grown_set w g 2 (.int .u64 (H : Int))
    have hA1 := hA.grown hG1 hl
    clear c0 c1 c2 z0 z1 z2 hB hA EH EY E64 hSrc
    generalize w.setCell ⟨g, 2, none⟩ (.int .u64 (H : Int)) = w1 at *
    obtain ⟨c0, c1, c2⟩ := hB1.three
    have z1 := hB1.frozen 1
    by_cases hkn : k < n
    · obtain ⟨ad, rfl, hlt, b, hb, hc⟩ := hA1 k hkn
      have hi0 : (0 : Int) ≤ (k : Int) := by omega
      have hi1 : (k : Int) < (n : Int) := by omega
      have E2 := Lib.hid (wrap_small ((y : Int) + b) (by omega) (by omega))
      have E1 := Lib.hid (wrap_small (b : Int) (by omega) (by omega))
      have E3 := Lib.hid (wrap_small ((k : Int) + 1) (by omega) (by omega))
      go_region
      go_wp2
      go_region
      go_wp2
      go_ret
      obtain ⟨t0, t1, t2⟩ := mod_in ((y : Int) + b) m (by omega) (by omega)
      have hG2 := grown_set w1 g 1 (.int .i64 ((k : Int) + 1))
      exact ⟨_, rfl, ⟨t0, by omega, .inl t2⟩, ⟨k + 1, H, hkn, HH.out, hB1.set 1 (.int .i64 ((k : Int) + 1)), hA1.grown (grown_drew (grown_drew hG2)) hl, hl⟩, grown_drew (grown_drew (hG1.trans hG2))⟩
    · have hi1 : ¬ (k : Int) < (n : Int) := by omega
      go_region
      go_wp2
      go_ret
      obtain ⟨t0, t1, t2⟩ := mod_in (y : Int) m (by omega) (by omega)
      exact ⟨_, rfl, ⟨t0, by omega, .inl t2⟩, ⟨k, H, hk, HH.out, hB1, hA1, hl⟩, grown_drew hG1⟩

theorem Src.drews {w : World} {g : Nat} {A : Option Addr} {n c : Nat} (h : Src w g A n c) : Src w.drew g A n c := h

/-- A number that fits 64 bits without a sign. -/
def U64 (h : Int) : Prop := ∃ H : Nat, H < 18446744073709551616 ∧ h = H
theorem u64_wrap (z : Int) : U64 (IntKind.u64.wrap z) := by
  rw [IntKind.wrap_u64]
  have h0 := Int.emod_nonneg z (show (18446744073709551616 : Int) ≠ 0 by decide)
  have h1 := Int.emod_lt_of_pos z (show (0 : Int) < 18446744073709551616 by decide)
  obtain ⟨H, hH⟩ := Int.eq_ofNat_of_zero_le h0
  exact ⟨H, by rw [hH] at h1; clear hH h0; omega, hH⟩
theorem u64_start (n : Nat) (hn : n ≤ 4096) : U64 (13211 + (n : Int)) := ⟨13211 + n, by omega, by omega⟩
theorem box_src {w : World} {g n c k : Nat} {h : Int} {A : Option Addr} (hk : k ≤ n) (hU : U64 h) (hB : Box w g 120 #[.slice A n c, .int .i64 k, .int .u64 h]) (hA : By w A n) (hl : ∀ ad, A = some ad → 0 < n → ad.block < g) : Src w g A n c := by
  obtain ⟨H, hH, rfl⟩ := hU
  exact ⟨k, H, hk, hH, hB, hA, hl⟩
theorem below_set {B : Nat} {a w : World} (h : Below B a w) {g i : Nat} (hg : B ≤ g) (u : Value) : Below B a (w.setCell ⟨g, i, none⟩ u) := h.setCell (show B ≤ (⟨g, i, none⟩ : Addr).block from hg) u

theorem l01From_calls (A : Option Addr) (n c : Nat) (w : World) (hn : n ≤ 4096) (hA : By w A n) (hl : ∀ ad, A = some ad → 0 < n → ad.block < w.heap.size) :
    Calls Try.prog 77 #[.slice A n c] w fun e w' => ∃ g, e = .returned (.pointer (some ⟨g, 0, none⟩)) ∧ w.heap.size ≤ g ∧ Src w' g A n c ∧ Below w.heap.size w w' := by
  have HA := Lib.hid hA
  have HL := Lib.hid hl
  have HU := Lib.hid (u64_start n hn)
  have HN := Lib.hid hn
  clear hA hl hn
  have hN0 : (n : Int) ≤ 4096 := by have := HN.out; omega
  go_enter Try.func77, Try.ntmps77
  go_wp2
  have hB0 := Box.new w 120 #[.slice A n c, .int .i64 0, .int .u64 (13211 + (n : Int))]
  have hb0 : Below w.heap.size w (w.alloc (.cells #[.slice A n c, .int .i64 0, .int .u64 (13211 + (n : Int))] 120)) := (Below.refl _ _).alloc (Nat.le_refl _) _
  go_loopw [4] (fun i wr => ∃ (k : Nat) (h : Int), k ≤ n ∧ Hid (U64 h) ∧ i = .int .i64 (k : Int) ∧ Box wr w.heap.size 120 #[.slice A n c, .int .i64 0, .int .u64 h] ∧ Below w.heap.size w wr) (fun i _ => n - (intOf i).toNat)
  case atStart => exact ⟨0, _, Nat.zero_le _, HU, rfl, hB0, hb0⟩
  case round =>
    obtain ⟨k, h, hk, hU, rfl, hB, hb⟩ := hrel
    obtain ⟨c0, c1, c2⟩ := hB.three
    have z2 := hB.frozen 2
    have hi0 : (0 : Int) ≤ (k : Int) := by omega
    by_cases hkn : k < n
    · obtain ⟨ad, rfl, hlt, b, hb8, hc⟩ := HA.out.below hb k hkn
      have hi1 : (k : Int) < (n : Int) := by omega
      have hi2 : (k : Int) < 4096 := by omega
      go_wp2
      go_region
      go_wp2
      exact ⟨⟨k + 1, _, hkn, Lib.hid (u64_wrap (IntKind.u64.wrap (IntKind.u64.wrap (h * 1099511628211) + (b : Int)) + 139)), rfl, hB.set 2 (.int .u64 (IntKind.u64.wrap (IntKind.u64.wrap (IntKind.u64.wrap (h * 1099511628211) + (b : Int)) + 139))), (below_set hb (Nat.le_refl _) _).drew⟩, by simp only [intOf]; omega⟩
    · have hi1 : ¬ (k : Int) < (n : Int) := by omega
      go_wp2
      go_ret
      exact ⟨_, rfl, Nat.le_refl _, box_src (k := 0) (Nat.zero_le _) hU.out hB (HA.out.below hb) HL.out, hb⟩

theorem Ints.grown {w w' : World} {A : Option Addr} {L : List Int} {g : Nat} (h : Ints w A L) (hg : w.grownBy w' (some g)) (hA : ∀ ad, A = some ad → ad.block ≠ g) : Ints w' A L := by
  intro k hk
  obtain ⟨ad, rfl, hlt, hc⟩ := h k hk
  refine ⟨ad, rfl, Nat.lt_of_lt_of_le hlt hg.size, hg.cell hc ?_⟩
  rw [add_block]
  intro e
  injection e with e
  exact hA _ rfl e

theorem l01Pick_calls (g : Nat) (A : Option Addr) (n c : Nat) (A' : Option Addr) (m c' : Nat) (L : List Int) (w : World) (hn : n ≤ 4096) (hm0 : 1 ≤ m) (hm : m ≤ 1048576) (hL : L.length = m) (hI : Ints w A' L) (hne : ∀ ad, A' = some ad → ad.block ≠ g) (h : Src w g A n c) :
    Calls Try.prog 93 #[.pointer (some ⟨g, 0, none⟩), .slice A' m c'] w fun e w' => ∃ x : Int, e = .returned (.int .i64 x) ∧ x ∈ L ∧ Src w' g A n c ∧ w.grownBy w' (some g) := by
  have HI := Lib.hid hI
  have HL := Lib.hid hL
  have HE := Lib.hid hne
  clear hI hL hne
  go_enter Try.func93, Try.ntmps93
  go_wp2_with fail
  refine (l01Next_calls g A n c (m : Int) _ hn h).mono ?_
  rintro e w1 ⟨x, rfl, hx, hS, hG⟩
  obtain ⟨j, rfl⟩ := Int.eq_ofNat_of_zero_le hx.1
  have hj : j < m := by omega
  obtain ⟨ad, rfl, hlt, hc⟩ := (HI.out.grown hG HE.out) j (by rw [HL.out]; exact hj)
  have hi0 : (0 : Int) ≤ (j : Int) := by omega
  have hi1 : (j : Int) < (m : Int) := by omega
  obtain ⟨v, hv, hmem⟩ : ∃ v, v = L.getD j 0 ∧ v ∈ L := ⟨_, rfl, by rw [List.getD_eq_getElem?_getD, List.getElem?_eq_getElem (by rw [HL.out]; exact hj)]; exact List.getElem_mem _⟩
  rw [← hv] at hc
  have HM := Lib.hid hmem
  clear hv hmem
  go_wp2
  go_ret
  exact ⟨v, rfl, HM.out, hS, hG⟩

theorem ints_new (w : World) (t : Nat) (L : List Int) : Ints (w.alloc (.cells (L.map (Value.int .i64)).toArray t)) (some ⟨w.heap.size, 0, none⟩) L := by
  intro k hk
  refine ⟨_, rfl, by simp, ?_⟩
  have e : (⟨w.heap.size, 0, none⟩ : Addr).add k = ⟨w.heap.size, k, none⟩ := by
    unfold Addr.add
    split
    · next h0 => rw [h0]
    · simp
  rw [e, (Box.new w t _).cell k]
  simp [hk]
theorem Src.alloc {w : World} {g : Nat} {A : Option Addr} {n c : Nat} (h : Src w g A n c) (o : Obj) : Src (w.alloc o) g A n c := h.below ((Below.refl _ _).alloc (Nat.le_refl _) _)

/-- A number near the range to m, or one of four outside of it. -/
def NearIs (m x : Int) : Prop := (0 ≤ x ∧ x ≤ m) ∨ x = -1 ∨ x = m + 1 ∨ x = 1099511627776 ∨ x = -4611686018427387904
theorem near_pick {m x : Int} (h : x ∈ [-1, m + 1, 1099511627776, -4611686018427387904]) : NearIs m x := by
  simp only [List.mem_cons, List.not_mem_nil, or_false] at h
  exact .inr h

/-- What a call that draws leaves: all below the source's block as it was. -/
theorem grown_below {w w' : World} {g B : Nat} (h : w.grownBy w' (some g)) (hB : B ≤ g) (hw : B ≤ w.heap.size) : Below B w w' :=
  ⟨h.os, h.tape, h.output, h.size, fun k hk => h.block k (Nat.lt_of_lt_of_le hk hw) (fun e => by injection e with e; omega)⟩
def wf64 (x : Int) : Prop := -9223372036854775808 ≤ x ∧ x ≤ 9223372036854775807
theorem near_wf {m x : Int} (h : NearIs m x) (hm : 0 ≤ m ∧ m ≤ 4294967295) : wf64 x := by
  unfold NearIs at h
  unfold wf64
  omega
theorem wf_small {x : Int} {P : Prop} (h : 0 ≤ x ∧ x ≤ 16777470 ∧ P) : wf64 x := by
  unfold wf64
  omega

end Go.Proofs.Ytbcgomimfgggnaa

namespace Go.Proofs.Ytbcgomimfgggnaa
open Go.ChangeShapes Go.WideShapes Go.ChangeAt Go.RowKit Go.Joins
set_option linter.unusedVariables false
set_option maxRecDepth 100000

theorem cellsU8 : Try.prog.cellsOf 5 = 1 := by kernel_rfl
theorem u8_of {n : Int} (h : (Lit.int .u8 n).wf = true) : ∃ b : Nat, b < 256 ∧ n = b := by
  have h2 := bounds_u8 h
  exact ⟨n.toNat, by omega, by omega⟩
theorem open_slice_bytes {H : Type} {enc : TypeId × Value → H} {W : World} {fuel : Nat} {v : Value} {x : DataW H × List MemPlace}
    (hf : DataW.trod enc Try.prog W 0 (fun _ => true) true fuel 22 [v] = some x) :
    ∃ (A : Option Addr) (n c : Nat), v = .slice A n c ∧ By W A n ∧ ∀ ad, A = some ad → 0 < n → ad.block < W.heap.size := by
  rcases open_ints Try.underlying22 Try.underlying5 cellsU8 hf with ⟨hcs, _⟩ | ⟨a, l, c, zs, hcs, _, hl, hm, hz, _, hcell, hwz⟩
  · simp only [List.cons.injEq, and_true] at hcs
    exact ⟨none, 0, 0, hcs, fun k hk => by omega, fun ad e => by cases e⟩
  · simp only [List.cons.injEq, and_true] at hcs
    simp only [if_true] at hz
    have each : ∀ k, k < l → ∃ b : Nat, b < 256 ∧ W.cell? (a.add k) = some (.int .u8 b) := by
      intro k hk
      have h := hcell k (by omega)
      obtain ⟨b, hb, e⟩ := u8_of (hwz (zs.getD k 0) (by rw [List.getD_eq_getElem?_getD, List.getElem?_eq_getElem (by omega)]; exact List.getElem_mem _))
      rw [e] at h
      exact ⟨b, hb, h⟩
    refine ⟨some a, l, c, hcs, fun k hk => ?_, fun ad e h0 => ?_⟩
    · obtain ⟨b, hb, h⟩ := each k hk
      exact ⟨a, rfl, by have := block_of_cell h; rwa [add_block] at this, b, hb, h⟩
    · injection e with e
      subst e
      obtain ⟨b, hb, h⟩ := each 0 h0
      have := block_of_cell h
      rwa [add_block] at this

end Go.Proofs.Ytbcgomimfgggnaa

namespace Go.Proofs.Ytbcgomimfgggnaa
open Go.RowKit
set_option linter.unusedVariables false
set_option maxRecDepth 100000

theorem big_yes (A : Option Addr) (n c : Nat) (w : World) (hn : 4096 < n) :
    Calls Try.prog 6 #[.slice A n c] w fun e w' => e = .returned (.bool true) ∧ w = w' := by
  have h : (4096 : Int) < (n : Int) := by omega
  go_enter Try.func6, Try.ntmps6
  go_wp2
  go_ret
  exact ⟨ret_bool (by first | (simp; done) | (simp; omega)), rfl⟩
theorem big_no (A : Option Addr) (n c : Nat) (w : World) (hn : n ≤ 4096) :
    Calls Try.prog 6 #[.slice A n c] w fun e w' => e = .returned (.bool false) ∧ w = w' := by
  have h : ¬ (4096 : Int) < (n : Int) := by omega
  go_enter Try.func6, Try.ntmps6
  go_wp2
  go_ret
  exact ⟨ret_bool (by first | (simp; done) | (simp; omega)), rfl⟩

set_option maxHeartbeats 400000 in
theorem likeInts_calls (A A' : Option Addr) (n c n' c' : Nat) (L L' : List Int) (w : World) (hL : L.length = n) (hL' : L'.length = n') (hn : n ≤ 1048576) (hn' : n' ≤ 1048576) (hI : Ints w A L) (hI' : Ints w A' L') :
    Calls Try.prog 46 #[.slice A n c, .slice A' n' c'] w fun e w' => e = .returned (.bool (decide (L = L'))) ∧ ∃ m, w' = w.drewN m := by
  have HL : Hid (L.length = n) := hL
  have HL' : Hid (L'.length = n') := hL'
  clear hL hL'
  by_cases hne : n = n'
  · subst hne
    go_enter Try.func46, Try.ntmps46
    go_wp2
    go_loopw [5] (fun i wr => ∃ k : Nat, k ≤ n ∧ i = .int .i64 k ∧ (∀ j, j < k → L.getD j 0 = L'.getD j 0) ∧ ∃ m, wr = w.drewN m) (fun i _ => n - (intOf i).toNat)
    case atStart => exact ⟨0, Nat.zero_le _, rfl, fun j hj => absurd hj (by omega), 0, rfl⟩
    case round =>
      obtain ⟨k, hk, rfl, hsame, m, rfl⟩ := hrel
      have HS := Lib.hid hsame
      clear hsame
      by_cases hlt : k < n
      · obtain ⟨ad, rfl, had, hc⟩ := hI k (by rw [HL.out]; exact hlt)
        obtain ⟨ad', rfl, had', hc'⟩ := hI' k (by rw [HL'.out]; exact hlt)
        go_wp2_with fail
        go_quiet (fail)
        go_wp2
        · have hd : (L[k]?.getD 0 != L'[k]?.getD 0) = true := by assumption
          go_ret
          exact ⟨ret_bool (by
            symm
            rw [decide_eq_false_iff_not]
            rintro rfl
            simp at hd), by first | exact ⟨_, rfl⟩ | exact ⟨_, World.drewN_drewN _ _ _⟩⟩
        · have hd : (L[k]?.getD 0 != L'[k]?.getD 0) = false := by assumption
          go_roundw
          case rel => exact ⟨k + 1, by omega, by go_num, fun j hj => by
            by_cases hjk : j = k
            · subst hjk; simpa using hd
            · exact HS.out j (by omega), by first | exact ⟨_, rfl⟩ | exact ⟨_, World.drewN_drewN _ _ _⟩⟩
          case measure => simp [intOf]; omega
      · obtain rfl : k = n := by omega
        go_wp2
        go_ret
        exact ⟨ret_bool (by
          symm
          rw [decide_eq_true_iff]
          exact list_ext HL.out HL'.out HS.out), _, rfl⟩
  · have hd : ((n : Int) != (n' : Int)) = true := by simp; omega
    go_enter Try.func46, Try.ntmps46
    go_wp2
    go_ret
    exact ⟨ret_bool (list_ne_len HL.out HL'.out hne).symm, 0, rfl⟩


/-- The sum of the first k, as the machine adds. -/
def wsum (L : List Int) : Nat → Int
  | 0 => 0
  | k + 1 => wrap64 (wsum L k + L.getD k 0)

end Go.Proofs.Ytbcgomimfgggnaa

namespace Go.Proofs.Ytbcgomimfgggnaa
open Go.RowKit
set_option linter.unusedVariables false
set_option maxRecDepth 100000

def inB (a lo hi : Int) : Bool := decide (lo ≤ a ∧ a ≤ hi)

theorem ret_in {a lo hi : Int} {b : Bool} (h : b = decide (lo ≤ a ∧ a ≤ hi)) : Ending.returned (.bool b) = .returned (.bool (inB a lo hi)) := by rw [h]; rfl

def pegB (k peg : Int) : Bool := decide (0 ≤ peg ∧ peg < k)

theorem ret_peg {k peg : Int} {b : Bool} (h : b = decide (0 ≤ peg ∧ peg < k)) : Ending.returned (.bool b) = .returned (.bool (pegB k peg)) := by rw [h]; rfl

/-- k^n, as an Int. -/
def powI (k : Int) : Nat → Int
  | 0 => 1
  | n + 1 => powI k n * k

theorem powI_bd (k : Int) (h3 : 3 ≤ k) (h5 : k ≤ 5) : ∀ n, n ≤ 8 → 1 ≤ powI k n ∧ powI k n ≤ 390625 := by
  have hk : k = 3 ∨ k = 4 ∨ k = 5 := by omega
  intro n hn
  have hn' : n = 0 ∨ n = 1 ∨ n = 2 ∨ n = 3 ∨ n = 4 ∨ n = 5 ∨ n = 6 ∨ n = 7 ∨ n = 8 := by omega
  rcases hk with rfl | rfl | rfl <;> rcases hn' with rfl | rfl | rfl | rfl | rfl | rfl | rfl | rfl | rfl <;> decide

theorem inB_yes {a lo hi : Int} (h1 : lo ≤ a) (h2 : a ≤ hi) : inB a lo hi = true := by unfold inB; simp; omega

theorem inB_no {a lo hi : Int} (h : ¬ (lo ≤ a ∧ a ≤ hi)) : inB a lo hi = false := by unfold inB; simp; omega

def fitsB (k n : Int) : Bool := decide (3 ≤ k ∧ k ≤ 5 ∧ 0 ≤ n ∧ n ≤ 8 ∧ powI k n.toNat ≤ 6561)

theorem ret_fits {k n : Int} {b : Bool} (h : b = decide (3 ≤ k ∧ k ≤ 5 ∧ 0 ≤ n ∧ n ≤ 8 ∧ powI k n.toNat ≤ 6561)) : Ending.returned (.bool b) = .returned (.bool (fitsB k n)) := by rw [h]; rfl

def stateB (p : Int) (L : List Int) : Bool := fitsB p L.length && L.all (fun x => inB x 0 (p - 1))

theorem fitsB_bd {k n : Int} (h : fitsB k n = true) : 3 ≤ k ∧ k ≤ 5 ∧ 0 ≤ n ∧ n ≤ 8 := by unfold fitsB at h; simp at h; omega

/-- All of the first k are in range. -/
def allTo (p : Int) (L : List Int) (k : Nat) : Prop := ∀ j, j < k → inB (L.getD j 0) 0 (p - 1) = true

theorem stateB_yes {p : Int} {L : List Int} (hf : fitsB p L.length = true) (h : allTo p L L.length) : stateB p L = true := by
  unfold stateB
  rw [hf, Bool.true_and, List.all_eq_true]
  intro x hx
  obtain ⟨i, hi, rfl⟩ := List.getElem_of_mem hx
  have := h i hi
  rwa [List.getD_eq_getElem?_getD, List.getElem?_eq_getElem hi] at this

theorem stateB_no {p : Int} {L : List Int} {k : Nat} (hk : k < L.length) (h : inB (L.getD k 0) 0 (p - 1) = false) : stateB p L = false := by
  unfold stateB
  rw [Bool.and_eq_false_iff]
  right
  rw [List.all_eq_false]
  refine ⟨L[k], List.getElem_mem hk, ?_⟩
  rw [List.getD_eq_getElem?_getD, List.getElem?_eq_getElem hk] at h
  simpa using h

theorem ret_state {p : Int} {L : List Int} {b : Bool} (h : stateB p L = b) : Ending.returned (.bool b) = .returned (.bool (stateB p L)) := by rw [h]

def numOf (k n : Int) : Int := if fitsB k n = true then powI k n.toNat else 0

theorem ret_num {k n v : Int} {b : Bool} (h1 : fitsB k n = b) (h2 : numOf k n = v) : Ending.returned (.tuple #[.int .i64 v, .bool b]) = .returned (.tuple #[.int .i64 (numOf k n), .bool (fitsB k n)]) := by rw [h1, h2]

theorem fitsB_no {k n : Int} (h : ¬ (3 ≤ k ∧ k ≤ 5 ∧ 0 ≤ n ∧ n ≤ 8 ∧ powI k n.toNat ≤ 6561)) : fitsB k n = false := by unfold fitsB; rw [decide_eq_false_iff_not]; exact h

theorem fitsB_yes {k n : Int} (h : 3 ≤ k ∧ k ≤ 5 ∧ 0 ≤ n ∧ n ≤ 8 ∧ powI k n.toNat ≤ 6561) : fitsB k n = true := by unfold fitsB; rw [decide_eq_true_iff]; exact h

theorem numOf_no {k n : Int} (h : fitsB k n = false) : numOf k n = 0 := by unfold numOf; rw [h]; rfl

theorem numOf_yes {k n : Int} (h : fitsB k n = true) : numOf k n = powI k n.toNat := by unfold numOf; rw [if_pos h]

theorem pegB_in {k x : Int} : pegB k x = inB x 0 (k - 1) := by unfold pegB inB; rw [decide_eq_decide]; omega

theorem powI_succ (p : Int) (n : Nat) : powI p (n + 1) = powI p n * p := rfl

theorem powI_pos {p : Int} (hp : 3 ≤ p) : ∀ n, 1 ≤ powI p n
  | 0 => by simp [powI]
  | n + 1 => by
    have h := powI_pos hp n
    rw [powI_succ]
    have := Int.mul_le_mul h (show (1 : Int) ≤ p by omega) (by omega) (by omega)
    omega

theorem powI_mono {p : Int} (hp : 3 ≤ p) {a b : Nat} (h : a ≤ b) : powI p a ≤ powI p b := by
  induction b with
  | zero => obtain rfl : a = 0 := by omega
            exact Int.le_refl _
  | succ b ih =>
    by_cases hab : a = b + 1
    · subst hab; exact Int.le_refl _
    · have h1 := ih (by omega)
      have h2 := powI_pos hp b
      rw [powI_succ]
      have : powI p b * 1 ≤ powI p b * p := Int.mul_le_mul_of_nonneg_left (by omega) (by omega)
      omega

theorem inB_of {a lo hi : Int} (h : inB a lo hi = true) : lo ≤ a ∧ a ≤ hi := by unfold inB at h; simpa using h

theorem stateB_fits {p : Int} {L : List Int} (h : stateB p L = true) : fitsB p L.length = true := by unfold stateB at h; simp only [Bool.and_eq_true] at h; exact h.1

theorem stateB_mem {p : Int} {L : List Int} (h : stateB p L = true) : ∀ x ∈ L, 0 ≤ x ∧ x ≤ p - 1 := by
  unfold stateB at h
  simp only [Bool.and_eq_true, List.all_eq_true] at h
  exact fun x hx => inB_of (h.2 x hx)

theorem fitsB_pow {k n : Int} (h : fitsB k n = true) : powI k n.toNat ≤ 6561 := by unfold fitsB at h; simp at h; omega

/-- What is known of a state's numbers. -/
theorem state_facts {p : Int} {L : List Int} {n : Nat} (h : stateB p L = true) (hL : L.length = n) :
    3 ≤ p ∧ p ≤ 5 ∧ n ≤ 8 ∧ powI p n ≤ 6561 := by
  have hf := stateB_fits h
  have := fitsB_bd hf
  have h2 := fitsB_pow hf
  rw [Int.toNat_natCast, hL] at h2
  omega

theorem state_at {p : Int} {L : List Int} (h : stateB p L = true) (k : Nat) (hk : k < L.length) : 0 ≤ L[k]?.getD 0 ∧ L[k]?.getD 0 ≤ p - 1 := by
  have := stateB_mem h (L[k]) (List.getElem_mem hk)
  rwa [List.getElem?_eq_getElem hk, Option.getD_some]

theorem mul_bd {a b : Int} (h : 0 ≤ a ∧ a ≤ 1000000) (h' : 0 ≤ b ∧ b ≤ 1000000) : 0 ≤ a * b ∧ a * b ≤ 1000000000000 := by
  refine ⟨Int.mul_nonneg h.1 h'.1, ?_⟩
  have := Int.mul_le_mul h.2 h'.2 h'.1 (by omega)
  omega

def codeS (p : Int) (L : List Int) : Int := if stateB p L = true then 0 else 1

theorem ret_two {a b c d : Int} (h : c = a) (h' : d = b) : Ending.returned (.tuple #[.int .i64 a, .int .i64 b]) = .returned (.tuple #[.int .i64 c, .int .i64 d]) := by rw [h, h']

theorem codeS_yes {p : Int} {L : List Int} (h : stateB p L = true) : codeS p L = 0 := by unfold codeS; rw [if_pos h]

theorem codeS_no {p : Int} {L : List Int} (h : stateB p L = false) : codeS p L = 1 := by unfold codeS; rw [h]; rfl

end Go.Proofs.Ytbcgomimfgggnaa

namespace Go.Proofs.Ytbcgomimfgggnaa
open Go.RowKit
set_option linter.unusedVariables false
set_option maxRecDepth 100000

theorem l01In_calls (a lo hi : Int) (w : World) :
    Calls Try.prog 84 #[.int .i64 a, .int .i64 lo, .int .i64 hi] w fun e w' => e = .returned (.bool (inB a lo hi)) ∧ w = w' := by
  by_cases h1 : lo ≤ a
  · by_cases h2 : a ≤ hi
    · go_enter Try.func84, Try.ntmps84
      go_wp2
      go_ret
      exact ⟨ret_in (by simp; omega), rfl⟩
    · go_enter Try.func84, Try.ntmps84
      go_wp2
      go_ret
      exact ⟨ret_in (by simp; omega), rfl⟩
  · go_enter Try.func84, Try.ntmps84
    go_wp2
    go_ret
    exact ⟨ret_in (by simp; omega), rfl⟩

theorem isPeg_calls (k peg : Int) (w : World) :
    Calls Try.prog 75 #[.int .i64 k, .int .i64 peg] w fun e w' => e = .returned (.bool (pegB k peg)) ∧ w = w' := by
  by_cases h1 : 0 ≤ peg
  · by_cases h2 : peg < k
    · go_enter Try.func75, Try.ntmps75
      go_wp2
      go_ret
      exact ⟨ret_peg (by simp; omega), rfl⟩
    · go_enter Try.func75, Try.ntmps75
      go_wp2
      go_ret
      exact ⟨ret_peg (by simp; omega), rfl⟩
  · go_enter Try.func75, Try.ntmps75
    go_wp2
    go_ret
    exact ⟨ret_peg (by simp; omega), rfl⟩

theorem l01Size_calls (k : Int) (n : Nat) (w : World) (h3 : 3 ≤ k) (h5 : k ≤ 5) (hn : n ≤ 8) :
    Calls Try.prog 94 #[.int .i64 k, .int .i64 n] w fun e w' => e = .returned (.int .i64 (powI k n)) ∧ w = w' := by
  go_enter Try.func94, Try.ntmps94
  go_wp2
  go_loop [1, 5] (fun m o => ∃ j : Nat, j ≤ n ∧ m = .int .i64 ((n : Int) - j) ∧ o = .int .i64 (powI k j)) (fun m _ => (intOf m).toNat)
  case atStart => exact ⟨0, Nat.zero_le _, by simp, rfl⟩
  case round =>
    obtain ⟨j, hj, rfl, rfl⟩ := hrel
    have hb := powI_bd k h3 h5 j (by omega)
    by_cases hlt : j < n
    · have hb' : 0 ≤ powI k j * k ∧ powI k j * k ≤ 9000000 := by
        have := powI_bd k h3 h5 (j + 1) (by omega)
        simp only [powI] at this
        omega
      go_wp2
      go_round
      case rel => exact ⟨j + 1, by omega, by go_num, rfl⟩
      case measure => simp [intOf]; omega
    · obtain rfl : j = n := by omega
      go_wp2
      go_ret
      exact ⟨rfl, rfl⟩

theorem l01Fits_calls (k n : Int) (w : World) :
    Calls Try.prog 83 #[.int .i64 k, .int .i64 n] w fun e w' => e = .returned (.bool (fitsB k n)) ∧ w = w' := by
  by_cases hk : 3 ≤ k ∧ k ≤ 5
  · have e1 := inB_yes hk.1 hk.2
    by_cases hn : 0 ≤ n ∧ n ≤ 8
    · have e2 := inB_yes hn.1 hn.2
      obtain ⟨m, rfl⟩ := Int.eq_ofNat_of_zero_le hn.1
      have hb := powI_bd k hk.1 hk.2 m (by omega)
      by_cases hp : powI k m ≤ 6561
      · go_enter Try.func83, Try.ntmps83
        go_wp2_with fail
        refine (l01In_calls k 3 5 _).mono ?_
        rintro e w' ⟨rfl, rfl⟩
        go_wp2_with fail
        refine (l01In_calls m 0 8 _).mono ?_
        rintro e w' ⟨rfl, rfl⟩
        go_wp2_with fail
        refine (l01Size_calls k m _ hk.1 hk.2 (by omega)).mono ?_
        rintro e w' ⟨rfl, rfl⟩
        go_wp2
        go_ret
        exact ⟨ret_fits (by simp; omega), rfl⟩
      · go_enter Try.func83, Try.ntmps83
        go_wp2_with fail
        refine (l01In_calls k 3 5 _).mono ?_
        rintro e w' ⟨rfl, rfl⟩
        go_wp2_with fail
        refine (l01In_calls m 0 8 _).mono ?_
        rintro e w' ⟨rfl, rfl⟩
        go_wp2_with fail
        refine (l01Size_calls k m _ hk.1 hk.2 (by omega)).mono ?_
        rintro e w' ⟨rfl, rfl⟩
        go_wp2
        go_ret
        exact ⟨ret_fits (by symm; rw [decide_eq_decide, Int.toNat_natCast]; omega), rfl⟩
    · have e2 := inB_no hn
      go_enter Try.func83, Try.ntmps83
      go_wp2_with fail
      refine (l01In_calls k 3 5 _).mono ?_
      rintro e w' ⟨rfl, rfl⟩
      go_wp2_with fail
      refine (l01In_calls n 0 8 _).mono ?_
      rintro e w' ⟨rfl, rfl⟩
      go_wp2
      go_ret
      exact ⟨ret_fits (by symm; rw [decide_eq_false_iff_not]; rintro ⟨_, _, h, h', _⟩; exact hn ⟨h, h'⟩), rfl⟩
  · have e1 := inB_no hk
    go_enter Try.func83, Try.ntmps83
    go_wp2_with fail
    refine (l01In_calls k 3 5 _).mono ?_
    rintro e w' ⟨rfl, rfl⟩
    go_wp2
    go_ret
    exact ⟨ret_fits (by symm; rw [decide_eq_false_iff_not]; rintro ⟨h, h', _⟩; exact hk ⟨h, h'⟩), rfl⟩

set_option maxHeartbeats 400000 in
theorem l01Is_calls (A : Option Addr) (n c : Nat) (p : Int) (L : List Int) (w : World) (hL : L.length = n) (hn : n ≤ 1048576) (hI : Ints w A L) :
    Calls Try.prog 59 #[.agg #[.int .i64 p, .slice A n c]] w fun e w' => e = .returned (.bool (stateB p L)) ∧ Below w.heap.size w w' := by
  have HL : Hid (L.length = n) := hL
  clear hL
  by_cases hf : fitsB p n = true
  · have hp := fitsB_bd hf
    go_enter Try.func59, Try.ntmps59
    go_wp2_with fail
    refine (l01Fits_calls p n _).mono ?_
    rintro e w' ⟨rfl, rfl⟩
    go_wp2
    go_loopw [3] (fun i wr => ∃ k : Nat, k ≤ n ∧ i = .int .i64 k ∧ allTo p L k ∧ ∃ m, wr = (w.alloc (.cells #[.int .i64 p, .slice A n c] 30)).drewN m) (fun i _ => n - (intOf i).toNat)
    case atStart => exact ⟨0, Nat.zero_le _, rfl, fun j hj => absurd hj (by omega), 0, rfl⟩
    case round =>
      obtain ⟨k, hk, rfl, hall, m, rfl⟩ := hrel
      have HA := Lib.hid hall
      clear hall
      by_cases hlt : k < n
      · obtain ⟨ad, rfl, had, hc⟩ := (hI.below ((Below.refl _ _).alloc (Nat.le_refl _) (.cells #[.int .i64 p, .slice A n c] 30))) k (by rw [HL.out]; exact hlt)
        have hw : IntKind.i64.wrap (p - 1) = p - 1 := IntWalk.i64_in _ (by omega)
        go_wp2_with fail
        go_quiet ((go_at_call 84; first | exact quietL (l01In_calls _ _ _) | exact quietLa (l01In_calls _ _ _)))
        clear hw
        go_wp2
        · have hd : (!inB (L[k]?.getD 0) 0 (p - 1)) = true := by assumption
          go_ret
          exact ⟨ret_state (stateB_no (k := k) (by rw [HL.out]; exact hlt) (by simpa using hd)), by first | exact belowDraws ((Below.refl _ _).alloc (Nat.le_refl _) _) _ | exact belowDraws (belowDraws ((Below.refl _ _).alloc (Nat.le_refl _) _) _) _⟩
        · have hd : (!inB (L[k]?.getD 0) 0 (p - 1)) = false := by assumption
          go_roundw
          case rel => exact ⟨k + 1, by omega, by go_num, fun j hj => by
            by_cases hjk : j = k
            · subst hjk; simpa using hd
            · exact HA.out j (by omega), by first | exact ⟨_, rfl⟩ | exact ⟨_, World.drewN_drewN _ _ _⟩⟩
          case measure => simp [intOf]; omega
      · obtain rfl : k = n := by omega
        go_wp2
        go_ret
        exact ⟨ret_state (stateB_yes (by rw [HL.out]; exact hf) (by rw [HL.out]; exact HA.out)), belowDraws ((Below.refl _ _).alloc (Nat.le_refl _) _) m⟩
  · have hf' : fitsB p n = false := by simpa using hf
    clear hf
    go_enter Try.func59, Try.ntmps59
    go_wp2_with fail
    refine (l01Fits_calls p n _).mono ?_
    rintro e w' ⟨rfl, rfl⟩
    go_wp2
    go_ret
    exact ⟨ret_state (by unfold stateB; rw [HL.out, hf']; rfl), (Below.refl _ _).alloc (Nat.le_refl _) _⟩

theorem numberOfStates_calls (k n : Int) (w : World) :
    Calls Try.prog 85 #[.int .i64 k, .int .i64 n] w fun e w' => e = .returned (.tuple #[.int .i64 (numOf k n), .bool (fitsB k n)]) ∧ w = w' := by
  by_cases hk : k < 3
  · have hf := fitsB_no (k := k) (n := n) (by omega)
    go_enter Try.func85, Try.ntmps85
    go_wp2
    go_ret2
    exact ⟨ret_num hf (numOf_no hf), rfl⟩
  by_cases hk5 : 5 < k
  · have hf := fitsB_no (k := k) (n := n) (by omega)
    have Hf := Lib.hid hf
    clear hf
    go_enter Try.func85, Try.ntmps85
    go_wp2
    go_ret2
    exact ⟨ret_num Hf.out (numOf_no Hf.out), rfl⟩
  by_cases hn : n < 0
  · have hf := fitsB_no (k := k) (n := n) (by omega)
    have Hf := Lib.hid hf
    clear hf
    go_enter Try.func85, Try.ntmps85
    go_wp2
    go_ret2
    exact ⟨ret_num Hf.out (numOf_no Hf.out), rfl⟩
  by_cases hn8 : 8 < n
  · have hf := fitsB_no (k := k) (n := n) (by omega)
    have Hf := Lib.hid hf
    clear hf
    go_enter Try.func85, Try.ntmps85
    go_wp2
    go_ret2
    exact ⟨ret_num Hf.out (numOf_no Hf.out), rfl⟩
  obtain ⟨m, rfl⟩ := Int.eq_ofNat_of_zero_le (a := n) (by omega)
  have hb := powI_bd k (by omega) (by omega) m (by omega)
  have hfit : Hid (powI k m ≤ 6561 → fitsB k m = true) := fun h => fitsB_yes ⟨by omega, by omega, by omega, by omega, by rw [Int.toNat_natCast]; exact h⟩
  have hun : Hid (¬ powI k m ≤ 6561 → fitsB k m = false) := fun h => fitsB_no (by rintro ⟨_, _, _, _, h'⟩; rw [Int.toNat_natCast] at h'; exact h h')
  go_enter Try.func85, Try.ntmps85
  go_wp2
  go_loop [6, 22] (fun o i => ∃ j : Nat, j ≤ m ∧ i = .int .i64 j ∧ o = .int .i64 (powI k j)) (fun _ i => m - (intOf i).toNat)
  case atStart => exact ⟨0, Nat.zero_le _, rfl, rfl⟩
  case round =>
    obtain ⟨j, hj, rfl, rfl⟩ := hrel
    by_cases hlt : j < m
    · have hb' : 0 ≤ powI k j * k ∧ powI k j * k ≤ 9000000 := by
        have := powI_bd k (by omega) (by omega) (j + 1) (by omega)
        simp only [powI] at this
        omega
      go_wp2
      go_round
      case rel => exact ⟨j + 1, by omega, by go_num, rfl⟩
      case measure => simp [intOf]; omega
    · obtain rfl : j = m := by omega
      by_cases hp : powI k j ≤ 6561
      · go_wp2
        go_ret2
        exact ⟨ret_num (hfit.out hp) (by rw [numOf_yes (hfit.out hp), Int.toNat_natCast]), rfl⟩
      · have hun' := Lib.hid (hun.out (by omega))
        go_wp2
        go_ret2
        exact ⟨ret_num hun'.out (numOf_no hun'.out), rfl⟩

set_option maxHeartbeats 400000 in
theorem implIsState_calls (A : Option Addr) (n c : Nat) (p : Int) (L : List Int) (w : World) (hL : L.length = n) (hn : n ≤ 1048576) (hI : Ints w A L) :
    Calls Try.prog 61 #[.agg #[.int .i64 p, .slice A n c]] w fun e w' => e = .returned (.bool (stateB p L)) ∧ Below w.heap.size w w' := by
  have HL : Hid (L.length = n) := hL
  clear hL
  by_cases hf : fitsB p n = true
  · have hp := fitsB_bd hf
    go_enter Try.func61, Try.ntmps61
    go_wp2_with fail
    refine (numberOfStates_calls p n _).mono ?_
    rintro e w' ⟨rfl, rfl⟩
    go_wp2
    go_loopw [6, 21] (fun _ i wr => ∃ k : Nat, k ≤ n ∧ i = .int .i64 k ∧ allTo p L k ∧ ∃ m, wr = (w.alloc (.cells #[.int .i64 p, .slice A n c] 30)).drewN m) (fun _ i _ => n - (intOf i).toNat)
    case atStart => exact ⟨0, Nat.zero_le _, rfl, fun j hj => absurd hj (by omega), 0, rfl⟩
    case round =>
      obtain ⟨k, hk, rfl, hall, m, rfl⟩ := hrel
      have HA := Lib.hid hall
      clear hall
      by_cases hlt : k < n
      · obtain ⟨ad, rfl, had, hc⟩ := (hI.below ((Below.refl _ _).alloc (Nat.le_refl _) (.cells #[.int .i64 p, .slice A n c] 30))) k (by rw [HL.out]; exact hlt)
        go_wp2_with fail
        refine (isPeg_calls p (L[k]?.getD 0) _).mono ?_
        rintro e w' ⟨rfl, rfl⟩
        go_wp2
        · have hd : (!pegB p (L[k]?.getD 0)) = true := by assumption
          rw [pegB_in] at hd
          go_ret
          exact ⟨ret_state (stateB_no (k := k) (by rw [HL.out]; exact hlt) (by simpa using hd)), by first | exact belowDraws ((Below.refl _ _).alloc (Nat.le_refl _) _) _ | exact belowDraws (belowDraws ((Below.refl _ _).alloc (Nat.le_refl _) _) _) _⟩
        · have hd : (!pegB p (L[k]?.getD 0)) = false := by assumption
          rw [pegB_in] at hd
          go_roundw
          case rel => exact ⟨k + 1, by omega, by go_num, fun j hj => by
            by_cases hjk : j = k
            · subst hjk; simpa using hd
            · exact HA.out j (by omega), by first | exact ⟨_, rfl⟩ | exact ⟨_, World.drewN_drewN _ _ _⟩⟩
          case measure => simp [intOf]; omega
      · obtain rfl : k = n := by omega
        go_wp2
        go_ret
        exact ⟨ret_state (stateB_yes (by rw [HL.out]; exact hf) (by rw [HL.out]; exact HA.out)), belowDraws ((Below.refl _ _).alloc (Nat.le_refl _) _) m⟩
  · have hf' : fitsB p n = false := by simpa using hf
    clear hf
    go_enter Try.func61, Try.ntmps61
    go_wp2_with fail
    refine (numberOfStates_calls p n _).mono ?_
    rintro e w' ⟨rfl, rfl⟩
    go_wp2
    go_ret
    exact ⟨ret_state (by unfold stateB; rw [HL.out, hf']; rfl), (Below.refl _ _).alloc (Nat.le_refl _) _⟩

end Go.Proofs.Ytbcgomimfgggnaa

namespace Go.Proofs.Ytbcgomimfgggnaa
open Go.RowKit
set_option linter.unusedVariables false
set_option maxRecDepth 100000

/-- The peg to which the next lesser disc has to go, behind all discs of the list from the last one on. -/
def aft : List Int → Int → Int
  | [], a => a
  | x :: r, a => if x = aft r a then aft r a else 3 - aft r a - x
/-- The goals of the discs. -/
def goalsL : List Int → Int → List Int
  | [], _ => []
  | _ :: r, a => aft r a :: goalsL r a
theorem goalsL_len (L : List Int) (a : Int) : (goalsL L a).length = L.length := by
  induction L with
  | nil => rfl
  | cons x r ih => simp [goalsL, ih]
theorem goalsL_at (L : List Int) (a : Int) : ∀ d, d < L.length → (goalsL L a)[d]?.getD 0 = aft (L.drop (d + 1)) a := by
  induction L with
  | nil => intro d hd; simp at hd
  | cons x r ih =>
    intro d hd
    cases d with
    | zero => simp [goalsL]
    | succ d => simpa [goalsL] using ih d (by simpa using hd)
theorem aft_step (L : List Int) (a : Int) {d : Nat} (h : d < L.length) : aft (L.drop d) a = if L[d]?.getD 0 = aft (L.drop (d + 1)) a then aft (L.drop (d + 1)) a else 3 - aft (L.drop (d + 1)) a - L[d]?.getD 0 := by
  rw [List.drop_eq_getElem_cons h, List.getElem?_eq_getElem h]
  rfl
def pegsOk (L : List Int) : Prop := ∀ x ∈ L, 0 ≤ x ∧ x ≤ 2
theorem pegsOk_at {L : List Int} (h : pegsOk L) {d : Nat} (hd : d < L.length) : 0 ≤ L[d]?.getD 0 ∧ L[d]?.getD 0 ≤ 2 := by
  rw [List.getElem?_eq_getElem hd]
  exact h _ (List.getElem_mem hd)
theorem pegsOk_take {L : List Int} (h : pegsOk L) (d : Nat) : pegsOk (L.take d) := fun x hx => h x (List.mem_of_mem_take hx)
theorem aft_bd (L : List Int) (a : Int) (h : pegsOk L) (ha : 0 ≤ a ∧ a ≤ 2) : 0 ≤ aft L a ∧ aft L a ≤ 2 := by
  induction L with
  | nil => exact ha
  | cons x r ih =>
    have ih := ih (fun y hy => h y (List.mem_cons_of_mem _ hy))
    have hx := h x (by simp)
    unfold aft
    split <;> omega
theorem pegsOk_drop {L : List Int} (h : pegsOk L) (d : Nat) : pegsOk (L.drop d) := fun x hx => h x (List.mem_of_mem_drop hx)
theorem goalsL_bd (L : List Int) (a : Int) (h : pegsOk L) (ha : 0 ≤ a ∧ a ≤ 2) {d : Nat} (hd : d < L.length) : 0 ≤ (goalsL L a)[d]?.getD 0 ∧ (goalsL L a)[d]?.getD 0 ≤ 2 := by
  rw [goalsL_at L a d hd]
  exact aft_bd _ _ (pegsOk_drop h _) ha

/-- The row while it is filled from its end on: noughts below m. -/
def downto (G : List Int) (m j : Nat) : Value := if j < m then .int .i64 0 else .int .i64 (G.getD j 0)
theorem downto_step (G : List Int) (k : Nat) : ∀ j, (if j = k then Value.int .i64 (G[k]?.getD 0) else downto G (k + 1) j) = downto G k j := by
  intro j
  unfold downto
  by_cases h : j = k
  · subst h; simp
  · rw [if_neg h]
    by_cases h2 : j < k
    · rw [if_pos (by omega), if_pos h2]
    · rw [if_neg (by omega), if_neg h2]

/-- The sum of 2^d over the first k places at which the lists differ. -/
def pow2 (k : Nat) : Int := ((2 ^ k : Nat) : Int)
theorem pow2_zero : pow2 0 = 1 := rfl
theorem pow2_succ (k : Nat) : pow2 (k + 1) = 2 * pow2 k := by unfold pow2; rw [Nat.pow_succ]; omega
theorem pow2_bd {k : Nat} (h : k ≤ 8) : 1 ≤ pow2 k ∧ pow2 k ≤ 256 := by
  have : k = 0 ∨ k = 1 ∨ k = 2 ∨ k = 3 ∨ k = 4 ∨ k = 5 ∨ k = 6 ∨ k = 7 ∨ k = 8 := by omega
  rcases this with rfl | rfl | rfl | rfl | rfl | rfl | rfl | rfl | rfl <;> decide
def distTo (L G : List Int) : Nat → Int
  | 0 => 0
  | k + 1 => distTo L G k + if L[k]?.getD 0 = G[k]?.getD 0 then 0 else pow2 k
theorem distTo_bd (L G : List Int) : ∀ k, k ≤ 8 → 0 ≤ distTo L G k ∧ distTo L G k + 1 ≤ pow2 k
  | 0, _ => by simp [distTo, pow2_zero]
  | k + 1, h => by
    have ih := distTo_bd L G k (by omega)
    have hp := pow2_succ k
    have hb := pow2_bd (k := k) (by omega)
    unfold distTo
    split <;> omega
def distP (L : List Int) (a : Int) : Int := distTo L (goalsL L a) L.length
theorem distP_bd (L : List Int) (a : Int) (h : L.length ≤ 8) : 0 ≤ distP L a ∧ distP L a ≤ 255 := by
  have h1 := distTo_bd L (goalsL L a) L.length h
  have h2 := pow2_bd h
  unfold distP
  omega

/-- The greatest one of the first k places at which the lists differ, and -1 if there is none. -/
def grt (L M : List Int) : Nat → Int
  | 0 => -1
  | k + 1 => if L[k]?.getD 0 = M[k]?.getD 0 then grt L M k else k
theorem grt_bd (L M : List Int) : ∀ k, -1 ≤ grt L M k ∧ grt L M k < k
  | 0 => by simp [grt]
  | k + 1 => by
    have := grt_bd L M k
    unfold grt
    split <;> omega
theorem grt_ne (L M : List Int) : ∀ k (d : Nat), grt L M k = d → L[d]?.getD 0 ≠ M[d]?.getD 0
  | 0, d, h => by unfold grt at h; omega
  | k + 1, d, h => by
    unfold grt at h
    split at h
    · exact grt_ne L M k d h
    · next hne =>
      have : k = d := by omega
      subst this
      exact hne
theorem grt_eq (L M : List Int) : ∀ k, grt L M k = -1 → ∀ d, d < k → L[d]?.getD 0 = M[d]?.getD 0
  | 0, _, d, hd => absurd hd (by omega)
  | k + 1, h, d, hd => by
    unfold grt at h
    split at h
    · next he =>
      by_cases hk : d = k
      · subst hk; exact he
      · exact grt_eq L M k h d (by omega)
    · omega

/-- Both numbers at the greatest disc d that differs. -/
def oneN (L M : List Int) (d : Nat) : Int :=
  distP (L.take d) (3 - L[d]?.getD 0 - M[d]?.getD 0) + distP (M.take d) (3 - L[d]?.getD 0 - M[d]?.getD 0) + 1
def twoN (L M : List Int) (d : Nat) : Int :=
  distP (L.take d) (M[d]?.getD 0) + distP (M.take d) (L[d]?.getD 0) + pow2 d + 1
theorem oneN_bd (L M : List Int) {d : Nat} (h : d ≤ 8) : 0 ≤ oneN L M d ∧ oneN L M d ≤ 1000 := by
  have h1 := distP_bd (L.take d) (3 - L[d]?.getD 0 - M[d]?.getD 0) (by simp; omega)
  have h2 := distP_bd (M.take d) (3 - L[d]?.getD 0 - M[d]?.getD 0) (by simp; omega)
  unfold oneN
  omega
theorem twoN_bd (L M : List Int) {d : Nat} (h : d ≤ 8) : 0 ≤ twoN L M d ∧ twoN L M d ≤ 1000 := by
  have h1 := distP_bd (L.take d) (M[d]?.getD 0) (by simp; omega)
  have h2 := distP_bd (M.take d) (L[d]?.getD 0) (by simp; omega)
  have h3 := pow2_bd h
  unfold twoN
  omega

/-- The code of one state and of two states of three pegs. -/
def code1 (p : Int) (L : List Int) : Int := if stateB p L = true then (if p = 3 then 0 else 2) else 1
def code2 (p : Int) (L : List Int) (q : Int) (M : List Int) : Int :=
  if stateB p L = true ∧ stateB q M = true then (if p = 3 ∧ q = 3 ∧ L.length = M.length then 0 else 2) else 1
def codeW (p : Int) (L : List Int) (a : Int) : Int := if code1 p L = 0 then (if inB a 0 2 = true then 0 else 2) else code1 p L
theorem code1_zero {p : Int} {L : List Int} (h : code1 p L = 0) : stateB p L = true ∧ p = 3 := by
  unfold code1 at h
  split at h
  · next h1 =>
    split at h
    · next h2 => exact ⟨h1, h2⟩
    · omega
  · omega
theorem code2_zero {p q : Int} {L M : List Int} (h : code2 p L q M = 0) : stateB p L = true ∧ stateB q M = true ∧ p = 3 ∧ q = 3 ∧ L.length = M.length := by
  unfold code2 at h
  split at h
  · next h1 =>
    split at h
    · next h2 => exact ⟨h1.1, h1.2, h2⟩
    · omega
  · omega
theorem codeW_zero {p a : Int} {L : List Int} (h : codeW p L a = 0) : stateB p L = true ∧ p = 3 ∧ 0 ≤ a ∧ a ≤ 2 := by
  unfold codeW at h
  split at h
  · next h1 =>
    have := code1_zero h1
    split at h
    · next h2 => exact ⟨this.1, this.2, inB_of h2⟩
    · omega
  · next h1 => exact absurd h h1
theorem code1_bd (p : Int) (L : List Int) : 0 ≤ code1 p L ∧ code1 p L ≤ 2 := by unfold code1; split <;> (try split) <;> omega
theorem codeW_bd (p : Int) (L : List Int) (a : Int) : 0 ≤ codeW p L a ∧ codeW p L a ≤ 2 := by
  have := code1_bd p L
  unfold codeW; split <;> (try split) <;> omega
theorem code2_bd (p q : Int) (L M : List Int) : 0 ≤ code2 p L q M ∧ code2 p L q M ≤ 2 := by unfold code2; split <;> (try split) <;> omega
theorem state_pegsOk {L : List Int} (h : stateB 3 L = true) : pegsOk L := fun x hx => by have := stateB_mem h x hx; omega

/-- What both numbers of two states are, and the code. -/
def nbE (p : Int) (L : List Int) (q : Int) (M : List Int) : Int := if code2 p L q M = 0 then (if grt L M L.length = -1 then 5 else 0) else code2 p L q M
def nbOne (p : Int) (L : List Int) (q : Int) (M : List Int) : Int := if nbE p L q M = 0 then oneN L M (grt L M L.length).toNat else 0
def nbTwo (p : Int) (L : List Int) (q : Int) (M : List Int) : Int := if nbE p L q M = 0 then twoN L M (grt L M L.length).toNat else 0

end Go.Proofs.Ytbcgomimfgggnaa
