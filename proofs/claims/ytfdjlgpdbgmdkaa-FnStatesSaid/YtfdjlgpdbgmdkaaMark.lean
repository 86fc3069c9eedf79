/- Contracts: a list that the call owns is marked with numbers, and found to hold them. -/
import Derived.Test.YtfdjlgpdbgmdkaaEq
import Derived.OwnWalk
namespace Go.Proofs.Ytfdjlgpdbgmdkaa
open Go.RowKit
set_option linter.unusedVariables false

/-- A slice of integers in the call's own memory from block B on, or nil. -/
def Own (B : Nat) (w : World) (A : Option Addr) (n c : Nat) (L : List Int) : Prop := w.ownsRow B 2 1 (.slice A n c) n (L.map (Value.int .i64))

section
variable {B : Nat} {w w' : World} {A : Option Addr} {n c : Nat} {L : List Int}
theorem Own.len (h : Own B w A n c L) : L.length = n := by have := h.1; simpa using this
theorem Own.form (h : Own B w A n c L) : (A = none ∧ n = 0 ∧ c = 0) ∨ ∃ g, A = some ⟨g, 0, none⟩ ∧ B ≤ g ∧ g < w.heap.size := by
  rcases h.2 with ⟨hv, hn⟩ | ⟨g, cap, cur, hv, hb, hh, _⟩
  · left
    injection hv with h1 h2 h3
    exact ⟨h1, h2, h3⟩
  · right
    injection hv with h1 h2 h3
    refine ⟨g, h1, hb, ?_⟩
    rcases Nat.lt_or_ge g w.heap.size with hlt | hge
    · exact hlt
    · rw [Array.getElem?_eq_none hge] at hh; cases hh
theorem Own.ints (h : Own B w A n c L) : Ints w A L := by
  intro k hk
  have hl := h.len
  rcases h.form with ⟨rfl, rfl, rfl⟩ | ⟨g, rfl, hb, hlt⟩
  · omega
  · refine ⟨_, rfl, hlt, ?_⟩
    have := World.ownsRow.cellAt h k (by omega)
    have e : (⟨g, 0, none⟩ : Addr).add k = ⟨g, k, none⟩ := by
      unfold Addr.add
      split
      · next h0 => rw [h0]
      · simp
    rw [e, this, List.getElem?_map, List.getElem?_eq_getElem hk]
    simp [hk]
theorem Own.kept {row : Option Nat} (h : Own B w A n c L) (hg : w.grownBy w' row) (hne : ∀ g, A = some ⟨g, 0, none⟩ → row ≠ some g) : Own B w' A n c L := by
  refine World.ownsRow.kept h hg ?_
  rcases h.form with ⟨rfl, rfl, rfl⟩ | ⟨g, rfl, _, _⟩
  · left; rfl
  · right; exact fun e => hne g rfl e.symm
theorem Own.below (h : Own B w A n c L) (hb : Below w.heap.size w w') : Own B w' A n c L :=
  h.kept (row := none) ⟨hb.os, hb.tape, hb.output, hb.size, fun k hk _ => hb.block k hk⟩ (fun g _ => by simp)
theorem Own.mono {B' : Nat} (h : Own B w A n c L) (hB : B' ≤ B) : Own B' w A n c L := by
  refine ⟨h.1, ?_⟩
  rcases h.2 with h2 | ⟨g, cap, cur, h1, h2, h3⟩
  · exact .inl h2
  · exact .inr ⟨g, cap, cur, h1, Nat.le_trans hB h2, h3⟩
theorem Row.own {g : Nat} (h : Row w g 2 L) (hB : B ≤ g) (hm : L.length ≤ 1048576) : Own B w (some ⟨g, 0, none⟩) L.length L.length L := by
  obtain ⟨cs, hb, hs, hc⟩ := h
  refine ⟨by simp, .inr ⟨g, L.length, cs, rfl, hB, hb, Nat.le_refl _, by unfold maxLen; omega, by simpa using hs, ?_⟩⟩
  apply List.ext_getElem?
  intro j
  by_cases hj : j < L.length
  · have := hc j hj
    simp [hj, this]
  · rw [List.getElem?_eq_none (by simp; omega), List.getElem?_eq_none (by simp; omega)]
theorem Own.ne_box {g b t : Nat} {cs : Array Value} (h : Own B w (some ⟨g, 0, none⟩) n c L) (hb : Box w b t cs) (ht : t ≠ 2) : g ≠ b := by
  rintro rfl
  rcases h.2 with ⟨hv, _⟩ | ⟨g', cap, cur, hv, _, hh, _⟩
  · simp at hv
  · injection hv with h1 h2 h3
    injection h1 with h1
    injection h1 with h1
    subst h1
    unfold Box at hb
    rw [hb] at hh
    injection hh with hh
    injection hh with _ hh
    exact ht hh
theorem Own.box_ne {b t : Nat} {cs : Array Value} (h : Own B w A n c L) (hb : Box w b t cs) (ht : t ≠ 2) : some b ≠ (Value.slice A n c).ownBlock := by
  rcases h.form with ⟨rfl, rfl, rfl⟩ | ⟨g, rfl, _, _⟩
  · simp [Value.ownBlock]
  · have := h.ne_box hb ht
    simp only [Value.ownBlock, ne_eq, Option.some.injEq]
    exact fun e => this e.symm
theorem own_shape {v : Value} {xs : List Value} {e s : Nat} (h : w.ownsRow B e s v n xs) : ∃ A c, v = .slice A n c := by
  rcases h.2 with ⟨rfl, rfl⟩ | ⟨g, cap, cur, rfl, _⟩
  · exact ⟨_, _, rfl⟩
  · exact ⟨_, _, rfl⟩
theorem Own.setBox (h : Own B w A n c L) {a : Addr} (ha : ∀ g, A = some ⟨g, 0, none⟩ → g ≠ a.block) (u : Value) : Own B (w.setCell a u) A n c L :=
  h.kept (row := some a.block) ⟨rfl, rfl, rfl, by simp [World.setCell], fun k _ hk => Below.heap_setCell w a u k (fun e => hk (by rw [e]))⟩ (fun g hg e => ha g hg (by injection e with e; exact e.symm))
theorem Own.setBoxed {b t : Nat} {cs : Array Value} (h : Own B w A n c L) (hb : Box w b t cs) (ht : t ≠ 2) (i : Nat) (u : Value) : Own B (w.setCell ⟨b, i, none⟩ u) A n c L :=
  h.setBox (fun g hg => by subst hg; exact h.ne_box hb ht) u
/-- One more has been appended. -/
theorem Own.pushed {w1 : World} {A' : Option Addr} {c' : Nat} {a : Int} (h : Own B w A n c L) (hg : (w.alloc (.cells #[.int .i64 a] 2)).grownBy w1 (Value.slice A n c).ownBlock)
    (ho : w1.ownsRow B 2 1 (.slice A' (n + 1) c') (n + 1) (L.map (Value.int .i64) ++ [.int .i64 a])) :
    Own B w1 A' (n + 1) c' (L ++ [a]) ∧ (∀ b t cs, Box w b t cs → t ≠ 2 → Box w1 b t cs) ∧ w.heap.size + 1 ≤ w1.heap.size ∧ (∀ B0, B0 ≤ B → B0 ≤ w.heap.size → Below B0 w w1) := by
  refine ⟨by unfold Own; simpa using ho, fun b t cs hb ht => (hb.alloc _).grown hg (h.box_ne hb ht), by have := hg.size; simpa using this, fun B0 h1 h2 => ?_⟩
  refine ((Below.refl B0 w).alloc h2 _).grown hg (by simp; omega) (fun k hk => ?_)
  rcases h.form with ⟨rfl, rfl, rfl⟩ | ⟨g, rfl, hB, _⟩
  · simp [Value.ownBlock] at hk
  · simp only [Value.ownBlock, Option.some.injEq] at hk
    omega
theorem Own.nilS (B : Nat) (w : World) : Own B w none 0 0 [] := World.ownsRow_nil _ _ _ _
theorem Own.emptyAt {g : Nat} (hb : Box w g 2 #[]) (hB : B ≤ g) : Own B w (some ⟨g, 0, none⟩) 0 0 [] :=
  ⟨rfl, .inr ⟨g, 0, #[], rfl, hB, hb, Nat.le_refl _, by unfold maxLen; omega, rfl, rfl⟩⟩
end

def iotaL (k : Int) (n : Nat) : List Int := (List.range n).map (fun i => k + (i : Nat))
theorem iotaL_len (k : Int) (n : Nat) : (iotaL k n).length = n := by simp [iotaL]
theorem iotaL_at (k : Int) {n i : Nat} (h : i < n) : (iotaL k n).getD i 0 = k + i := by simp [iotaL, h]
/-- The first i are marked, the others as they were. -/
def mixL (k : Int) (L : List Int) (i : Nat) : List Int := iotaL k i ++ L.drop i
theorem mixL_zero (k : Int) (L : List Int) : mixL k L 0 = L := by simp [mixL, iotaL]
theorem mixL_all (k : Int) (L : List Int) : mixL k L L.length = iotaL k L.length := by simp [mixL]
theorem mixL_len (k : Int) (L : List Int) (i : Nat) (h : i ≤ L.length) : (mixL k L i).length = L.length := by simp [mixL, iotaL_len]; omega
theorem mixL_step (k : Int) (L : List Int) {i : Nat} (h : i < L.length) : ((mixL k L i).map (Value.int .i64)).set i (.int .i64 (k + i)) = (mixL k L (i + 1)).map (Value.int .i64) := by
  rw [← List.map_set]
  congr 1
  apply List.ext_getElem?
  intro j
  have e1 : (iotaL k i).length = i := iotaL_len k i
  have e2 : (iotaL k (i + 1)).length = i + 1 := iotaL_len k (i + 1)
  rw [List.getElem?_set]
  by_cases hj : i = j
  · subst hj
    rw [if_pos rfl, if_pos (by rw [mixL_len _ _ _ (by omega)]; exact h)]
    unfold mixL
    rw [List.getElem?_append_left (by omega)]
    simp [iotaL]
  · rw [if_neg hj]
    unfold mixL
    by_cases hlt : j < i
    · rw [List.getElem?_append_left (by omega), List.getElem?_append_left (by omega)]
      simp [iotaL, hlt, show j < i + 1 by omega]
    · rw [List.getElem?_append_right (by omega), List.getElem?_append_right (by omega), List.getElem?_drop, List.getElem?_drop]
      congr 1
      omega

theorem grown_trans {a b c : World} {g : Nat} (h : a.grownBy b (some g)) (k : b.grownBy c (some g)) : a.grownBy c (some g) :=
  ⟨k.os.trans h.os, k.tape.trans h.tape, k.output.trans h.output, Nat.le_trans h.size k.size, fun i hi hne => (k.block i (Nat.lt_of_lt_of_le hi h.size) hne).trans (h.block i hi hne)⟩
theorem grown_undrew {a c : World} {r : Option Nat} (h : a.drew.grownBy c r) : a.grownBy c r := ⟨h.os, h.tape, h.output, h.size, h.block⟩
theorem grown_undrewN {a c : World} {r : Option Nat} {n : Nat} (h : (a.drewN n).grownBy c r) : a.grownBy c r := ⟨h.os, h.tape, h.output, h.size, h.block⟩
theorem grown_refl (a : World) (r : Option Nat) : a.grownBy a r := ⟨rfl, rfl, rfl, Nat.le_refl _, fun _ _ _ => rfl⟩

/-- A state and a code are the answer; the state's list lies in the call's own memory. -/
def RetState (w : World) (P : Int) (n : Nat) (L : List Int) (E : Int) (e : Ending) (w' : World) : Prop :=
  ∃ A c, e = .returned (.tuple #[.agg #[.int .i64 P, .slice A n c], .int .i64 E]) ∧ Own w.heap.size w' A n c L ∧ Below w.heap.size w w'

theorem own_bk {B : Nat} {w : World} {A : Option Addr} {n c : Nat} {L : List Int} (h : Own B w A n c L) : ∀ k, (Value.slice A n c).ownBlock = some k → B ≤ k := by
  intro k hk
  rcases h.form with ⟨rfl, rfl, rfl⟩ | ⟨g, rfl, hB, _⟩
  · simp [Value.ownBlock] at hk
  · simp only [Value.ownBlock, Option.some.injEq] at hk
    omega
/-- Two lists of which the one came later. -/
theorem own_apart {B B' : Nat} {w w' : World} {A A' : Option Addr} {n c n' c' : Nat} {L L' : List Int} (h : Own B w A n c L) (h' : Own B' w' A' n' c' L') (hB : w.heap.size ≤ B') :
    ∀ g, A = some ⟨g, 0, none⟩ → (Value.slice A' n' c').ownBlock ≠ some g := by
  intro g hg e
  subst hg
  rcases h.form with ⟨h1, _⟩ | ⟨g1, h1, _, hlt⟩
  · cases h1
  · injection h1 with h1
    injection h1 with h1
    subst h1
    have := own_bk h' _ e
    omega

/-- A list of integers and a code are the answer; the list lies in the call's own memory. -/
def RetInts (w : World) (n : Nat) (L : List Int) (E : Int) (e : Ending) (w' : World) : Prop :=
  ∃ A c, e = .returned (.tuple #[.slice A n c, .int .i64 E]) ∧ Own w.heap.size w' A n c L ∧ Below w.heap.size w w'

theorem retInts_zero {w w' : World} {e : Ending} {E : Int} (he : e = .returned (.tuple #[.slice none 0 0, .int .i64 E])) (hb : Below w.heap.size w w') : RetInts w ([] : List Int).length [] E e w' :=
  ⟨none, 0, he, Own.nilS _ _, hb⟩

end Go.Proofs.Ytfdjlgpdbgmdkaa
