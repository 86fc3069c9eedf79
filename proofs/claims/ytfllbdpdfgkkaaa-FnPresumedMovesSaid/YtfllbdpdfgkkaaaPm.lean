/- The presumed lists of moves, as a plain function; words for what a call keeps. -/
import Derived.Test.YtfllbdpdfgkkaaaPnV
import Derived.Test.YtfllbdpdfgkkaaaMvS
namespace Go.Proofs.Ytfllbdpdfgkkaaa
open Go.RowKit
set_option linter.unusedVariables false

/-- The first peg other than two among the first i (-1 if there is none), and the others. -/
def mdT (L : List Int) (u v : Int) : Nat → Int × List Int
  | 0 => (-1, [])
  | i + 1 => if (mdT L u v i).1 < 0 ∧ L[i]?.getD 0 ≠ u ∧ L[i]?.getD 0 ≠ v then (L[i]?.getD 0, (mdT L u v i).2) else ((mdT L u v i).1, (mdT L u v i).2 ++ [L[i]?.getD 0])
/-- The discs that make way. -/
def kPm (q m : Nat) : Nat := if q = 3 then m - 1 else hdF (q - 4) m
/-- The presumed list for m discs from a on, from u to v. -/
def pmL : Nat → Nat → Nat → Int → Int → List Int → List Mv
  | 0, _, _, _, _, _ => []
  | f + 1, a, m, u, v, L =>
    if m = 0 then [] else if m = 1 then [((a : Int), u, v)]
    else pmL f a (kPm L.length m) u (mdT L u v L.length).1 L ++ pmL f (a + kPm L.length m) (m - kPm L.length m) u v (mdT L u v L.length).2 ++ pmL f a (kPm L.length m) (mdT L u v L.length).1 v L
theorem kPm_bd {q m : Nat} (hm : 2 ≤ m) : 1 ≤ kPm q m ∧ kPm q m ≤ m - 1 := by
  unfold kPm
  split
  · omega
  · have := hdF_bd (q := q - 4) (n := m) hm; omega
theorem pmL_len : ∀ f a m u v L, (pmL f a m u v L).length ≤ 3 ^ m
  | 0, _, _, _, _, _ => by simp [pmL]
  | f + 1, a, m, u, v, L => by
    rw [pmL]
    by_cases h0 : m = 0
    · rw [if_pos h0]; simp
    · rw [if_neg h0]
      by_cases h1 : m = 1
      · rw [if_pos h1]; subst h1; simp
      · rw [if_neg h1]
        have hk := kPm_bd (q := L.length) (m := m) (by omega)
        have l1 := pmL_len f a (kPm L.length m) u (mdT L u v L.length).1 L
        have l2 := pmL_len f (a + kPm L.length m) (m - kPm L.length m) u v (mdT L u v L.length).2
        have l3 := pmL_len f a (kPm L.length m) (mdT L u v L.length).1 v L
        have p1 : 3 ^ kPm L.length m ≤ 3 ^ (m - 1) := Nat.pow_le_pow_right (by omega) (by omega)
        have p2 : 3 ^ (m - kPm L.length m) ≤ 3 ^ (m - 1) := Nat.pow_le_pow_right (by omega) (by omega)
        have p3 : 3 ^ m = 3 * 3 ^ (m - 1) := by rw [show m = (m - 1) + 1 by omega, Nat.pow_succ]; simp; omega
        rw [List.length_append, List.length_append]
        omega
theorem pmL_big {f a m : Nat} (hm : m ≤ 8) (u v : Int) (L : List Int) : (pmL f a m u v L).length ≤ 6561 := by
  have h := pmL_len f a m u v L
  have h2 : 3 ^ m ≤ 3 ^ 8 := Nat.pow_le_pow_right (by omega) hm
  have h3 : (3 : Nat) ^ 8 = 6561 := by decide
  omega
theorem pmL_zero (f a : Nat) (u v : Int) (L : List Int) : pmL (f + 1) a 0 u v L = [] := by rw [pmL, if_pos rfl]
theorem pmL_one (f a : Nat) (u v : Int) (L : List Int) : pmL (f + 1) a 1 u v L = [((a : Int), u, v)] := by rw [pmL, if_neg (by omega), if_pos rfl]
theorem pmL_more {f a m : Nat} {u v : Int} {L : List Int} (hm : 2 ≤ m) : pmL (f + 1) a m u v L = pmL f a (kPm L.length m) u (mdT L u v L.length).1 L ++ pmL f (a + kPm L.length m) (m - kPm L.length m) u v (mdT L u v L.length).2 ++ pmL f a (kPm L.length m) (mdT L u v L.length).1 v L := by
  rw [pmL, if_neg (by omega), if_neg (by omega)]
/-- The middle peg's place, and what lies around it. -/
theorem mdT_before {L : List Int} {u v : Int} : ∀ i, i ≤ L.length → (∀ j, j < i → L[j]?.getD 0 = u ∨ L[j]?.getD 0 = v) → mdT L u v i = (-1, L.take i)
  | 0, _, _ => by simp [mdT]
  | i + 1, h, hj => by
    rw [mdT, mdT_before i (by omega) (fun j h1 => hj j (by omega))]
    have := hj i (by omega)
    rw [if_neg (by rcases this with h | h <;> simp [h])]
    simp only
    rw [List.take_add_one, List.getElem?_eq_getElem (by omega)]
    rfl
theorem mdT_after {L : List Int} {u v : Int} {p : Nat} (hp : p < L.length) (h0 : 0 ≤ L[p]?.getD 0) (hb : ∀ j, j < p → L[j]?.getD 0 = u ∨ L[j]?.getD 0 = v) (hu : L[p]?.getD 0 ≠ u) (hv : L[p]?.getD 0 ≠ v) :
    ∀ d, p + 1 + d ≤ L.length → mdT L u v (p + 1 + d) = (L[p]?.getD 0, L.take p ++ (L.drop (p + 1)).take d)
  | 0, _ => by
    rw [Nat.add_zero, mdT, mdT_before p (by omega) hb, if_pos ⟨by simp, hu, hv⟩]
    simp
  | d + 1, h => by
    rw [← Nat.add_assoc, mdT, mdT_after hp h0 hb hu hv d (by omega)]
    rw [if_neg (by simp; omega)]
    simp only
    rw [List.take_add_one (i := d), List.getElem?_drop, List.getElem?_eq_getElem (show p + 1 + d < L.length by omega), List.append_assoc]
    rfl
theorem mdT_all {L : List Int} {u v : Int} {p : Nat} (hp : p < L.length) (h0 : 0 ≤ L[p]?.getD 0) (hb : ∀ j, j < p → L[j]?.getD 0 = u ∨ L[j]?.getD 0 = v) (hu : L[p]?.getD 0 ≠ u) (hv : L[p]?.getD 0 ≠ v) :
    mdT L u v L.length = (L[p]?.getD 0, L.take p ++ L.drop (p + 1)) := by
  obtain ⟨d, hd⟩ : ∃ d, L.length = p + 1 + d := ⟨L.length - (p + 1), by omega⟩
  have h := mdT_after hp h0 hb hu hv d (by omega)
  rw [← hd, List.take_of_length_le (l := L.drop (p + 1)) (by simp; omega)] at h
  exact h
/-- Pegs: none twice, none negative. -/
def okP (L : List Int) : Prop := L.Nodup ∧ ∀ x ∈ L, 0 ≤ x
theorem okP_place {L : List Int} (h : okP L) (h3 : 3 ≤ L.length) (u v : Int) : ∃ p, p < L.length ∧ 0 ≤ L[p]?.getD 0 ∧ (∀ j, j < p → L[j]?.getD 0 = u ∨ L[j]?.getD 0 = v) ∧ L[p]?.getD 0 ≠ u ∧ L[p]?.getD 0 ≠ v := by
  match L, h, h3 with
  | a :: b :: c :: T, h, _ =>
    obtain ⟨hn, hz⟩ := h
    simp only [List.nodup_cons, List.mem_cons, not_or] at hn
    by_cases ha : a = u ∨ a = v
    · by_cases hb : b = u ∨ b = v
      · refine ⟨2, by simp, by simpa using hz c (by simp), fun j hj => ?_, ?_, ?_⟩
        · match j, hj with
          | 0, _ => simpa using ha
          | 1, _ => simpa using hb
        · simp; rintro rfl; rcases ha with h | h <;> rcases hb with h' | h' <;> simp_all
        · simp; rintro rfl; rcases ha with h | h <;> rcases hb with h' | h' <;> simp_all
      · refine ⟨1, by simp, by simpa using hz b (by simp), fun j hj => ?_, ?_, ?_⟩
        · obtain rfl : j = 0 := by omega
          simpa using ha
        · simp; exact fun h => hb (.inl h)
        · simp; exact fun h => hb (.inr h)
    · refine ⟨0, by simp, by simpa using hz a (by simp), fun j hj => absurd hj (by omega), ?_, ?_⟩
      · simp; exact fun h => ha (.inl h)
      · simp; exact fun h => ha (.inr h)
theorem okP_rest {L : List Int} (h : okP L) {p : Nat} (hp : p < L.length) : okP (L.take p ++ L.drop (p + 1)) ∧ (L.take p ++ L.drop (p + 1)).length = L.length - 1 := by
  have hs : (L.take p ++ L.drop (p + 1)).Sublist L := by
    have := List.eraseIdx_sublist L p
    rwa [List.eraseIdx_eq_take_drop_succ] at this
  refine ⟨⟨h.1.sublist hs, fun x hx => h.2 x (hs.subset hx)⟩, by simp; omega⟩

/-- All blocks that were there are as they were, but those of X. -/
structure Kp (X : Nat → Prop) (w w' : World) : Prop where
  os : w'.os = w.os
  tape : w'.tape = w.tape
  output : w'.output = w.output
  size : w.heap.size ≤ w'.heap.size
  block : ∀ k, k < w.heap.size → ¬ X k → w'.heap[k]? = w.heap[k]?
theorem Kp.refl (X : Nat → Prop) (w : World) : Kp X w w := ⟨rfl, rfl, rfl, Nat.le_refl _, fun _ _ _ => rfl⟩
theorem Kp.trans {X X1 : Nat → Prop} {w w1 w2 : World} (h : Kp X w w1) (h1 : Kp X1 w1 w2) (hn : ∀ k, X1 k → X k ∨ w.heap.size ≤ k) : Kp X w w2 :=
  ⟨h1.os.trans h.os, h1.tape.trans h.tape, h1.output.trans h.output, Nat.le_trans h.size h1.size, fun k hk hx => (h1.block k (Nat.lt_of_lt_of_le hk h.size) (fun h' => by
    rcases hn k h' with h2 | h2
    · exact hx h2
    · omega)).trans (h.block k hk hx)⟩
theorem Kp.of_below {X : Nat → Prop} {w w' : World} (h : Below w.heap.size w w') : Kp X w w' := ⟨h.os, h.tape, h.output, h.size, fun k hk _ => h.block k hk⟩
theorem Kp.below {X : Nat → Prop} {B : Nat} {w w' : World} (h : Kp X w w') (hX : ∀ k, X k → B ≤ k) (hB : B ≤ w.heap.size) : Below B w w' :=
  ⟨h.os, h.tape, h.output, h.size, fun k hk => h.block k (by omega) (fun hx => by have := hX k hx; omega)⟩
theorem Kp.grown {X : Nat → Prop} {w w1 : World} {o : Obj} {v : Value} (hg : (w.alloc o).grownBy w1 v.ownBlock) (hX : ∀ k, v.ownBlock = some k → X k) : Kp X w w1 :=
  ⟨hg.os, hg.tape, hg.output, by have := hg.size; simp at this; omega, fun k hk hx => (hg.block k (by simp; omega) (fun e => hx (hX k e.symm))).trans (Below.heap_alloc w o k hk)⟩
theorem Kp.set {X : Nat → Prop} {w w' : World} (h : Kp X w w') {a : Addr} (ha : X a.block) (u : Value) : Kp X w (w'.setCell a u) :=
  ⟨h.os, h.tape, h.output, by simpa [World.setCell] using h.size, fun k hk hx => (Below.heap_setCell w' a u k (fun e => hx (e ▸ ha))).trans (h.block k hk hx)⟩
/-- The list's block. -/
def XA (A : Option Addr) : Nat → Prop := fun k => A = some ⟨k, 0, none⟩
/-- Pegs that are read, apart from X. -/
def PegsIn (w : World) (P : Option Addr) (L : List Int) (X : Nat → Prop) : Prop := Ints w P L ∧ ∀ ad, P = some ad → ad.block < w.heap.size ∧ ¬ X ad.block
theorem PegsIn.next {w w' : World} {P : Option Addr} {L : List Int} {X X' : Nat → Prop} (h : PegsIn w P L X) (hk : Kp X w w') (hn : ∀ k, X' k → X k ∨ w.heap.size ≤ k) : PegsIn w' P L X' := by
  refine ⟨fun j hj => ?_, fun ad hP => ⟨Nat.lt_of_lt_of_le (h.2 ad hP).1 hk.size, fun hx => ?_⟩⟩
  · obtain ⟨ad, hP, hlt, hc⟩ := h.1 j hj
    refine ⟨ad, hP, Nat.lt_of_lt_of_le hlt hk.size, ?_⟩
    rw [← hc]
    have hb : w'.heap[(ad.add j).block]? = w.heap[(ad.add j).block]? := by rw [add_block]; exact hk.block _ hlt (h.2 ad hP).2
    simp only [World.cell?, hb]
  · rcases hn _ hx with h1 | h1
    · exact (h.2 ad hP).2 h1
    · have := (h.2 ad hP).1; omega

end Go.Proofs.Ytfllbdpdfgkkaaa
