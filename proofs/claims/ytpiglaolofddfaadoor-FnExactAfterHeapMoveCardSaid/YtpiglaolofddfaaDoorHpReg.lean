/- Contracts: regular heaps by the program. -/
import Derived.Test.YtpiglaolofddfaaDoorHpWrS
import Derived.Test.YtpiglaolofddfaaDoorHpO
namespace Go.Proofs.YtpiglaolofddfaaDoor
open Go.RowKit
set_option linter.unusedVariables false

/-- Each element is at most the next one. -/
def srtL (L : List Int) (k : Nat) : Prop := ∀ j, k ≤ j → j + 1 < L.length → L[j]?.getD 0 ≤ L[j + 1]?.getD 0

/-- What an index into the piles, or into one, gives. -/
theorem ix_piles (Z : Nat → Int) (a : Nat) (ha : a < 3) (w : World) : (Instr.index 50 (.agg (zA Z)) (.int .i64 (a : Int))).run Tryd.prog w = .ok (.agg #[.int .i64 (Z (a * 4)), .int .i64 (Z (a * 4 + 1)), .int .i64 (Z (a * 4 + 2)), .int .i64 (Z (a * 4 + 3))]) w := by
  match a, ha with
  | 0, _ => simp [Instr.index, zA, go_sem]
  | 1, _ => simp [Instr.index, zA, go_sem]
  | 2, _ => simp [Instr.index, zA, go_sem]
theorem ix_pile (x y z u : Int) (j : Nat) (hj : j < 4) (w : World) : (Instr.index 48 (.agg #[.int .i64 x, .int .i64 y, .int .i64 z, .int .i64 u]) (.int .i64 (j : Int))).run Tryd.prog w = .ok (.int .i64 ([x, y, z, u][j]?.getD 0)) w := by
  match j, hj with
  | 0, _ => simp [Instr.index, go_sem]
  | 1, _ => simp [Instr.index, go_sem]
  | 2, _ => simp [Instr.index, go_sem]
  | 3, _ => simp [Instr.index, go_sem]

/-- The four places of a pile, as a list. -/
def zL (Z : Nat → Int) (a : Nat) : List Int := [Z (a * 4), Z (a * 4 + 1), Z (a * 4 + 2), Z (a * 4 + 3)]
instance (L : List Int) : Decidable (srtL L 0) :=
  decidable_of_iff (∀ j, j < L.length → j + 1 < L.length → L[j]?.getD 0 ≤ L[j + 1]?.getD 0) ⟨fun h j _ h2 => h j (by omega) h2, fun h j _ h2 => h j (Nat.zero_le _) h2⟩
def regZ (Z : Nat → Int) : Bool := decide (srtL (zL Z 0) 0 ∧ srtL (zL Z 1) 0 ∧ srtL (zL Z 2) 0)
theorem regZ_at {Z : Nat → Int} (h : regZ Z = true) {a : Nat} (ha : a < 3) : srtL (zL Z a) 0 := by
  unfold regZ at h
  obtain ⟨h0, h1, h2⟩ := of_decide_eq_true h
  match a, ha with
  | 0, _ => exact h0
  | 1, _ => exact h1
  | 2, _ => exact h2
theorem regZ_of {Z : Nat → Int} (h : ∀ a, a < 3 → srtL (zL Z a) 0) : regZ Z = true := by
  unfold regZ
  exact decide_eq_true ⟨h 0 (by omega), h 1 (by omega), h 2 (by omega)⟩

theorem Box.ints4 {w : World} {b t : Nat} {x y z u : Int} (h : Box w b t #[.int .i64 x, .int .i64 y, .int .i64 z, .int .i64 u]) : Ints w (some ⟨b, 0, none⟩) [x, y, z, u] := by
  intro k hk
  refine ⟨_, rfl, h.lt, ?_⟩
  rw [add_zero_at, h.cell k]
  simp at hk
  match k, hk with
  | 0, _ => rfl
  | 1, _ => rfl
  | 2, _ => rfl
  | 3, _ => rfl

theorem wP_zero {l : List Int} : wP l = 0 ↔ l.Pairwise (fun x y => x ≤ y) := by
  induction l with
  | nil => simp [wP]
  | cons x t ih =>
    rw [wP, List.pairwise_cons, ← ih]
    have h1 : lessN x t = 0 ↔ ∀ y ∈ t, x ≤ y := by
      unfold lessN
      rw [List.length_eq_zero_iff, List.filter_eq_nil_iff]
      simp
    rw [← h1]
    omega
theorem srt4 (x y z u : Int) : srtL [x, y, z, u] 0 ↔ wP [x, y, z, u] = 0 := by
  rw [wP_zero]
  constructor
  · intro h
    have h0 := h 0 (by omega) (by simp)
    have h1 := h 1 (by omega) (by simp)
    have h2 := h 2 (by omega) (by simp)
    simp at h0 h1 h2
    simp
    omega
  · intro h j _ hj
    simp at h hj
    match j, hj with
    | 0, _ => simp; omega
    | 1, _ => simp; omega
    | 2, _ => simp; omega
theorem zL_piles {LL : List (List Int)} {a : Nat} {l : List Int} (h : LL[a]? = some l) : zL (pilesOf LL) a = pl4 l := by
  have e0 := pilesOf_at LL a 0 (by omega)
  simp only [Nat.add_zero] at e0
  unfold zL
  rw [e0, pilesOf_at LL a 1 (by omega), pilesOf_at LL a 2 (by omega), pilesOf_at LL a 3 (by omega), h]
  rfl
theorem reg_piles {LL : List (List Int)} (h : heapB LL = true) : regZ (pilesOf LL) = decide (wrongs LL = 0) := by
  have h3 := (heapB_facts h).1
  have key : ∀ a (ha : a < 3), srtL (zL (pilesOf LL) a) 0 ↔ wP (LL[a]).reverse = 0 := by
    intro a ha
    have hl : LL[a]? = some LL[a] := List.getElem?_eq_getElem (by omega)
    obtain ⟨q1, q2⟩ := heap_stack h hl
    rw [← wP_pl4 q1 (fun x hx => (q2 x hx).2.2), zL_piles hl]
    exact srt4 _ _ _ _
  have hw : wrongs LL = wP (LL[0]).reverse + wP (LL[1]).reverse + wP (LL[2]).reverse := by
    have e : wrongs LL = wrK LL 3 := by unfold wrongs; rw [h3]
    have e2 : wrK LL 3 = wrK LL 2 + wP (LL[2]).reverse := wrK_succ (LL := LL) (a := 2) (List.getElem?_eq_getElem (by omega))
    have e1 : wrK LL 2 = wrK LL 1 + wP (LL[1]).reverse := wrK_succ (LL := LL) (a := 1) (List.getElem?_eq_getElem (by omega))
    have e0 : wrK LL 1 = wrK LL 0 + wP (LL[0]).reverse := wrK_succ (LL := LL) (a := 0) (List.getElem?_eq_getElem (by omega))
    have ez : wrK LL 0 = 0 := by simp [wrK]
    rw [e]
    omega
  unfold regZ
  rw [decide_eq_decide, key 0 (by omega), key 1 (by omega), key 2 (by omega), hw]
  omega

end Go.Proofs.YtpiglaolofddfaaDoor
