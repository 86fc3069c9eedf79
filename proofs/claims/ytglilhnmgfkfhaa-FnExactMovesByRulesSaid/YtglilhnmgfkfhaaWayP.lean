/- Plain lists: one move of the way to a perfect state lessens the distance by one. No program. -/
import Derived.Test.YtglilhnmgfkfhaaWays
import Derived.Test.YtglilhnmgfkfhaaMovesL
namespace Go.Proofs.Ytglilhnmgfkfhaa
open Go.RowKit
set_option linter.unusedVariables false

theorem distTo_cons (x y : Int) (L G : List Int) : ∀ k, distTo (x :: L) (y :: G) (k + 1) = (if x = y then 0 else 1) + 2 * distTo L G k
  | 0 => by simp [distTo, pow2_zero]
  | k + 1 => by
    have ih := distTo_cons x y L G k
    rw [distTo, ih, distTo]
    have hp := pow2_succ k
    simp only [List.getElem?_cons_succ]
    split <;> omega
theorem distP_cons (x : Int) (L : List Int) (a : Int) : distP (x :: L) a = (if x = aft L a then 0 else 1) + 2 * distP L a := distTo_cons x (aft L a) L (goalsL L a) L.length
theorem distTo_nonneg (L G : List Int) : ∀ k, 0 ≤ distTo L G k
  | 0 => Int.le_refl _
  | k + 1 => by
    have ih := distTo_nonneg L G k
    have : 0 ≤ pow2 k := Int.natCast_nonneg _
    unfold distTo
    split <;> omega
theorem distP_nonneg (L : List Int) (a : Int) : 0 ≤ distP L a := distTo_nonneg _ _ _
/-- The least disc that is not on its goal; the length if there is none. -/
def fdW : List Int → Int → Nat
  | [], _ => 0
  | x :: r, a => if x = aft r a then fdW r a + 1 else 0
theorem fdW_le (L : List Int) (a : Int) : fdW L a ≤ L.length := by
  induction L with
  | nil => exact Nat.le_refl _
  | cons x r ih => unfold fdW; split <;> simp; exact ih
theorem fdW_before (L : List Int) (a : Int) : ∀ j, j < fdW L a → L[j]?.getD 0 = (goalsL L a)[j]?.getD 0 := by
  induction L with
  | nil => intro j hj; simp [fdW] at hj
  | cons x r ih =>
    intro j hj
    unfold fdW at hj
    split at hj
    · next h =>
      cases j with
      | zero => simpa [goalsL] using h
      | succ j => simpa [goalsL] using ih j (by omega)
    · omega
theorem fdW_at (L : List Int) (a : Int) : fdW L a < L.length → L[fdW L a]?.getD 0 ≠ (goalsL L a)[fdW L a]?.getD 0 := by
  induction L with
  | nil => intro h; simp at h
  | cons x r ih =>
    intro h
    unfold fdW at h ⊢
    split
    · next hx =>
      rw [if_pos hx] at h
      simpa [goalsL] using ih (by simpa using h)
    · next hx => simpa [goalsL] using hx
theorem fdW_is (L : List Int) (a : Int) {j : Nat} (hj : j < L.length) (hb : ∀ i, i < j → L[i]?.getD 0 = (goalsL L a)[i]?.getD 0) (hn : L[j]?.getD 0 ≠ (goalsL L a)[j]?.getD 0) : fdW L a = j := by
  rcases Nat.lt_trichotomy (fdW L a) j with h | h | h
  · exact absurd (hb _ h) (fdW_at L a (by omega))
  · exact h
  · exact absurd (fdW_before L a j h) hn
theorem fdW_all (L : List Int) (a : Int) (hb : ∀ i, i < L.length → L[i]?.getD 0 = (goalsL L a)[i]?.getD 0) : fdW L a = L.length := by
  rcases Nat.lt_or_ge (fdW L a) L.length with h | h
  · exact absurd (hb _ h) (fdW_at L a h)
  · exact Nat.le_antisymm (fdW_le L a) h
/-- The state behind one move of the way. -/
def stepW (L : List Int) (a : Int) : List Int := L.set (fdW L a) ((goalsL L a)[fdW L a]?.getD 0)
theorem stepW_len (L : List Int) (a : Int) : (stepW L a).length = L.length := by simp [stepW]
theorem stepW_yes {x a : Int} {r : List Int} (h : x = aft r a) : stepW (x :: r) a = x :: stepW r a := by
  unfold stepW
  rw [fdW, if_pos h]
  simp [goalsL]
theorem stepW_no {x a : Int} {r : List Int} (h : x ≠ aft r a) : stepW (x :: r) a = aft r a :: r := by
  unfold stepW
  rw [fdW, if_neg h]
  simp [goalsL]
theorem pegsOk_cons {x : Int} {r : List Int} (h : pegsOk (x :: r)) : (0 ≤ x ∧ x ≤ 2) ∧ pegsOk r := ⟨h x (by simp), fun y hy => h y (List.mem_cons_of_mem _ hy)⟩
theorem stepW_pegs (L : List Int) (a : Int) (h : pegsOk L) (ha : 0 ≤ a ∧ a ≤ 2) : pegsOk (stepW L a) := by
  induction L with
  | nil => exact h
  | cons x r ih =>
    obtain ⟨hx, hr⟩ := pegsOk_cons h
    by_cases e : x = aft r a
    · rw [stepW_yes e]
      intro y hy
      rcases List.mem_cons.1 hy with rfl | hy
      · exact hx
      · exact ih hr y hy
    · rw [stepW_no e]
      intro y hy
      rcases List.mem_cons.1 hy with rfl | hy
      · exact aft_bd r a hr ha
      · exact hr y hy
theorem fdW_lt_iff (L : List Int) (a : Int) : fdW L a < L.length ↔ 0 < distP L a := by
  induction L with
  | nil => simp [fdW, distP, distTo]
  | cons x r ih =>
    rw [distP_cons]
    have := distP_nonneg r a
    unfold fdW
    split
    · simp only [List.length_cons]; omega
    · simp only [List.length_cons]; omega
theorem stepW_dist (L : List Int) (a : Int) (h : pegsOk L) (ha : 0 ≤ a ∧ a ≤ 2) (hd : 0 < distP L a) : distP (stepW L a) a = distP L a - 1 ∧ aft (stepW L a) a ≠ aft L a := by
  induction L with
  | nil => simp [distP, distTo] at hd
  | cons x r ih =>
    obtain ⟨hx, hr⟩ := pegsOk_cons h
    have hb := aft_bd r a hr ha
    rw [distP_cons] at hd ⊢
    by_cases e : x = aft r a
    · rw [if_pos e] at hd
      obtain ⟨i1, i2⟩ := ih hr (by omega)
      have hb' := aft_bd (stepW r a) a (stepW_pegs r a hr ha) ha
      rw [stepW_yes e, distP_cons, i1, if_pos e]
      have hne : x ≠ aft (stepW r a) a := by rw [e]; exact fun h => i2 h.symm
      refine ⟨by rw [if_neg hne]; omega, ?_⟩
      rw [aft, if_neg hne, aft, if_pos e]
      omega
    · rw [stepW_no e, distP_cons, if_pos rfl, if_neg e]
      refine ⟨by omega, ?_⟩
      rw [aft, if_pos rfl, aft, if_neg e]
      omega
/-- The move that the way makes, and the way: at most k moves of it. -/
def mvW (L : List Int) (a : Int) : Mv := ((fdW L a : Int), L[fdW L a]?.getD 0, (goalsL L a)[fdW L a]?.getD 0)
def wyL : Nat → List Int → Int → List Mv
  | 0, _, _ => []
  | k + 1, L, a => mvW L a :: wyL k (stepW L a) a
/-- The whole way. -/
def wayL (L : List Int) (a : Int) : List Mv := wyL (distP L a).toNat L a
theorem wyL_len : ∀ (k : Nat) (L : List Int) (a : Int), (wyL k L a).length = k
  | 0, _, _ => rfl
  | k + 1, L, a => by simp [wyL, wyL_len k]
theorem wayL_len (L : List Int) (a : Int) : (wayL L a).length = (distP L a).toNat := wyL_len _ _ _
theorem wayL_more {L : List Int} {a : Int} (h : pegsOk L) (ha : 0 ≤ a ∧ a ≤ 2) (hd : fdW L a < L.length) : wayL L a = mvW L a :: wayL (stepW L a) a := by
  have hp := (fdW_lt_iff L a).1 hd
  have h1 := (stepW_dist L a h ha hp).1
  unfold wayL
  rw [h1, show (distP L a).toNat = (distP L a - 1).toNat + 1 by omega]
  rfl
theorem wayL_end {L : List Int} {a : Int} (hd : fdW L a = L.length) : wayL L a = [] := by
  have hp := fdW_lt_iff L a
  have := distP_nonneg L a
  unfold wayL
  rw [show (distP L a).toNat = 0 by omega]
  rfl
theorem wayL_bd {L : List Int} {a : Int} (h : L.length ≤ 8) : (wayL L a).length ≤ 255 := by
  have := distP_bd L a h
  rw [wayL_len]
  omega

end Go.Proofs.Ytglilhnmgfkfhaa
