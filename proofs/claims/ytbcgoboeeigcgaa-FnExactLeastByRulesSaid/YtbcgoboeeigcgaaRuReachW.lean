/- Contracts: which pegs are reached from which, by rules; strong rules, of the program. -/
import Derived.Test.YtbcgoboeeigcgaaRuOf
import Derived.Test.YtbcgoboeeigcgaaRuStr
import Derived.Test.YtbcgoboeeigcgaaRuTurn
namespace Go.Proofs.Ytbcgoboeeigcgaa
open Go.RowKit Go.Shelf
set_option linter.unusedVariables false
set_option linter.unusedSimpArgs false
attribute [local go_sem] Oper.semAt_some

/-- One more move: the pegs that are reached now, and those to which moves from these are allowed, by the pairs that have come. -/
def stT (a : Int → Int → Bool) (now : Nat → Int) (pre : List PP) (k : Nat) : Int :=
  if pre.any (fun x => decide (k % 3 = x.j.toNat) && (now (k / 3 * 3 + x.i.toNat) == 1 && a x.i x.j)) = true then 1 else now k
/-- The same, when the first t rows of the pair x are done. -/
def stI (a : Int → Int → Bool) (now : Nat → Int) (pre : List PP) (x : PP) (t k : Nat) : Int :=
  if (decide (k / 3 < t) && (decide (k % 3 = x.j.toNat) && (now (k / 3 * 3 + x.i.toNat) == 1 && a x.i x.j))) = true then 1 else stT a now pre k
theorem stI_zero (a : Int → Int → Bool) (now : Nat → Int) (pre : List PP) (x : PP) : stI a now pre x 0 = stT a now pre := by
  funext k
  unfold stI
  rw [if_neg (by simp)]
theorem stI_last (a : Int → Int → Bool) (now : Nat → Int) (pre : List PP) (x : PP) : ∀ k, k < 9 → stI a now pre x 3 k = stT a now (pre ++ [x]) k := by
  intro k hk
  unfold stI stT
  rw [List.any_append]
  have : decide (k / 3 < 3) = true := by simp; omega
  rw [this]
  simp only [List.any_cons, List.any_nil, Bool.or_false, Bool.true_and, Bool.or_eq_true]
  by_cases h1 : (decide (k % 3 = x.j.toNat) && (now (k / 3 * 3 + x.i.toNat) == 1 && a x.i x.j)) = true
  · rw [if_pos h1, if_pos (.inr h1)]
  · rw [if_neg h1]
    by_cases h2 : (pre.any fun x => decide (k % 3 = x.j.toNat) && (now (k / 3 * 3 + x.i.toNat) == 1 && a x.i x.j)) = true
    · rw [if_pos h2, if_pos (.inl h2)]
    · rw [if_neg h2, if_neg (by rintro (h | h); exact h2 h; exact h1 h)]
theorem stI_yes {a : Int → Int → Bool} {now : Nat → Int} {pre : List PP} {x : PP} {t : Nat} (h1 : (now (t * 3 + x.i.toNat) == 1) = true) (h2 : a x.i x.j = true) : ∀ k, k < 9 →
    (if k = t * 3 + x.j.toNat then 1 else stI a now pre x t k) = stI a now pre x (t + 1) k := by
  intro k hk
  have hj := x.hj
  have hjj : x.j.toNat < 3 := by omega
  unfold stI
  by_cases h : k = t * 3 + x.j.toNat
  · rw [if_pos h]
    have e1 : k / 3 = t := by omega
    have e2 : k % 3 = x.j.toNat := by omega
    rw [e1, e2, h1, h2, if_pos (by simp)]
  · rw [if_neg h]
    by_cases hm : k % 3 = x.j.toNat
    · have hne : k / 3 ≠ t := by omega
      have : decide (k / 3 < t) = decide (k / 3 < t + 1) := by
        rw [Bool.eq_iff_iff, decide_eq_true_iff, decide_eq_true_iff]; omega
      rw [this]
    · rw [show decide (k % 3 = x.j.toNat) = false by simpa using hm]
      simp
theorem stI_no {a : Int → Int → Bool} {now : Nat → Int} {pre : List PP} {x : PP} {t : Nat} (h : (now (t * 3 + x.i.toNat) == 1 && a x.i x.j) = false) :
    stI a now pre x t = stI a now pre x (t + 1) := by
  funext k
  unfold stI
  by_cases hm : k / 3 = t
  · rw [hm, h]
    simp
  · have : decide (k / 3 < t) = decide (k / 3 < t + 1) := by
      rw [Bool.eq_iff_iff, decide_eq_true_iff, decide_eq_true_iff]; omega
    rw [this]
/-- After so many moves. -/
def itT (a : Int → Int → Bool) : Nat → Nat → Int
  | 0 => fun k => if k % 4 = 0 then 1 else 0
  | m + 1 => stT a (itT a m) ppAll

/-- Directions told by six tests. -/
def six (b1 b2 b3 b5 b6 b7 : Bool) (i j : Int) : Bool := if i = 0 then (if j = 1 then b1 else b2) else if i = 1 then (if j = 0 then b3 else b5) else (if j = 0 then b6 else b7)
theorem stT_six (a : Int → Int → Bool) (now : Nat → Int) : stT a now ppAll = stT (six (a 0 1) (a 0 2) (a 1 0) (a 1 2) (a 2 0) (a 2 1)) now ppAll := by
  funext k
  simp [stT, ppAll, pp01, pp02, pp10, pp12, pp20, pp21, six]
theorem itT_six (a : Int → Int → Bool) : ∀ m, itT a m = itT (six (a 0 1) (a 0 2) (a 1 0) (a 1 2) (a 2 0) (a 2 1)) m
  | 0 => rfl
  | m + 1 => by
    show stT a (itT a m) ppAll = stT _ (itT _ m) ppAll
    rw [← itT_six a m, stT_six]
theorem itT_stop (a : Int → Int → Bool) : l9 (itT a 3) = l9 (itT a 2) := by
  rw [itT_six a 3, itT_six a 2]
  generalize a 0 1 = b1
  generalize a 0 2 = b2
  generalize a 1 0 = b3
  generalize a 1 2 = b5
  generalize a 2 0 = b6
  generalize a 2 1 = b7
  revert b1 b2 b3 b5 b6 b7
  decide +kernel
theorem l9_at {p q : Nat → Int} (h : l9 p = l9 q) : ∀ k, k < 9 → p k = q k := by
  intro k hk
  unfold l9 at h
  simp only [List.cons.injEq, and_true] at h
  obtain ⟨h0, h1, h2, h3, h4, h5, h6, h7, h8⟩ := h
  match k, hk with
  | 0, _ => exact h0
  | 1, _ => exact h1
  | 2, _ => exact h2
  | 3, _ => exact h3
  | 4, _ => exact h4
  | 5, _ => exact h5
  | 6, _ => exact h6
  | 7, _ => exact h7
  | 8, _ => exact h8
theorem stT_congr {a : Int → Int → Bool} {p q : Nat → Int} (h : ∀ k, k < 9 → p k = q k) (k : Nat) (hk : k < 9) : stT a p ppAll k = stT a q ppAll k := by
  unfold stT
  have e : (fun x : PP => decide (k % 3 = x.j.toNat) && (p (k / 3 * 3 + x.i.toNat) == 1 && a x.i x.j)) = (fun x : PP => decide (k % 3 = x.j.toNat) && (q (k / 3 * 3 + x.i.toNat) == 1 && a x.i x.j)) := by
    funext x
    have := x.hi
    rw [h (k / 3 * 3 + x.i.toNat) (by omega)]
  rw [e, h k hk]
theorem itT_wf (a : Int → Int → Bool) : ∀ m k, (Lit.int .i64 (itT a m k)).wf = true
  | 0, k => by
    show (Lit.int .i64 (if k % 4 = 0 then 1 else 0)).wf = true
    split <;> decide
  | m + 1, k => by
    show (Lit.int .i64 (stT a (itT a m) ppAll k)).wf = true
    unfold stT
    split
    · decide
    · exact itT_wf a m k

end Go.Proofs.Ytbcgoboeeigcgaa
