/- Presumed numbers, as plain functions. No program. -/
import Derived.Test.YtfllbdpdfgkkaaaPnF
namespace Go.Proofs.Ytfllbdpdfgkkaaa
open Go.RowKit
set_option linter.unusedVariables false

/-- The least of f 1, .., f k; a, if k is nought. -/
def lstN (a : Int) (f : Nat → Int) : Nat → Int
  | 0 => a
  | k + 1 => if k = 0 ∨ f (k + 1) < lstN a f k then f (k + 1) else lstN a f k
theorem lstN_congr {a : Int} {f g : Nat → Int} : ∀ k, (∀ j, 1 ≤ j → j ≤ k → f j = g j) → lstN a f k = lstN a g k
  | 0, _ => rfl
  | k + 1, h => by
    have ih := lstN_congr (a := a) k (fun j h1 h2 => h j h1 (by omega))
    rw [lstN, lstN, ih, h (k + 1) (by omega) (by omega)]
theorem lstN_le {a : Int} {f : Nat → Int} : ∀ k j, 1 ≤ j → j ≤ k → lstN a f k ≤ f j
  | 0, j, h1, h2 => absurd h2 (by omega)
  | k + 1, j, h1, h2 => by
    rw [lstN]
    by_cases hj : j = k + 1
    · subst hj; split <;> omega
    · have ih := lstN_le (a := a) (f := f) k j h1 (by omega)
      split
      · next h => rcases h with h | h <;> omega
      · exact ih
theorem lstN_is {a : Int} {f : Nat → Int} : ∀ k, 1 ≤ k → ∃ j, 1 ≤ j ∧ j ≤ k ∧ lstN a f k = f j
  | 0, h => absurd h (by omega)
  | k + 1, _ => by
    rw [lstN]
    by_cases h : k = 0 ∨ f (k + 1) < lstN a f k
    · rw [if_pos h]; exact ⟨k + 1, by omega, by omega, rfl⟩
    · rw [if_neg h]
      obtain ⟨j, h1, h2, h3⟩ := lstN_is (a := a) (f := f) k (by omega)
      exact ⟨j, h1, by omega, h3⟩
theorem lstN_start {a b : Int} {f : Nat → Int} : ∀ k, 1 ≤ k → lstN a f k = lstN b f k
  | 0, h => absurd h (by omega)
  | 1, _ => by simp [lstN]
  | k + 2, _ => by
    have ih := lstN_start (a := a) (b := b) (f := f) (k + 1) (by omega)
    show (if k + 1 = 0 ∨ f (k + 1 + 1) < lstN a f (k + 1) then f (k + 1 + 1) else lstN a f (k + 1)) = (if k + 1 = 0 ∨ f (k + 1 + 1) < lstN b f (k + 1) then f (k + 1 + 1) else lstN b f (k + 1))
    rw [ih]

/-- The next row, as far as m. -/
def nxtF (g : Nat → Int) : Nat → Nat → Int
  | 0 => fun _ => 0
  | m + 1 => fun k => if k ≤ m then nxtF g m k else lstN 1 (fun j => 2 * nxtF g m j + g (m + 1 - j)) m
def nxt (g : Nat → Int) (n : Nat) : Int := nxtF g n n
theorem nxtF_at (g : Nat → Int) : ∀ m k, k ≤ m → nxtF g m k = nxt g k
  | 0, k, h => by obtain rfl : k = 0 := by omega
                  rfl
  | m + 1, k, h => by
    by_cases hk : k ≤ m
    · rw [nxtF]; show (if k ≤ m then _ else _) = _; rw [if_pos hk, nxtF_at g m k hk]
    · obtain rfl : k = m + 1 := by omega
      rfl
/-- The numbers of the ways to part i. -/
def sN (h g : Nat → Int) (i k : Nat) : Int := 2 * h k + g (i - k)
theorem nxt_zero (g : Nat → Int) : nxt g 0 = 0 := rfl
theorem nxt_succ (g : Nat → Int) (m : Nat) : nxt g (m + 1) = lstN 1 (sN (nxt g) g (m + 1)) m := by
  unfold nxt
  rw [nxtF]
  show (if m + 1 ≤ m then _ else _) = _
  rw [if_neg (by omega)]
  exact lstN_congr m (fun j h1 h2 => by unfold sN; rw [nxtF_at g m j h2, nxt])
/-- The presumed numbers of q + 3 pegs. -/
def pnF : Nat → Nat → Int
  | 0 => fun n => ((2 ^ n : Nat) : Int) - 1
  | q + 1 => nxt (pnF q)
theorem pnF_zero (q : Nat) : pnF q 0 = 0 := by
  cases q
  · rfl
  · rfl
theorem pnF_succ (q m : Nat) : pnF (q + 1) (m + 1) = lstN 1 (sN (pnF (q + 1)) (pnF q) (m + 1)) m := nxt_succ _ _
theorem pow_pos' (n : Nat) : 1 ≤ 2 ^ n := Nat.one_le_two_pow
theorem pnF_one : ∀ q, pnF q 1 = 1
  | 0 => by simp [pnF]
  | q + 1 => by rw [pnF_succ]; rfl
theorem pnF_bd : ∀ q n, 0 ≤ pnF q n ∧ pnF q n ≤ ((2 ^ n : Nat) : Int) - 1
  | 0, n => by
    have := pow_pos' n
    show 0 ≤ ((2 ^ n : Nat) : Int) - 1 ∧ ((2 ^ n : Nat) : Int) - 1 ≤ _
    omega
  | q + 1, 0 => by rw [pnF_zero]; simp
  | q + 1, 1 => by rw [pnF_one]; simp
  | q + 1, m + 2 => by
    rw [pnF_succ]
    obtain ⟨j, h1, h2, h3⟩ := lstN_is (a := 1) (f := sN (pnF (q + 1)) (pnF q) (m + 2)) (m + 1) (by omega)
    have hle := lstN_le (a := 1) (f := sN (pnF (q + 1)) (pnF q) (m + 2)) (m + 1) (m + 1) (by omega) (by omega)
    have b1 := pnF_bd (q + 1) j
    have b2 := pnF_bd q (m + 2 - j)
    have b3 := pnF_bd (q + 1) (m + 1)
    have e : m + 2 - (m + 1) = 1 := by omega
    constructor
    · rw [h3]; unfold sN; omega
    · refine Int.le_trans hle ?_
      unfold sN
      rw [e, pnF_one]
      have : 2 ^ (m + 2) = 2 * 2 ^ (m + 1) := by rw [Nat.pow_succ]; omega
      rw [this]
      omega
termination_by q n => (q, n)
theorem pn_lim {q n : Nat} (h : n ≤ 60) : 0 ≤ pnF q n ∧ pnF q n ≤ 1152921504606846975 := by
  have b := pnF_bd q n
  have h2 : 2 ^ n ≤ 2 ^ 60 := Nat.pow_le_pow_right (by omega) h
  have h3 : (2 : Nat) ^ 60 = 1152921504606846976 := by decide
  rw [h3] at h2
  generalize 2 ^ n = x at *
  omega
/-- Those of 1 to k whose number is v. -/
def splL (f : Nat → Int) (v : Int) : Nat → List Int
  | 0 => []
  | k + 1 => if f (k + 1) = v then splL f v k ++ [((k + 1 : Nat) : Int)] else splL f v k
theorem splL_congr {f g : Nat → Int} {v : Int} : ∀ k, (∀ j, 1 ≤ j → j ≤ k → f j = g j) → splL f v k = splL g v k
  | 0, _ => rfl
  | k + 1, h => by
    have ih := splL_congr (v := v) k (fun j h1 h2 => h j h1 (by omega))
    rw [splL, splL, ih, h (k + 1) (by omega) (by omega)]
theorem splL_len (f : Nat → Int) (v : Int) : ∀ k, (splL f v k).length ≤ k
  | 0 => by simp [splL]
  | k + 1 => by
    have ih := splL_len f v k
    rw [splL]
    split
    · rw [List.length_append]; simp; omega
    · omega
theorem splL_none {f : Nat → Int} {v : Int} : ∀ k, (∀ j, 1 ≤ j → j ≤ k → v < f j) → splL f v k = []
  | 0, _ => rfl
  | k + 1, h => by
    have := h (k + 1) (by omega) (by omega)
    rw [splL, if_neg (by omega)]
    exact splL_none k (fun j h1 h2 => h j h1 (by omega))
theorem splL_some {f : Nat → Int} {v : Int} : ∀ k j, 1 ≤ j → j ≤ k → f j = v → 1 ≤ (splL f v k).length
  | 0, j, h1, h2, _ => absurd h2 (by omega)
  | k + 1, j, h1, h2, h => by
    rw [splL]
    by_cases hj : j = k + 1
    · subst hj; rw [if_pos h]; simp
    · have ih := splL_some k j h1 (by omega) h
      split
      · rw [List.length_append]; simp
      · exact ih
/-- The least ones of 1 to k. -/
def lsL (f : Nat → Int) (k : Nat) : List Int := splL f (lstN 0 f k) k
theorem lsL_zero (f : Nat → Int) : lsL f 0 = [] := rfl
theorem lsL_pos {f : Nat → Int} {k : Nat} (h : 1 ≤ k) : 1 ≤ (lsL f k).length := by
  obtain ⟨j, h1, h2, h3⟩ := lstN_is (a := 0) (f := f) k h
  exact splL_some k j h1 h2 h3.symm
theorem lsL_new {f : Nat → Int} {k : Nat} (h : k = 0 ∨ f (k + 1) < lstN 0 f k) : lsL f (k + 1) = [((k + 1 : Nat) : Int)] ∧ lstN 0 f (k + 1) = f (k + 1) := by
  have e : lstN 0 f (k + 1) = f (k + 1) := by rw [lstN, if_pos h]
  refine ⟨?_, e⟩
  unfold lsL
  rw [e, splL, if_pos rfl, splL_none k (fun j h1 h2 => ?_)]
  · rfl
  · rcases h with h | h
    · omega
    · have := lstN_le (a := 0) (f := f) k j h1 h2
      omega
theorem lsL_more {f : Nat → Int} {k : Nat} (h : ¬ (k = 0 ∨ f (k + 1) < lstN 0 f k)) (h2 : f (k + 1) = lstN 0 f k) : lsL f (k + 1) = lsL f k ++ [((k + 1 : Nat) : Int)] ∧ lstN 0 f (k + 1) = lstN 0 f k := by
  have e : lstN 0 f (k + 1) = lstN 0 f k := by rw [lstN, if_neg h]
  refine ⟨?_, e⟩
  unfold lsL
  rw [e, splL, if_pos h2]
theorem lsL_same {f : Nat → Int} {k : Nat} (h : ¬ (k = 0 ∨ f (k + 1) < lstN 0 f k)) (h2 : ¬ f (k + 1) = lstN 0 f k) : lsL f (k + 1) = lsL f k ∧ lstN 0 f (k + 1) = lstN 0 f k := by
  have e : lstN 0 f (k + 1) = lstN 0 f k := by rw [lstN, if_neg h]
  refine ⟨?_, e⟩
  unfold lsL
  rw [e, splL, if_neg h2]
/-- The first of them: it is one of 1 to k, with the least number. -/
theorem splL_head {f : Nat → Int} {v : Int} : ∀ k, 1 ≤ (splL f v k).length → ∃ j : Nat, 1 ≤ j ∧ j ≤ k ∧ (splL f v k)[0]?.getD 0 = (j : Int) ∧ f j = v
  | 0, h => absurd h (by simp [splL])
  | k + 1, h => by
    rw [splL] at h ⊢
    by_cases hv : f (k + 1) = v
    · rw [if_pos hv]
      by_cases he : 1 ≤ (splL f v k).length
      · obtain ⟨j, h1, h2, h3, h4⟩ := splL_head k he
        exact ⟨j, h1, by omega, by rw [List.getElem?_append_left (by omega)]; exact h3, h4⟩
      · have : splL f v k = [] := List.length_eq_zero_iff.1 (by omega)
        rw [this]
        exact ⟨k + 1, by omega, by omega, rfl, hv⟩
    · rw [if_neg hv] at h ⊢
      obtain ⟨j, h1, h2, h3, h4⟩ := splL_head k h
      exact ⟨j, h1, by omega, h3, h4⟩
theorem lsL_head {f : Nat → Int} {k : Nat} (h : 1 ≤ k) : ∃ j : Nat, 1 ≤ j ∧ j ≤ k ∧ (lsL f k)[0]?.getD 0 = (j : Int) ∧ f j = lstN 0 f k := splL_head k (lsL_pos h)

end Go.Proofs.Ytfllbdpdfgkkaaa
