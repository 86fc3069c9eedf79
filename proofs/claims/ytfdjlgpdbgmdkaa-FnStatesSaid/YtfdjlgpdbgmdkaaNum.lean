/- Plain numbers: what is a state, powers. No program. -/
import Derived.Test.YtfdjlgpdbgmdkaaBase
namespace Go.Proofs.Ytfdjlgpdbgmdkaa
open Go.RowKit
set_option linter.unusedVariables false

def inB (a lo hi : Int) : Bool := decide (lo ≤ a ∧ a ≤ hi)

theorem ret_in {a lo hi : Int} {b : Bool} (h : b = decide (lo ≤ a ∧ a ≤ hi)) : Ending.returned (.bool b) = .returned (.bool (inB a lo hi)) := by rw [h]; rfl

def pegB (k peg : Int) : Bool := decide (0 ≤ peg ∧ peg < k)

theorem ret_peg {k peg : Int} {b : Bool} (h : b = decide (0 ≤ peg ∧ peg < k)) : Ending.returned (.bool b) = .returned (.bool (pegB k peg)) := by rw [h]; rfl

/-- k^n, as an Int. -/
def powI (k : Int) : Nat → Int
  | 0 => 1
  | n + 1 => powI k n * k

theorem powI_bd (k : Int) (h3 : 3 ≤ k) (h5 : k ≤ 5) : ∀ n, n ≤ 8 → 1 ≤ powI k n ∧ powI k n ≤ 390625 := by
  have hk : k = 3 ∨ k = 4 ∨ k = 5 := by omega
  intro n hn
  have hn' : n = 0 ∨ n = 1 ∨ n = 2 ∨ n = 3 ∨ n = 4 ∨ n = 5 ∨ n = 6 ∨ n = 7 ∨ n = 8 := by omega
  rcases hk with rfl | rfl | rfl <;> rcases hn' with rfl | rfl | rfl | rfl | rfl | rfl | rfl | rfl | rfl <;> decide

theorem inB_yes {a lo hi : Int} (h1 : lo ≤ a) (h2 : a ≤ hi) : inB a lo hi = true := by unfold inB; simp; omega

theorem inB_no {a lo hi : Int} (h : ¬ (lo ≤ a ∧ a ≤ hi)) : inB a lo hi = false := by unfold inB; simp; omega

def fitsB (k n : Int) : Bool := decide (3 ≤ k ∧ k ≤ 5 ∧ 0 ≤ n ∧ n ≤ 8 ∧ powI k n.toNat ≤ 6561)

theorem ret_fits {k n : Int} {b : Bool} (h : b = decide (3 ≤ k ∧ k ≤ 5 ∧ 0 ≤ n ∧ n ≤ 8 ∧ powI k n.toNat ≤ 6561)) : Ending.returned (.bool b) = .returned (.bool (fitsB k n)) := by rw [h]; rfl

def stateB (p : Int) (L : List Int) : Bool := fitsB p L.length && L.all (fun x => inB x 0 (p - 1))

theorem fitsB_bd {k n : Int} (h : fitsB k n = true) : 3 ≤ k ∧ k ≤ 5 ∧ 0 ≤ n ∧ n ≤ 8 := by unfold fitsB at h; simp at h; omega

/-- All of the first k are in range. -/
def allTo (p : Int) (L : List Int) (k : Nat) : Prop := ∀ j, j < k → inB (L.getD j 0) 0 (p - 1) = true

theorem stateB_yes {p : Int} {L : List Int} (hf : fitsB p L.length = true) (h : allTo p L L.length) : stateB p L = true := by
  unfold stateB
  rw [hf, Bool.true_and, List.all_eq_true]
  intro x hx
  obtain ⟨i, hi, rfl⟩ := List.getElem_of_mem hx
  have := h i hi
  rwa [List.getD_eq_getElem?_getD, List.getElem?_eq_getElem hi] at this

theorem stateB_no {p : Int} {L : List Int} {k : Nat} (hk : k < L.length) (h : inB (L.getD k 0) 0 (p - 1) = false) : stateB p L = false := by
  unfold stateB
  rw [Bool.and_eq_false_iff]
  right
  rw [List.all_eq_false]
  refine ⟨L[k], List.getElem_mem hk, ?_⟩
  rw [List.getD_eq_getElem?_getD, List.getElem?_eq_getElem hk] at h
  simpa using h

theorem ret_state {p : Int} {L : List Int} {b : Bool} (h : stateB p L = b) : Ending.returned (.bool b) = .returned (.bool (stateB p L)) := by rw [h]

def numOf (k n : Int) : Int := if fitsB k n = true then powI k n.toNat else 0

theorem ret_num {k n v : Int} {b : Bool} (h1 : fitsB k n = b) (h2 : numOf k n = v) : Ending.returned (.tuple #[.int .i64 v, .bool b]) = .returned (.tuple #[.int .i64 (numOf k n), .bool (fitsB k n)]) := by rw [h1, h2]

theorem fitsB_no {k n : Int} (h : ¬ (3 ≤ k ∧ k ≤ 5 ∧ 0 ≤ n ∧ n ≤ 8 ∧ powI k n.toNat ≤ 6561)) : fitsB k n = false := by unfold fitsB; rw [decide_eq_false_iff_not]; exact h

theorem fitsB_yes {k n : Int} (h : 3 ≤ k ∧ k ≤ 5 ∧ 0 ≤ n ∧ n ≤ 8 ∧ powI k n.toNat ≤ 6561) : fitsB k n = true := by unfold fitsB; rw [decide_eq_true_iff]; exact h

theorem numOf_no {k n : Int} (h : fitsB k n = false) : numOf k n = 0 := by unfold numOf; rw [h]; rfl

theorem numOf_yes {k n : Int} (h : fitsB k n = true) : numOf k n = powI k n.toNat := by unfold numOf; rw [if_pos h]

theorem pegB_in {k x : Int} : pegB k x = inB x 0 (k - 1) := by unfold pegB inB; rw [decide_eq_decide]; omega

theorem powI_succ (p : Int) (n : Nat) : powI p (n + 1) = powI p n * p := rfl

theorem powI_pos {p : Int} (hp : 3 ≤ p) : ∀ n, 1 ≤ powI p n
  | 0 => by simp [powI]
  | n + 1 => by
    have h := powI_pos hp n
    rw [powI_succ]
    have := Int.mul_le_mul h (show (1 : Int) ≤ p by omega) (by omega) (by omega)
    omega

theorem powI_mono {p : Int} (hp : 3 ≤ p) {a b : Nat} (h : a ≤ b) : powI p a ≤ powI p b := by
  induction b with
  | zero => obtain rfl : a = 0 := by omega
            exact Int.le_refl _
  | succ b ih =>
    by_cases hab : a = b + 1
    · subst hab; exact Int.le_refl _
    · have h1 := ih (by omega)
      have h2 := powI_pos hp b
      rw [powI_succ]
      have : powI p b * 1 ≤ powI p b * p := Int.mul_le_mul_of_nonneg_left (by omega) (by omega)
      omega

theorem inB_of {a lo hi : Int} (h : inB a lo hi = true) : lo ≤ a ∧ a ≤ hi := by unfold inB at h; simpa using h

theorem stateB_fits {p : Int} {L : List Int} (h : stateB p L = true) : fitsB p L.length = true := by unfold stateB at h; simp only [Bool.and_eq_true] at h; exact h.1

theorem stateB_mem {p : Int} {L : List Int} (h : stateB p L = true) : ∀ x ∈ L, 0 ≤ x ∧ x ≤ p - 1 := by
  unfold stateB at h
  simp only [Bool.and_eq_true, List.all_eq_true] at h
  exact fun x hx => inB_of (h.2 x hx)

theorem fitsB_pow {k n : Int} (h : fitsB k n = true) : powI k n.toNat ≤ 6561 := by unfold fitsB at h; simp at h; omega

/-- What is known of a state's numbers. -/
theorem state_facts {p : Int} {L : List Int} {n : Nat} (h : stateB p L = true) (hL : L.length = n) :
    3 ≤ p ∧ p ≤ 5 ∧ n ≤ 8 ∧ powI p n ≤ 6561 := by
  have hf := stateB_fits h
  have := fitsB_bd hf
  have h2 := fitsB_pow hf
  rw [Int.toNat_natCast, hL] at h2
  omega

theorem state_at {p : Int} {L : List Int} (h : stateB p L = true) (k : Nat) (hk : k < L.length) : 0 ≤ L[k]?.getD 0 ∧ L[k]?.getD 0 ≤ p - 1 := by
  have := stateB_mem h (L[k]) (List.getElem_mem hk)
  rwa [List.getElem?_eq_getElem hk, Option.getD_some]

theorem mul_bd {a b : Int} (h : 0 ≤ a ∧ a ≤ 1000000) (h' : 0 ≤ b ∧ b ≤ 1000000) : 0 ≤ a * b ∧ a * b ≤ 1000000000000 := by
  refine ⟨Int.mul_nonneg h.1 h'.1, ?_⟩
  have := Int.mul_le_mul h.2 h'.2 h'.1 (by omega)
  omega

def codeS (p : Int) (L : List Int) : Int := if stateB p L = true then 0 else 1

theorem ret_two {a b c d : Int} (h : c = a) (h' : d = b) : Ending.returned (.tuple #[.int .i64 a, .int .i64 b]) = .returned (.tuple #[.int .i64 c, .int .i64 d]) := by rw [h, h']

theorem codeS_yes {p : Int} {L : List Int} (h : stateB p L = true) : codeS p L = 0 := by unfold codeS; rw [if_pos h]

theorem codeS_no {p : Int} {L : List Int} (h : stateB p L = false) : codeS p L = 1 := by unfold codeS; rw [h]; rfl

end Go.Proofs.Ytfdjlgpdbgmdkaa
