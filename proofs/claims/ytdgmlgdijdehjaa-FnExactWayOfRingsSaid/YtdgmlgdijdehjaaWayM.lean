/- Mathematics: steps of ranks and the rings that they turn. No program. -/
import Derived.Test.YtdgmlgdijdehjaaOpp
import Derived.Test.YtdgmlgdijdehjaaRtc
namespace Go.Proofs.Ytdgmlgdijdehjaa
open Go.RowKit
set_option linter.unusedVariables false

/-- The ring of a step: how often 2 divides it. -/
def ctz (t : Nat) : Nat := if h : t % 2 = 0 ∧ 0 < t then ctz (t / 2) + 1 else 0
termination_by t
decreasing_by omega
theorem ctz_odd {t : Nat} (h : t % 2 = 1) : ctz t = 0 := by
  unfold ctz
  rw [dif_neg (by omega)]
theorem ctz_even {t : Nat} (h : t % 2 = 0) (h0 : 0 < t) : ctz t = ctz (t / 2) + 1 := by
  rw [ctz, dif_pos ⟨h, h0⟩]
theorem ctz_two {q : Nat} (h : 0 < q) : ctz (2 * q) = ctz q + 1 := by
  rw [ctz_even (by omega) (by omega)]
  congr 2
  omega
theorem turn_zero (x : Int) (t : List Int) : turnL (x :: t) 0 = (1 - x) :: t := by simp [turnL]
theorem turn_succ (x : Int) (t : List Int) (k : Nat) : turnL (x :: t) (k + 1) = x :: turnL t k := by simp [turnL]
theorem ix_zero (t : List Int) : ixN 1 (1 :: t) = 0 := by simp [ixN]
theorem ix_succ (t : List Int) : ixN 1 (0 :: t) = ixN 1 t + 1 := by simp [ixN]
theorem rb_turn : ∀ (L : List Int) (k : Nat), k < L.length → (∀ x ∈ L, 0 ≤ x ∧ x ≤ 1) → rbL (turnL L k) = 1 - rbL L
  | [], k, h, _ => absurd h (by simp)
  | x :: t, 0, _, h => by
    rw [turn_zero, rb_cons, rb_cons]
    have hb := (rk_bd t (fun q hq => h q (List.mem_cons_of_mem _ hq))).1
    have hx := h x (by simp)
    omega
  | x :: t, k + 1, hk, h => by
    have ih := rb_turn t k (by simpa using hk) (fun q hq => h q (List.mem_cons_of_mem _ hq))
    have hb := (rk_bd t (fun q hq => h q (List.mem_cons_of_mem _ hq))).1
    have hx := h x (by simp)
    rw [turn_succ, rb_cons, rb_cons, ih]
    omega
theorem turn_bits {L : List Int} {k : Nat} (h : ∀ x ∈ L, 0 ≤ x ∧ x ≤ 1) : ∀ x ∈ turnL L k, 0 ≤ x ∧ x ≤ 1 := by
  intro x hx
  unfold turnL at hx
  rcases List.mem_or_eq_of_mem_set hx with hx | rfl
  · exact h x hx
  · by_cases hk : k < L.length
    · have := h L[k] (List.getElem_mem hk)
      rw [List.getElem?_eq_getElem hk, Option.getD_some]
      omega
    · rw [List.getElem?_eq_none (by omega), Option.getD_none]
      omega
theorem rb_rk (L : List Int) : rbL L = rkL L % 2 := by rw [rk_mod, rb_mod]
/-- One step up. -/
theorem step_up : ∀ (L : List Int) (r : Nat), (∀ x ∈ L, 0 ≤ x ∧ x ≤ 1) → rkL L = (r : Int) → r + 2 ≤ 2 ^ L.length →
    ctz (r + 1) < L.length ∧ rkL (turnL L (ctz (r + 1))) = (r : Int) + 1 ∧ (0 < ctz (r + 1) → ixN 1 L + 1 = ctz (r + 1))
  | [], r, _, _, h => by simp at h
  | x :: t, r, hb, hr, hp => by
    have ht : ∀ y ∈ t, 0 ≤ y ∧ y ≤ 1 := fun y hy => hb y (List.mem_cons_of_mem _ hy)
    have hx := hb x (by simp)
    obtain ⟨hb0, hq0, _⟩ := rk_bd t ht
    have hrq := rb_rk t
    rw [rk_cons] at hr
    obtain ⟨q, hq⟩ := Int.eq_ofNat_of_zero_le hq0
    rw [hq] at hr hrq
    by_cases h2 : r % 2 = 0
    · rw [ctz_odd (show (r + 1) % 2 = 1 by omega), turn_zero, rk_cons, hq]
      refine ⟨by simp, by omega, fun h => absurd h (by omega)⟩
    · have h2q : r = 2 * q + 1 := by omega
      rw [List.length_cons, Nat.pow_succ] at hp
      obtain ⟨i1, i2, i3⟩ := step_up t q ht hq (by omega)
      have e : ctz (r + 1) = ctz (q + 1) + 1 := by rw [show r + 1 = 2 * (q + 1) by omega, ctz_two (by omega)]
      rw [e, turn_succ, rk_cons, i2, rb_turn t _ i1 ht]
      refine ⟨by simpa using i1, by omega, fun _ => ?_⟩
      by_cases hqe : q % 2 = 0
      · have hx1 : x = 1 := by omega
        subst hx1
        rw [ix_zero, ctz_odd (by omega)]
      · have hx0 : x = 0 := by omega
        subst hx0
        rw [ix_succ]
        have := i3 (by rw [ctz_even (by omega) (by omega)]; omega)
        omega
/-- One step down. -/
theorem step_down : ∀ (L : List Int) (r : Nat), (∀ x ∈ L, 0 ≤ x ∧ x ≤ 1) → rkL L = (r : Int) → 0 < r →
    ctz r < L.length ∧ rkL (turnL L (ctz r)) = (r : Int) - 1 ∧ (0 < ctz r → ixN 1 L + 1 = ctz r)
  | [], r, _, hr, h => by simp [rkL] at hr; omega
  | x :: t, r, hb, hr, h0 => by
    have ht : ∀ y ∈ t, 0 ≤ y ∧ y ≤ 1 := fun y hy => hb y (List.mem_cons_of_mem _ hy)
    have hx := hb x (by simp)
    obtain ⟨hb0, hq0, _⟩ := rk_bd t ht
    have hrq := rb_rk t
    rw [rk_cons] at hr
    obtain ⟨q, hq⟩ := Int.eq_ofNat_of_zero_le hq0
    rw [hq] at hr hrq
    by_cases h2 : r % 2 = 1
    · rw [ctz_odd h2, turn_zero, rk_cons, hq]
      refine ⟨by simp, by omega, fun h => absurd h (by omega)⟩
    · have h2q : r = 2 * q := by omega
      obtain ⟨i1, i2, i3⟩ := step_down t q ht hq (by omega)
      have e : ctz r = ctz q + 1 := by rw [h2q, ctz_two (by omega)]
      rw [e, turn_succ, rk_cons, i2, rb_turn t _ i1 ht]
      refine ⟨by simpa using i1, by omega, fun _ => ?_⟩
      by_cases hqe : q % 2 = 1
      · have hx1 : x = 1 := by omega
        subst hx1
        rw [ix_zero, ctz_odd (by omega)]
      · have hx0 : x = 0 := by omega
        subst hx0
        rw [ix_succ]
        have := i3 (by rw [ctz_even (by omega) (by omega)]; omega)
        omega
theorem rk_inj {L M : List Int} (hL : ∀ x ∈ L, 0 ≤ x ∧ x ≤ 1) (hM : ∀ x ∈ M, 0 ≤ x ∧ x ≤ 1) (hl : L.length = M.length) (h : rkL L = rkL M) : L = M := by
  rw [← rw_rk hL, ← rw_rk hM, hl, h]
/-- The rings of the steps from r on, k of them up. -/
def upL (r : Nat) : Nat → List Int
  | 0 => []
  | k + 1 => upL r k ++ [(ctz (r + k + 1) : Int)]
def downL (r : Nat) : Nat → List Int
  | 0 => []
  | k + 1 => downL r k ++ [(ctz (r - k) : Int)]
theorem upL_len (r : Nat) : ∀ k, (upL r k).length = k
  | 0 => rfl
  | k + 1 => by simp [upL, upL_len r k]
theorem downL_len (r : Nat) : ∀ k, (downL r k).length = k
  | 0 => rfl
  | k + 1 => by simp [downL, downL_len r k]
def wayL (r s : Nat) : List Int := if r ≤ s then upL r (s - r) else downL r (r - s)
theorem wayL_len (r s : Nat) : (wayL r s).length = (s - r) + (r - s) := by
  unfold wayL
  split
  · rw [upL_len]; omega
  · rw [downL_len]; omega

end Go.Proofs.Ytdgmlgdijdehjaa
