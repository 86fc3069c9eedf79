/- Contracts: FormulaNumber, by the specification's model and by the program. -/
import Derived.Test.YtfllbdpdfgkkaaaPnC
namespace Go.Proofs.Ytfllbdpdfgkkaaa
open Go.RowKit
set_option linter.unusedVariables false

/-- The ways to choose i of m things. -/
def wcT (m : Nat) : Nat → Nat
  | 0 => 1
  | i + 1 => wcT m i * (m - i) / (i + 1)
/-- Some of the first k numbers of ways are greater than 1000. -/
def bigT (m : Nat) : Nat → Bool
  | 0 => false
  | i + 1 => bigT m i || decide (1000 < wcT m (i + 1))
def chT (m k : Nat) : Int := if bigT m k = true then 1000 else wcT m k
/-- The ways of the formula of q + 3 pegs, at s. -/
def wfT (q s : Nat) : Nat := wcT (s + q + 1) (q + 1)
theorem wcT_bd : ∀ m, m < 70 → ∀ j, j < 9 → wcT m j * (m - j) ≤ 4000000000000 := by decide
theorem wcT_le : ∀ m, m < 70 → ∀ j, j < 9 → wcT m j ≤ 4000000000000 := by decide
theorem wfT_ge : ∀ q, q < 8 → ∀ s, s < 61 → s + 1 ≤ wfT q s := by decide
theorem wfT_ch : ∀ q, q < 8 → ∀ s, s < 61 → bigT (s + q + 1) (q + 1) = true → 61 ≤ wfT q s := by decide
/-- The least s from some s on. -/
def fxT (q : Nat) (i : Nat) : Nat → Nat → Nat
  | 0, s => s
  | d + 1, s => if wfT q s < i then fxT q i d (s + 1) else s
def fxN (q i : Nat) : Nat := fxT q i 60 0
theorem fxT_eq (q i : Nat) : ∀ d s j, s + j ≤ s + d → (∀ t, s ≤ t → t < s + j → wfT q t < i) → ¬ wfT q (s + j) < i → fxT q i d s = s + j
  | 0, s, j, hj, _, _ => by obtain rfl : j = 0 := by omega
                            rfl
  | d + 1, s, 0, _, _, h => by rw [fxT, if_neg (by simpa using h)]; rfl
  | d + 1, s, j + 1, hj, hl, h => by
    rw [fxT, if_pos (hl s (by omega) (by omega)), fxT_eq q i d (s + 1) j (by omega) (fun t h1 h2 => hl t (by omega) (by omega)) (by rwa [show s + 1 + j = s + (j + 1) by omega])]
    omega
theorem fxN_eq {q i s : Nat} (hs : s ≤ 60) (hl : ∀ t, t < s → wfT q t < i) (h : ¬ wfT q s < i) : fxN q i = s := by
  have := fxT_eq q i 60 0 s (by omega) (fun t _ h2 => hl t (by omega)) (by rwa [Nat.zero_add])
  rw [Nat.zero_add] at this
  exact this
/-- The sum of the formula. -/
def fmS (q : Nat) : Nat → Int
  | 0 => 0
  | i + 1 => wrap64 (fmS q i + 2 ^ fxN q (i + 1))
def fmV (p n : Int) : Int := if prB 10 p 60 n = true then fmS (p - 3).toNat n.toNat else 0
theorem fmV_yes {q m : Nat} (h : prB 10 ((q : Int) + 3) 60 m = true) : fmV ((q : Int) + 3) m = fmS q m := by
  unfold fmV
  rw [if_pos h, show ((q : Int) + 3 - 3).toNat = q by omega, Int.toNat_natCast]
theorem fmV_no {p n : Int} (h : prB 10 p 60 n = false) : fmV p n = 0 := by unfold fmV; rw [h]; rfl
theorem wc_step {m i x y : Nat} (hm : i ≤ m) (hx : wcT m i = x) (hy : wcT m (i + 1) = y) : ((x : Int) * ((m : Int) - i)).tdiv ((i : Int) + 1) = y := by
  rw [← hy, wcT, hx, Int.tdiv_eq_ediv_of_nonneg (by apply Int.mul_nonneg <;> omega)]
  rw [show (m : Int) - i = ((m - i : Nat) : Int) by omega, Int.natCast_ediv, Int.natCast_mul]
  rfl
theorem wcm_bd {m i x : Nat} (hm : i ≤ m) (h70 : m < 70) (hi : i < 9) (hx : wcT m i = x) : 0 ≤ (x : Int) * ((m : Int) - i) ∧ (x : Int) * ((m : Int) - i) ≤ 4000000000000 := by
  have := wcT_bd m h70 i hi
  rw [hx] at this
  rw [show (m : Int) - i = ((m - i : Nat) : Int) by omega, ← Int.natCast_mul]
  omega
theorem wc_wrap {m i x y : Nat} (hm : i ≤ m) (h70 : m < 70) (hi : i < 8) (hx : wcT m i = x) (hy : wcT m (i + 1) = y) : wrap64 ((wrap64 ((x : Int) * ((m : Int) - i))).tdiv ((i : Int) + 1)) = y := by
  have hb := wcm_bd hm h70 (by omega) hx
  have hb' := wcT_le m h70 (i + 1) (by omega)
  rw [hy] at hb'
  have e1 : wrap64 ((x : Int) * ((m : Int) - i)) = (x : Int) * ((m : Int) - i) := IntWalk.wrap64_in _ (by omega)
  rw [e1, wc_step hm hx hy]
  exact IntWalk.wrap64_in _ (by omega)

theorem ch_lt {q t i : Nat} (hq : q < 8) (ht : t < 61) (hi : i ≤ 60) : chT (t + q + 1) (q + 1) < (i : Int) ↔ wfT q t < i := by
  unfold chT
  by_cases h : bigT (t + q + 1) (q + 1) = true
  · have := wfT_ch q hq t ht h
    rw [if_pos h]
    omega
  · rw [if_neg h]
    show ((wfT q t : Nat) : Int) < i ↔ _
    omega
theorem wcT_le' {q t : Nat} (hq : q < 8) (ht : t < 61) : 0 ≤ chT (t + q + 1) (q + 1) ∧ chT (t + q + 1) (q + 1) ≤ 4000000000000 := by
  unfold chT
  have := wcT_le (t + q + 1) (by omega) (q + 1) (by omega)
  split <;> omega
theorem shl60 {s : Nat} (h : s ≤ 60) : wrap64 ((2 : Int) ^ s) = 2 ^ s := by
  have h1 : ((2 ^ s : Nat) : Int) = (2 : Int) ^ s := by simp
  have h2 : 2 ^ s ≤ 2 ^ 60 := Nat.pow_le_pow_right (by omega) h
  have h3 : (2 : Nat) ^ 60 = 1152921504606846976 := by decide
  rw [h3] at h2
  rw [← h1]
  generalize (2 : Nat) ^ s = x at *
  exact IntWalk.wrap64_in _ (by omega)
theorem ret_two' {a b c d : Int} (h : a = b) (h' : c = d) : Ending.returned (.tuple #[.int .i64 a, .int .i64 c]) = .returned (.tuple #[.int .i64 b, .int .i64 d]) := by rw [h, h']

end Go.Proofs.Ytfllbdpdfgkkaaa
