/- A source of numbers does not hand out multiples of 3 for ever: pure facts. No program. -/
import Derived.Lib.Hide
namespace Go.Proofs.Ytfdjlgpdbgmdkaa
set_option linter.unusedVariables false

/-- The next hash, and what is read of it. -/
def nx (h : Nat) : Nat := (h * 6364136223846793005 + 1442695040888963407) % 18446744073709551616
def xo (h : Nat) : Nat := h / 8589934592 % 16777216
/-- Two steps, in whole numbers. -/
def t2 (h : Nat) : Nat := 40502229875678917802724098623316930025 * h + 9181507769685582209825849996637531442
def i2 : Nat → Nat → Nat
  | 0, h => h
  | s + 1, h => i2 s (t2 h)
theorem i2_add : ∀ a b h, i2 (a + b) h = i2 a (i2 b h)
  | a, 0, h => rfl
  | a, b + 1, h => by rw [← Nat.add_assoc, i2, i2, i2_add a b]
theorem i2_pow : ∀ j, ∃ p r : Nat, ∀ h, i2 (2 ^ j) h = h + 2 ^ (j + 3) * p * h + 2 ^ (j + 1) * (2 * r + 1)
  | 0 => ⟨5062778734459864725340512327914616253, 2295376942421395552456462499159382860, fun h => by
      show t2 h = _
      unfold t2
      omega⟩
  | j + 1 => by
    obtain ⟨p, r, hp⟩ := i2_pow j
    refine ⟨p + 2 ^ (j + 2) * p * p, r + (2 * r + 1) * 2 ^ (j + 1) * p, fun h => ?_⟩
    have hh : i2 (2 ^ (j + 1)) h = i2 (2 ^ j) (i2 (2 ^ j) h) := by
      rw [← i2_add, Nat.pow_succ, Nat.mul_two]
    rw [hh, hp, hp]
    have e3 : 2 ^ (j + 1 + 3) = 8 * 2 ^ (j + 1) := by rw [Nat.pow_add 2 (j + 1) 3]; omega
    have e2 : 2 ^ (j + 3) = 4 * 2 ^ (j + 1) := by rw [show j + 3 = (j + 1) + 2 by omega, Nat.pow_add]; omega
    have e1 : 2 ^ (j + 1 + 1) = 2 * 2 ^ (j + 1) := by rw [Nat.pow_succ 2 (j + 1)]; omega
    rw [e3, e2, e1]
    generalize 2 ^ (j + 1) = X
    grind
theorem reach : ∀ j h t, h % 2 = t % 2 → ∃ s, s < 2 ^ j ∧ i2 s h % 2 ^ (j + 1) = t % 2 ^ (j + 1)
  | 0, h, t, e => ⟨0, by simp, by simpa [i2] using e⟩
  | j + 1, h, t, e => by
    obtain ⟨s, hs, hv⟩ := reach j h t e
    have hk : 2 ^ (j + 1 + 1) = 2 * 2 ^ (j + 1) := by rw [Nat.pow_succ]; omega
    have hk0 : 2 ^ (j + 1) = 2 * 2 ^ j := by rw [Nat.pow_succ]; omega
    by_cases h2 : i2 s h % 2 ^ (j + 1 + 1) = t % 2 ^ (j + 1 + 1)
    · exact ⟨s, by omega, h2⟩
    · obtain ⟨p, r, hp⟩ := i2_pow j
      refine ⟨2 ^ j + s, by omega, ?_⟩
      rw [i2_add, hp]
      generalize i2 s h = v at *
      have e1 : v + 2 ^ (j + 3) * p * v + 2 ^ (j + 1) * (2 * r + 1) = (v + 2 ^ (j + 1)) + 2 ^ (j + 1 + 1) * (2 * p * v + r) := by
        have : 2 ^ (j + 3) = 4 * 2 ^ (j + 1) := by rw [show j + 3 = (j + 1) + 2 by omega, Nat.pow_add]; omega
        rw [this, hk]
        generalize 2 ^ (j + 1) = X
        simp only [Nat.mul_add, Nat.mul_one]
        have a1 : 4 * X * p * v = 2 * X * (2 * p * v) := by
          simp only [← Nat.mul_assoc]
          rw [show 2 * X * 2 = 4 * X by omega]
        have a2 : X * (2 * r) = 2 * X * r := by rw [← Nat.mul_assoc, Nat.mul_comm X 2]
        omega
      rw [e1, Nat.add_mul_mod_self_left]
      have m1 := Nat.mod_mod_of_dvd v (Nat.pow_dvd_pow 2 (show j + 1 ≤ j + 1 + 1 by omega))
      have m2 := Nat.mod_mod_of_dvd t (Nat.pow_dvd_pow 2 (show j + 1 ≤ j + 1 + 1 by omega))
      have hpos : 0 < 2 ^ (j + 1) := Nat.pow_pos (by decide)
      rw [hk] at *
      generalize 2 ^ (j + 1) = X at *
      have d1 := Nat.div_add_mod v (2 * X)
      have d2 := Nat.div_add_mod t (2 * X)
      have l1 := Nat.mod_lt v (show 0 < 2 * X by omega)
      have l2 := Nat.mod_lt t (show 0 < 2 * X by omega)
      rw [Nat.add_mod, Nat.mod_eq_of_lt (show X < 2 * X by omega)]
      generalize v % (2 * X) = a at *
      generalize t % (2 * X) = b at *
      rw [← m1, ← m2] at hv
      rcases Nat.lt_or_ge a X with ha | ha <;> rcases Nat.lt_or_ge b X with hb | hb
      · rw [Nat.mod_eq_of_lt ha, Nat.mod_eq_of_lt hb] at hv; omega
      · rw [Nat.mod_eq_of_lt ha, Nat.mod_eq_sub_mod hb, Nat.mod_eq_of_lt (by omega)] at hv
        rw [Nat.mod_eq_of_lt (by omega)]; omega
      · rw [Nat.mod_eq_of_lt hb, Nat.mod_eq_sub_mod ha, Nat.mod_eq_of_lt (by omega)] at hv
        rw [Nat.mod_eq_sub_mod (by omega), Nat.mod_eq_of_lt (by omega)]; omega
      · rw [Nat.mod_eq_sub_mod ha, Nat.mod_eq_sub_mod hb, Nat.mod_eq_of_lt (by omega), Nat.mod_eq_of_lt (by omega)] at hv
        omega

/-- Two steps, again and again; a source of which every second or every fourth is looked at. -/
def n2 (f : Nat → Nat) : Nat → Nat → Nat
  | 0, h => h
  | s + 1, h => n2 f s (f (f h))
theorem n2_succ (f : Nat → Nat) : ∀ s h, n2 f (s + 1) h = f (f (n2 f s h))
  | 0, h => rfl
  | s + 1, h => by rw [n2, n2_succ f s, n2]
/-- After at most so many more rounds the source hands out what is good. -/
def StopG (f : Nat → Nat) (G : Nat → Prop) : Nat → Nat → Prop
  | 0, h => G (f h)
  | k + 1, h => G (f h) ∨ (StopG f G k (f (f h)) ∧ StopG f G k (f (f (f (f h)))))
theorem stop_mono (f : Nat → Nat) (G : Nat → Prop) : ∀ k h, StopG f G k h → StopG f G (k + 1) h
  | 0, h, hs => .inl hs
  | k + 1, h, hs => by
    rcases hs with hs | ⟨h1, h2⟩
    · exact .inl hs
    · exact .inr ⟨stop_mono f G k _ h1, stop_mono f G k _ h2⟩
theorem stop_of (f : Nat → Nat) (G : Nat → Prop) : ∀ s h, G (n2 f s (f h)) → G (n2 f (s + 1) (f h)) → StopG f G s h
  | 0, h, h1, _ => h1
  | 1, h, h1, h2 => .inr ⟨h1, h2⟩
  | s + 2, h, h1, h2 => .inr ⟨stop_of f G (s + 1) _ h1 h2, stop_mono f G s _ (stop_of f G s _ h1 h2)⟩

theorem step_mod (x a c M N : Nat) (h : M ∣ N) : ((x % N) * a + c) % M = (x * a + c) % M := by
  rw [Nat.add_mod, Nat.mul_mod, Nat.mod_mod_of_dvd x h, ← Nat.mul_mod, ← Nat.add_mod]
theorem two_steps (v : Nat) : (v * 6364136223846793005 + 1442695040888963407) * 6364136223846793005 + 1442695040888963407 = t2 v := by
  unfold t2
  omega
theorem d57 : 144115188075855872 ∣ 18446744073709551616 := ⟨128, by decide⟩
theorem nx_nx (v : Nat) : nx (nx v) % 144115188075855872 = t2 v % 144115188075855872 := by
  unfold nx
  rw [Nat.mod_mod_of_dvd _ d57, step_mod _ _ _ _ _ d57, two_steps]
theorem t2_mod (v : Nat) : t2 (v % 144115188075855872) % 144115188075855872 = t2 v % 144115188075855872 := by
  unfold t2
  rw [Nat.mul_comm, step_mod _ _ _ _ _ (Nat.dvd_refl _), Nat.mul_comm]
theorem i2_mod : ∀ s v, i2 s (v % 144115188075855872) % 144115188075855872 = i2 s v % 144115188075855872
  | 0, v => by rw [i2, i2, Nat.mod_mod]
  | s + 1, v => by rw [i2, i2, ← i2_mod s (t2 v), ← i2_mod s (t2 (v % 144115188075855872)), t2_mod]
theorem n2_i2 : ∀ s v, n2 nx s v % 144115188075855872 = i2 s v % 144115188075855872
  | 0, v => rfl
  | s + 1, v => by rw [n2, n2_i2 s, i2, ← i2_mod s (nx (nx v)), nx_nx, i2_mod]
theorem xo_mod (v : Nat) : xo v = v % 144115188075855872 / 8589934592 := by unfold xo; omega
/-- What is read is no multiple of 3. -/
def Gd (v : Nat) : Prop := xo v % 3 ≠ 0
theorem gd_mod {u v : Nat} (h : u % 144115188075855872 = v % 144115188075855872) : Gd u ↔ Gd v := by
  unfold Gd
  rw [xo_mod u, xo_mod v, h]
theorem gd_key (v t : Nat) (ht : v % 2 = t % 2) (h1 : Gd t) (h2 : Gd (t2 t)) : ∃ s, s < 2 ^ 56 ∧ Gd (n2 nx s v) ∧ Gd (n2 nx (s + 1) v) := by
  obtain ⟨s, hs, hv⟩ := reach 56 v t ht
  have hv' : n2 nx s v % 144115188075855872 = t % 144115188075855872 := (n2_i2 s v).trans hv
  refine ⟨s, hs, (gd_mod hv').2 h1, ?_⟩
  rw [n2_succ]
  refine (gd_mod ?_).2 h2
  rw [nx_nx, ← t2_mod, hv', t2_mod]
theorem gd_any (v : Nat) : ∃ s, s < 2 ^ 56 ∧ Gd (n2 nx s v) ∧ Gd (n2 nx (s + 1) v) := by
  rcases Nat.mod_two_eq_zero_or_one v with h | h
  · exact gd_key v 8589934592 h (by unfold Gd xo; decide +kernel) (by unfold Gd xo t2; decide +kernel)
  · exact gd_key v 8589934593 h (by unfold Gd xo; decide +kernel) (by unfold Gd xo t2; decide +kernel)
def Stop (k h : Nat) : Prop := StopG nx Gd k h
theorem stop_any (h : Nat) : ∃ k, k < 2 ^ 56 ∧ Stop k h := by
  obtain ⟨s, hs, h1, h2⟩ := gd_any (nx h)
  exact ⟨s, hs, stop_of nx Gd s h h1 h2⟩
/-- One round more: what was read is a multiple of 3. -/
theorem stop_next {k h : Nat} (hs : Stop k h) (h0 : xo (nx h) % 3 = 0) : ∃ j, j < k ∧ Stop j (nx (nx h)) ∧ Stop j (nx (nx (nx (nx h)))) := by
  cases k with
  | zero => exact absurd h0 hs
  | succ j =>
    rcases hs with hs | ⟨h1, h2⟩
    · exact absurd h0 hs
    · exact ⟨j, Nat.lt_succ_self j, h1, h2⟩

end Go.Proofs.Ytfdjlgpdbgmdkaa
