/- Contracts: FormulaNumber, by the specification's model and by the program. -/
import Derived.Test.YtgjglpjnfhdebaaPnC
namespace Go.Proofs.Ytgjglpjnfhdebaa
open Go.RowKit
set_option linter.unusedVariables false

/-- The ways to choose i of m things. -/
def wcT (m : Nat) : Nat → Nat
  | 0 => 1
  | i + 1 => wcT m i * (m - i) / (i + 1)
/-- Some of the first k numbers of ways are greater than 1000. -/
def bigT (m : Nat) : Nat → Bool
  | 0 => false
  | i + 1 => bigT m i || decide (1000 < wcT m (i + 1))
def chT (m k : Nat) : Int := if bigT m k = true then 1000 else wcT m k
/-- The ways of the formula of q + 3 pegs, at s. -/
def wfT (q s : Nat) : Nat := wcT (s + q + 1) (q + 1)
theorem wcT_bd : ∀ m, m < 70 → ∀ j, j < 9 → wcT m j * (m - j) ≤ 4000000000000 := by decide
theorem wcT_le : ∀ m, m < 70 → ∀ j, j < 9 → wcT m j ≤ 4000000000000 := by decide
theorem wfT_ge : ∀ q, q < 8 → ∀ s, s < 61 → s + 1 ≤ wfT q s := by decide
theorem wfT_ch : ∀ q, q < 8 → ∀ s, s < 61 → bigT (s + q + 1) (q + 1) = true → 61 ≤ wfT q s := by decide
/-- The least s from some s on. -/
def fxT (q : Nat) (i : Nat) : Nat → Nat → Nat
  | 0, s => s
  | d + 1, s => if wfT q s < i then fxT q i d (s + 1) else s
def fxN (q i : Nat) : Nat := fxT q i 60 0
theorem fxT_eq (q i : Nat) : ∀ d s j, s + j ≤ s + d → (∀ t, s ≤ t → t < s + j → wfT q t < i) → ¬ wfT q (s + j) < i → fxT q i d s = s + j
  | 0, s, j, hj, _, _ => by obtain rfl : j = 0 := by omega
                            rfl
  | d + 1, s, 0, _, _, h => by rw [fxT, if_neg (by simpa using h)]; rfl
  | d + 1, s, j + 1, hj, hl, h => by
    rw [fxT, if_pos (hl s (by omega) (by omega)), fxT_eq q i d (s + 1) j (by omega) (fun t h1 h2 => hl t (by omega) (by omega)) (by rwa [show s + 1 + j = s + (j + 1) by omega])]
    omega
theorem fxN_eq {q i s : Nat} (hs : s ≤ 60) (hl : ∀ t, t < s → wfT q t < i) (h : ¬ wfT q s < i) : fxN q i = s := by
  have := fxT_eq q i 60 0 s (by omega) (fun t _ h2 => hl t (by omega)) (by rwa [Nat.zero_add])
  rw [Nat.zero_add] at this
  exact this
/-- The sum of the formula. -/
def fmS (q : Nat) : Nat → Int
  | 0 => 0
  | i + 1 => wrap64 (fmS q i + 2 ^ fxN q (i + 1))
def fmV (p n : Int) : Int := if prB 10 p 60 n = true then fmS (p - 3).toNat n.toNat else 0
theorem fmV_yes {q m : Nat} (h : prB 10 ((q : Int) + 3) 60 m = true) : fmV ((q : Int) + 3) m = fmS q m := by
  unfold fmV
  rw [if_pos h, show ((q : Int) + 3 - 3).toNat = q by omega, Int.toNat_natCast]
theorem fmV_no {p n : Int} (h : prB 10 p 60 n = false) : fmV p n = 0 := by unfold fmV; rw [h]; rfl
theorem wc_step {m i x y : Nat} (hm : i ≤ m) (hx : wcT m i = x) (hy : wcT m (i + 1) = y) : ((x : Int) * ((m : Int) - i)).tdiv ((i : Int) + 1) = y := by
  rw [← hy, wcT, hx, Int.tdiv_eq_ediv_of_nonneg (by apply Int.mul_nonneg <;> omega)]
  rw [show (m : Int) - i = ((m - i : Nat) : Int) by omega, Int.natCast_ediv, Int.natCast_mul]
  rfl
theorem wcm_bd {m i x : Nat} (hm : i ≤ m) (h70 : m < 70) (hi : i < 9) (hx : wcT m i = x) : 0 ≤ (x : Int) * ((m : Int) - i) ∧ (x : Int) * ((m : Int) - i) ≤ 4000000000000 := by
  have := wcT_bd m h70 i hi
  rw [hx] at this
  rw [show (m : Int) - i = ((m - i : Nat) : Int) by omega, ← Int.natCast_mul]
  omega
theorem wc_wrap {m i x y : Nat} (hm : i ≤ m) (h70 : m < 70) (hi : i < 8) (hx : wcT m i = x) (hy : wcT m (i + 1) = y) : wrap64 ((wrap64 ((x : Int) * ((m : Int) - i))).tdiv ((i : Int) + 1)) = y := by
  have hb := wcm_bd hm h70 (by omega) hx
  have hb' := wcT_le m h70 (i + 1) (by omega)
  rw [hy] at hb'
  have e1 : wrap64 ((x : Int) * ((m : Int) - i)) = (x : Int) * ((m : Int) - i) := IntWalk.wrap64_in _ (by omega)
  rw [e1, wc_step hm hx hy]
  exact IntWalk.wrap64_in _ (by omega)

set_option maxHeartbeats 1000000 in
theorem waysToChoose_calls (k m : Nat) (w : World) (hk : k < 9) (hm : k ≤ m) (h70 : m < 70) :
    Calls Try.prog 41 #[.int .i64 k, .int .i64 m] w fun e w' => e = .returned (.int .i64 (wcT m k : Nat)) ∧ w = w' := by
  go_enter Try.func41, Try.ntmps41
  go_wp2
  go_loop [5, 8] (fun o i => ∃ j x : Nat, j ≤ k ∧ i = .int .i64 j ∧ o = .int .i64 x ∧ Hid (wcT m j = x)) (fun _ i => k - (intOf i).toNat)
  case atStart => exact ⟨0, 1, Nat.zero_le _, rfl, rfl, rfl⟩
  case round =>
    obtain ⟨j, x, hj, rfl, rfl, hx⟩ := hrel
    by_cases hlt : j < k
    · obtain ⟨y, hy⟩ : ∃ y, Hid (wcT m (j + 1) = y) := ⟨_, rfl⟩
      have hst := Lib.hid (wc_wrap (by omega) h70 (by omega) hx.out hy.out)
      go_wp2
      go_round
      case rel => exact ⟨j + 1, y, by omega, by go_num, by rw [hst.out], hy⟩
      case measure => simp [intOf]; omega
    · obtain rfl : j = k := by omega
      go_wp2
      go_ret
      exact ⟨ret_int (by rw [hx.out]), rfl⟩

set_option maxHeartbeats 1000000 in
theorem l08Choose_calls (m k : Nat) (w : World) (hk : k < 9) (hm : k ≤ m) (h70 : m < 70) :
    Calls Try.prog 30 #[.int .i64 m, .int .i64 k] w fun e w' => e = .returned (.int .i64 (chT m k)) ∧ w = w' := by
  go_enter Try.func30, Try.ntmps30
  go_wp2
  go_loop [5, 6] (fun o i => ∃ j x : Nat, j ≤ k ∧ i = .int .i64 j ∧ o = .int .i64 x ∧ Hid (wcT m j = x) ∧ Hid (bigT m j = false)) (fun _ i => k - (intOf i).toNat)
  case atStart => exact ⟨0, 1, Nat.zero_le _, rfl, rfl, rfl, rfl⟩
  case round =>
    obtain ⟨j, x, hj, rfl, rfl, hx, hbg⟩ := hrel
    by_cases hlt : j < k
    · obtain ⟨y, hy⟩ : ∃ y, Hid (wcT m (j + 1) = y) := ⟨_, rfl⟩
      have hst := wc_wrap (by omega) h70 (by omega) hx.out hy.out
      have hjk : (j : Int) < (k : Int) := by omega
      by_cases h1000 : 1000 < y
      · have HBG := Lib.hid (show chT m k = 1000 by
          unfold chT
          rw [if_pos]
          have : ∀ d, bigT m (j + 1 + d) = true := by
            intro d
            induction d with
            | zero => rw [Nat.add_zero, bigT, hy.out, decide_eq_true h1000, Bool.or_true]
            | succ d ih => rw [← Nat.add_assoc, bigT, ih, Bool.true_or]
          have := this (k - (j + 1))
          rwa [show j + 1 + (k - (j + 1)) = k by omega] at this)
        have h1k : (1000 : Int) < (y : Int) := by omega
        go_wp2
        go_ret
        exact ⟨ret_int HBG.out.symm, rfl⟩
      · have HBG := Lib.hid (show bigT m (j + 1) = false by rw [bigT, hbg.out, hy.out, decide_eq_false h1000]; rfl)
        have h1k : ¬ (1000 : Int) < (y : Int) := by omega
        go_wp2
        go_round
        case rel => exact ⟨j + 1, y, by omega, by go_num, by rw [hst], hy, HBG⟩
        case measure => simp [intOf]; omega
    · obtain rfl : j = k := by omega
      have H := Lib.hid (show chT m j = (x : Nat) by unfold chT; rw [hbg.out, hx.out]; rfl)
      go_wp2
      go_ret
      exact ⟨ret_int H.out.symm, rfl⟩

set_option maxHeartbeats 1000000 in
theorem formulaExponent_calls (q i : Nat) (w : World) (hq : q < 8) (hi : i ≤ 60) :
    Calls Try.prog 29 #[.int .i64 ((q : Int) + 3), .int .i64 i] w fun e w' => e = .returned (.int .i64 (fxN q i : Nat)) ∧ w = w' ∧ fxN q i ≤ 60 := by
  go_enter Try.func29, Try.ntmps29
  go_wp2
  go_loop [5] (fun s => ∃ t : Nat, t ≤ i ∧ s = .int .i64 t ∧ Hid (∀ u, u < t → wfT q u < i)) (fun s => i - (intOf s).toNat)
  case atStart => exact ⟨0, Nat.zero_le _, rfl, fun u hu => absurd hu (by omega)⟩
  case round =>
    obtain ⟨t, ht, rfl, hu⟩ := hrel
    have hge := wfT_ge q hq t (by omega)
    go_wp2_with fail
    have e1 : ((q : Int) + 3 - 2) = ((q + 1 : Nat) : Int) := by omega
    have e2 : ((t : Int) + ((q : Int) + 3) - 2) = ((t + q + 1 : Nat) : Int) := by omega
    rw [e1, e2]
    refine (waysToChoose_calls (q + 1) (t + q + 1) _ (by omega) (by omega) (by omega)).mono ?_
    rintro e w' ⟨rfl, rfl⟩
    obtain ⟨W, hW⟩ : ∃ W, wfT q t = W := ⟨_, rfl⟩
    rw [hW] at hge
    rw [show wcT (t + q + 1) (q + 1) = W from hW]
    have HW := Lib.hid hW
    clear hW e1 e2
    by_cases hlt : W < i
    · have hlt' : (W : Int) < (i : Int) := by omega
      go_wp2
      go_round
      case rel =>
        refine ⟨t + 1, by omega, by go_num, fun u h => ?_⟩
        by_cases hut : u = t
        · subst hut; rw [HW.out]; exact hlt
        · exact hu.out u (by omega)
      case measure => simp [intOf]; omega
    · have HF := Lib.hid (fxN_eq (q := q) (i := i) (s := t) (by omega) hu.out (by rw [HW.out]; exact hlt))
      have hlt' : ¬ (W : Int) < (i : Int) := by omega
      go_wp2
      go_ret
      exact ⟨ret_int (by rw [HF.out]), rfl, by rw [HF.out]; omega⟩

theorem ch_lt {q t i : Nat} (hq : q < 8) (ht : t < 61) (hi : i ≤ 60) : chT (t + q + 1) (q + 1) < (i : Int) ↔ wfT q t < i := by
  unfold chT
  by_cases h : bigT (t + q + 1) (q + 1) = true
  · have := wfT_ch q hq t ht h
    rw [if_pos h]
    omega
  · rw [if_neg h]
    show ((wfT q t : Nat) : Int) < i ↔ _
    omega
theorem wcT_le' {q t : Nat} (hq : q < 8) (ht : t < 61) : 0 ≤ chT (t + q + 1) (q + 1) ∧ chT (t + q + 1) (q + 1) ≤ 4000000000000 := by
  unfold chT
  have := wcT_le (t + q + 1) (by omega) (q + 1) (by omega)
  split <;> omega
theorem shl60 {s : Nat} (h : s ≤ 60) : wrap64 ((2 : Int) ^ s) = 2 ^ s := by
  have h1 : ((2 ^ s : Nat) : Int) = (2 : Int) ^ s := by simp
  have h2 : 2 ^ s ≤ 2 ^ 60 := Nat.pow_le_pow_right (by omega) h
  have h3 : (2 : Nat) ^ 60 = 1152921504606846976 := by decide
  rw [h3] at h2
  rw [← h1]
  generalize (2 : Nat) ^ s = x at *
  exact IntWalk.wrap64_in _ (by omega)
theorem ret_two' {a b c d : Int} (h : a = b) (h' : c = d) : Ending.returned (.tuple #[.int .i64 a, .int .i64 c]) = .returned (.tuple #[.int .i64 b, .int .i64 d]) := by rw [h, h']

set_option maxHeartbeats 2000000 in
theorem implFormulaNumber_calls (p n : Int) (w : World) :
    Calls Try.prog 15 #[.int .i64 p, .int .i64 n] w fun e w' => e = .returned (.tuple #[.int .i64 (fmV p n), .int .i64 (prC 10 p 60 n)]) ∧ w = w' := by
  by_cases hB : prB 10 p 60 n = true
  · have hbd := prB_of hB
    obtain ⟨m, rfl⟩ := Int.eq_ofNat_of_zero_le hbd.2.2.1
    obtain ⟨q, rfl⟩ : ∃ q : Nat, p = (q : Int) + 3 := ⟨(p - 3).toNat, by omega⟩
    have HV := Lib.hid (fmV_yes hB)
    have HC := Lib.hid (prC_yes hB)
    have hq : q < 8 := by omega
    have hm : m ≤ 60 := by omega
    clear hB hbd
    go_enter Try.func15, Try.ntmps15
    go_wp2_with fail
    refine (codeOfPresumed_calls _ _ _ _ _).mono ?_
    rw [HC.out]
    rintro e w' ⟨rfl, rfl⟩
    go_wp2
    go_loop [7, 8] (fun o i => ∃ j : Nat, j ≤ m ∧ i = .int .i64 ((j : Int) + 1) ∧ o = .int .i64 (fmS q j)) (fun _ i => m + 1 - (intOf i).toNat)
    case atStart => exact ⟨0, Nat.zero_le _, rfl, rfl⟩
    case round =>
      obtain ⟨j, hj, rfl, rfl⟩ := hrel
      by_cases hlt : j < m
      · have hj1 : (j : Int) + 1 ≤ m := by omega
        go_wp2_with fail
        refine (formulaExponent_calls q (j + 1) _ hq (by omega)).mono ?_
        rintro e w' ⟨rfl, rfl, h60⟩
        have HF := Lib.hid (show fmS q (j + 1) = wrap64 (fmS q j + 2 ^ fxN q (j + 1)) from rfl)
        generalize fxN q (j + 1) = s at *
        generalize fmS q j = f at *
        have hsh := shl60 h60
        go_wp2
        go_round
        case rel =>
          exact ⟨j + 1, by omega, by go_num, by rw [HF.out]⟩
        case measure => simp [intOf]; omega
      · obtain rfl : j = m := by omega
        go_wp2
        go_ret2
        exact ⟨ret_two' HV.out.symm HC.out.symm, rfl⟩
  · have hB' : prB 10 p 60 n = false := by simpa using hB
    have HC := Lib.hid (prC_no hB')
    have HV := Lib.hid (fmV_no hB')
    clear hB hB'
    go_enter Try.func15, Try.ntmps15
    go_wp2_with fail
    refine (codeOfPresumed_calls _ _ _ _ _).mono ?_
    rw [HC.out]
    rintro e w' ⟨rfl, rfl⟩
    go_wp2
    go_ret2
    exact ⟨ret_two' HV.out.symm HC.out.symm, rfl⟩

set_option maxHeartbeats 2000000 in
theorem specFormulaNumber_calls (p n : Int) (w : World) :
    Calls Try.prog 16 #[.int .i64 p, .int .i64 n] w fun e w' => e = .returned (.tuple #[.int .i64 (fmV p n), .int .i64 (prC 10 p 60 n)]) ∧ w = w' := by
  by_cases hB : prB 10 p 60 n = true
  · have hbd := prB_of hB
    obtain ⟨m, rfl⟩ := Int.eq_ofNat_of_zero_le hbd.2.2.1
    obtain ⟨q, rfl⟩ : ∃ q : Nat, p = (q : Int) + 3 := ⟨(p - 3).toNat, by omega⟩
    have HV := Lib.hid (fmV_yes hB)
    have HC := Lib.hid (prC_yes hB)
    have hq : q < 8 := by omega
    have hm : m ≤ 60 := by omega
    clear hB hbd
    go_enter Try.func16, Try.ntmps16
    go_wp2_with fail
    refine (l08Code_calls _ _ _).mono ?_
    rw [HC.out]
    rintro e w' ⟨rfl, rfl⟩
    go_wp2
    go_loop [7, 8] (fun o i => ∃ j : Nat, j ≤ m ∧ i = .int .i64 ((j : Int) + 1) ∧ o = .int .i64 (fmS q j)) (fun _ i => m + 1 - (intOf i).toNat)
    case atStart => exact ⟨0, Nat.zero_le _, rfl, rfl⟩
    case round =>
      obtain ⟨j, hj, rfl, rfl⟩ := hrel
      by_cases hlt : j < m
      · have hj1 : (j : Int) + 1 ≤ m := by omega
        go_wp2
        go_loop [9] (fun s => ∃ t : Nat, t ≤ j + 1 ∧ s = .int .i64 t ∧ Hid (∀ u, u < t → wfT q u < j + 1)) (fun s => j + 1 - (intOf s).toNat)
        case atStart => exact ⟨0, Nat.zero_le _, rfl, fun u hu => absurd hu (by omega)⟩
        case round =>
          obtain ⟨t, ht, rfl, hu⟩ := hrel
          have hge := wfT_ge q hq t (by omega)
          go_wp2_with fail
          have e1 : ((q : Int) + 3 - 2) = ((q + 1 : Nat) : Int) := by omega
          have e2 : ((t : Int) + ((q : Int) + 3) - 2) = ((t + q + 1 : Nat) : Int) := by omega
          rw [e1, e2]
          refine (l08Choose_calls (t + q + 1) (q + 1) _ (by omega) (by omega) (by omega)).mono ?_
          rintro e w' ⟨rfl, rfl⟩
          have hcl := ch_lt (i := j + 1) hq (t := t) (by omega) (by omega)
          have hcb := wcT_le' hq (t := t) (by omega)
          obtain ⟨C, hC⟩ : ∃ C, chT (t + q + 1) (q + 1) = C := ⟨_, rfl⟩
          rw [hC] at hcl hcb ⊢
          clear hC e1 e2
          by_cases hlt2 : wfT q t < j + 1
          · have hlt' : C < (j : Int) + 1 := by have := hcl.2 hlt2; omega
            have HL2 := Lib.hid hlt2
            clear hcl hlt2
            go_wp2
            go_round
            case rel =>
              refine ⟨t + 1, by have := HL2.out; omega, by go_num, fun u h => ?_⟩
              by_cases hut : u = t
              · subst hut; exact HL2.out
              · exact hu.out u (by omega)
            case measure => simp [intOf]; have := HL2.out; omega
          · have hx := fxN_eq (q := q) (i := j + 1) (s := t) (by omega) hu.out hlt2
            have hlt' : ¬ C < (j : Int) + 1 := by intro h; exact hlt2 (hcl.1 (by omega))
            have HF := Lib.hid (show fmS q (j + 1) = wrap64 (fmS q j + 2 ^ t) by rw [fmS, hx])
            have hsh := shl60 (s := t) (by omega)
            generalize fmS q j = f at *
            clear hcl hlt2 hx hge
            go_wp2
            go_round
            case rel =>
                  exact ⟨j + 1, by omega, by go_num, by rw [HF.out]⟩
            case measure => simp [intOf]; omega
      · obtain rfl : j = m := by omega
        go_wp2
        go_ret2
        exact ⟨ret_two' HV.out.symm HC.out.symm, rfl⟩
  · have hB' : prB 10 p 60 n = false := by simpa using hB
    have HC := Lib.hid (prC_no hB')
    have HV := Lib.hid (fmV_no hB')
    clear hB hB'
    go_enter Try.func16, Try.ntmps16
    go_wp2_with fail
    refine (l08Code_calls _ _ _).mono ?_
    rw [HC.out]
    rintro e w' ⟨rfl, rfl⟩
    go_wp2
    go_ret2
    exact ⟨ret_two' HV.out.symm HC.out.symm, rfl⟩

end Go.Proofs.Ytgjglpjnfhdebaa
