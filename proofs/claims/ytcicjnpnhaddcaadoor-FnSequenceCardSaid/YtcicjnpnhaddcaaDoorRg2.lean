/- Contracts: the ring of a step up to MaxTime and a little beyond. -/
import Derived.Test.YtcicjnpnhaddcaaDoorTz
import Derived.Test.YtcicjnpnhaddcaaDoorTen
namespace Go.Proofs.YtcicjnpnhaddcaaDoor
open Go.RowKit
open Go.RowKit (wrap64)
set_option linter.unusedVariables false

theorem ctz_lib2 {x : Nat} (h0 : 0 < x) (h : x ≤ 2000000000000) : Lib.ctz 64 x = ctz x := by
  unfold Lib.ctz
  rw [if_neg (by omega), ctz_from 64 x h0 (by omega)]
theorem trailing_big (x : Nat) (w : World) (h0 : 0 < x) (h1 : x ≤ 2000000000000) (hT : Tab w) :
    Calls Tryd.prog 72 #[.int .u64 x] w fun e w' => e = .returned (.int .i64 (ctz x)) ∧ w = w' := by
  obtain ⟨hlow, hk⟩ := Lib.lowest_bit 64 x (by omega) (by omega)
  obtain ⟨hi, htab⟩ := Lib.deBruijn64_at _ hk
  have hcell := hT _ hi
  rw [htab] at hcell
  rw [ctz_lib2 h0 h1] at *
  exact trailing_core x _ _ w (by simp; omega) (tz64_key x _ (by omega) (by omega) hlow) hi hk hcell

theorem ringOfStep_big (x : Nat) (w : World) (h0 : 0 < x) (h1 : x ≤ 2000000000000) (hT : Tab w) :
    Calls Tryd.prog 61 #[.int .i64 x] w fun e w' => e = .returned (.int .i64 (ctz x)) ∧ w = w' := by
  go_enter Tryd.func61, Tryd.ntmps61
  go_wp2_with fail
  refine (trailing_big x _ h0 h1 hT).mono ?_
  rintro e w' ⟨rfl, rfl⟩
  go_wp2
  go_ret
  exact ⟨rfl, rfl⟩

set_option maxHeartbeats 400000 in
theorem l10Disc_calls (t : Nat) (w : World) (h0 : 0 < t) (h1 : t ≤ 2000000000000) :
    Calls Tryd.prog 42 #[.int .i64 t] w fun e w' => e = .returned (.int .i64 (ctz t)) ∧ w = w' := by
  go_enter Tryd.func42, Tryd.ntmps42
  go_wp2
  go_loop [0, 3] (fun u i => ∃ k x : Nat, 0 < x ∧ x ≤ 2000000000000 ∧ k + x ≤ 2000000000000 ∧ u = .int .i64 x ∧ i = .int .i64 k ∧ Hid (ctz t = k + ctz x)) (fun u _ => (intOf u).toNat)
  case atStart => exact ⟨0, t, h0, h1, by omega, rfl, rfl, by unfold Hid; omega⟩
  case round =>
    obtain ⟨k, x, hx0, hx1, hk, rfl, rfl, hc⟩ := hrel
    by_cases he : x % 2 = 0
    · have hd : ((x : Int) % 2 == 0) = true := by simp; omega
      have hs := Lib.hid (ctz_even he hx0)
      have hx2 : 2 ≤ x := by omega
      clear he
      go_wp2
      go_round
      case rel => exact ⟨k + 1, x / 2, by omega, by omega, by omega, by go_num, by go_num, by unfold Hid; rw [hc.out, hs.out]; omega⟩
      case measure => simp [intOf]; omega
    · have hd : ((x : Int) % 2 == 0) = false := by simp; omega
      have hs := Lib.hid (ctz_odd (t := x) (by omega))
      clear he
      go_wp2
      go_ret
      exact ⟨ret_cz (by rw [hc.out, hs.out]; simp), rfl⟩

theorem ctz_form : ∀ (f t : Nat), 0 < t → t < 2 ^ f → ∃ q, t = 2 ^ ctz t * (2 * q + 1) ∧ ctz t < f
  | 0, t, h0, h => by simp at h; omega
  | f + 1, t, h0, h => by
    by_cases he : t % 2 = 0
    · obtain ⟨q, hq, hl⟩ := ctz_form f (t / 2) (by omega) (by rw [Nat.pow_succ] at h; omega)
      refine ⟨q, ?_, by rw [ctz_even he h0]; omega⟩
      rw [ctz_even he h0, Nat.pow_succ, Nat.mul_comm (2 ^ ctz (t / 2)) 2, Nat.mul_assoc, ← hq]
      omega
    · refine ⟨t / 2, ?_, by rw [ctz_odd (by omega)]; omega⟩
      rw [ctz_odd (by omega)]
      omega
theorem ctz_41 {t : Nat} (h0 : 0 < t) (h : t ≤ 2000000000000) : ctz t < 41 := (ctz_form 41 t h0 (Nat.lt_of_le_of_lt h (by decide))).elim fun _ h => h.2
/-- Where a disc of a time stands ahead of its move and behind it. -/
theorem mv_at {t : Nat} (h0 : 0 < t) (h : t ≤ 2000000000000) : mvN t (ctz t) = t / 2 ^ (ctz t + 1) + 1 := by
  obtain ⟨q, hq, _⟩ := ctz_form 41 t h0 (Nat.lt_of_le_of_lt h (by decide))
  unfold mvN
  generalize ctz t = d at *
  subst hq
  have hp : 0 < 2 ^ (d + 1) := Nat.two_pow_pos _
  have e1 : 2 ^ d * (2 * q + 1) = 2 ^ (d + 1) * q + 2 ^ d := by rw [Nat.pow_succ, Nat.mul_add, Nat.mul_one, Nat.mul_assoc]
  have e2 : 2 ^ d * (2 * q + 1) + 2 ^ d = 2 ^ (d + 1) * (q + 1) := by rw [e1, Nat.mul_add, Nat.mul_one, Nat.pow_succ]; omega
  have e3 : 2 ^ d < 2 ^ (d + 1) := by rw [Nat.pow_succ]; have := Nat.two_pow_pos d; omega
  rw [e2, Nat.mul_div_cancel_left _ hp, e1, Nat.mul_add_div hp, Nat.div_eq_of_lt e3]

end Go.Proofs.YtcicjnpnhaddcaaDoor
