/- The ring of a step, and the specification's contract. -/
import Derived.Test.YtlhcenhlcajgnaaDoorState1
import Derived.Test.YtlhcenhlcajgnaaDoorBase
namespace Go.Proofs.YtlhcenhlcajgnaaDoor
open Go.RowKit
set_option linter.unusedVariables false

/-- The ring of a step: how often 2 divides it. -/
def ctz (t : Nat) : Nat := if h : t % 2 = 0 ∧ 0 < t then ctz (t / 2) + 1 else 0
termination_by t
decreasing_by omega
theorem ctz_odd {t : Nat} (h : t % 2 = 1) : ctz t = 0 := by
  unfold ctz
  rw [dif_neg (by omega)]
theorem ctz_even {t : Nat} (h : t % 2 = 0) (h0 : 0 < t) : ctz t = ctz (t / 2) + 1 := by
  rw [ctz, dif_pos ⟨h, h0⟩]
theorem ctz_two {q : Nat} (h : 0 < q) : ctz (2 * q) = ctz q + 1 := by
  rw [ctz_even (by omega) (by omega)]
  congr 2
  omega
theorem ret_cz {a b : Int} (h : a = b) : Ending.returned (.int .i64 a) = .returned (.int .i64 b) := by rw [h]

set_option maxHeartbeats 400000 in
theorem l05Ring_calls (t : Nat) (w : World) (h0 : 0 < t) (h1 : t ≤ 65536) :
    Calls Tryd.prog 11 #[.int .i64 t] w fun e w' => e = .returned (.int .i64 (ctz t)) ∧ w = w' := by
  go_enter Tryd.func11, Tryd.ntmps11
  go_wp2
  go_loop [0, 3] (fun u i => ∃ k x : Nat, 0 < x ∧ x ≤ 65536 ∧ k + x ≤ 65536 ∧ u = .int .i64 x ∧ i = .int .i64 k ∧ Hid (ctz t = k + ctz x)) (fun u _ => (intOf u).toNat)
  case atStart => exact ⟨0, t, h0, h1, by omega, rfl, rfl, by unfold Hid; omega⟩
  case round =>
    obtain ⟨k, x, hx0, hx1, hk, rfl, rfl, hc⟩ := hrel
    by_cases he : x % 2 = 0
    · have hd : ((x : Int) % 2 == 0) = true := by simp; omega
      have hs := Lib.hid (ctz_even he hx0)
      have hx2 : 2 ≤ x := by omega
      clear he
      go_wp2
      go_round
      case rel => exact ⟨k + 1, x / 2, by omega, by omega, by omega, by go_num, by go_num, by unfold Hid; rw [hc.out, hs.out]; omega⟩
      case measure => simp [intOf]; omega
    · have hd : ((x : Int) % 2 == 0) = false := by simp; omega
      have hs := Lib.hid (ctz_odd (t := x) (by omega))
      clear he
      go_wp2
      go_ret
      exact ⟨ret_cz (by rw [hc.out, hs.out]; simp), rfl⟩

end Go.Proofs.YtlhcenhlcajgnaaDoor
