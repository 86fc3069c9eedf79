/- Contracts: the ring of a step by the program: math/bits.TrailingZeros64 over its table. -/
import Derived.Test.YtcicjnpnhaddcaaDoorCtz
import Derived.Shelf.Spec.TrailingZeros
namespace Go.Proofs.YtcicjnpnhaddcaaDoor
open Go.RowKit
set_option linter.unusedVariables false

theorem ctz_from : ∀ (f x : Nat), 0 < x → x < 2 ^ f → Lib.ctzFrom f x = ctz x
  | 0, x, h0, h => by simp at h; omega
  | f + 1, x, h0, h => by
    unfold Lib.ctzFrom
    by_cases hx : x % 2 = 1
    · rw [if_pos hx, ctz_odd hx]
    · rw [if_neg hx, ctz_even (by omega) h0, ctz_from f (x / 2) (by omega) (by rw [Nat.pow_succ] at h; omega)]
      omega
theorem ctz_lib {x : Nat} (h0 : 0 < x) (h : x ≤ 65536) : Lib.ctz 64 x = ctz x := by
  unfold Lib.ctz
  rw [if_neg (by omega), ctz_from 64 x h0 (by omega)]
/-- The table lies in its variable. -/
def Tab (w : World) : Prop := TabAt 0 Lib.deBruijn64tab w
theorem Tab.below {w w' : World} (h : Tab w) (hb : Below w.heap.size w w') : Tab w' := by
  intro j hj
  have h1 := h j hj
  rw [hb.cell (block_of_cell h1)]
  exact h1

set_option maxHeartbeats 1000000 in
theorem trailing_core (x k idx : Nat) (w : World) (hx0 : ((x : Int) == 0) = false)
    (key : IntKind.u64.wrap (bits BinOp.and IntKind.u64 (x : Int) (IntKind.u64.wrap (-(x : Int))) * 285870213051353865) / 288230376151711744 = (idx : Int))
    (hi : idx < 64) (hk : k < 64) (hcell : w.cell? ⟨0, idx, none⟩ = some (.int .u8 k)) :
    Calls Tryd.prog 72 #[.int .u64 x] w fun e w' => e = .returned (.int .i64 k) ∧ w = w' := by
  go_enter Tryd.func72, Tryd.ntmps72
  go_wp2_with (simp only [key])
  go_ret
  exact ⟨rfl, rfl⟩

theorem trailing_calls (x : Nat) (w : World) (h0 : 0 < x) (h1 : x ≤ 65536) (hT : Tab w) :
    Calls Tryd.prog 72 #[.int .u64 x] w fun e w' => e = .returned (.int .i64 (ctz x)) ∧ w = w' := by
  obtain ⟨hlow, hk⟩ := Lib.lowest_bit 64 x (by omega) (by omega)
  obtain ⟨hi, htab⟩ := Lib.deBruijn64_at _ hk
  have hcell := hT _ hi
  rw [htab] at hcell
  rw [ctz_lib h0 h1] at *
  exact trailing_core x _ _ w (by simp; omega) (tz64_key x _ (by omega) (by omega) hlow) hi hk hcell

theorem ringOfStep_calls (x : Nat) (w : World) (h0 : 0 < x) (h1 : x ≤ 65536) (hT : Tab w) :
    Calls Tryd.prog 61 #[.int .i64 x] w fun e w' => e = .returned (.int .i64 (ctz x)) ∧ w = w' := by
  go_enter Tryd.func61, Tryd.ntmps61
  go_wp2_with fail
  refine (trailing_calls x _ h0 h1 hT).mono ?_
  rintro e w' ⟨rfl, rfl⟩
  go_wp2
  go_ret
  exact ⟨rfl, rfl⟩

end Go.Proofs.YtcicjnpnhaddcaaDoor
