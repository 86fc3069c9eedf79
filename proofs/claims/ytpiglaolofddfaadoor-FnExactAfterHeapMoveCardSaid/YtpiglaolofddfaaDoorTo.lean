/- Contracts: the law's copies and sizes. -/
import Derived.Test.YtpiglaolofddfaaDoorEq
namespace Go.Proofs.YtpiglaolofddfaaDoor
open Go.RowKit
set_option linter.unusedVariables false

theorem szInt64S_calls (A : Option Addr) (n c : Nat) (left : Int) (w : World) (hn : n ≤ 9223372036854775807) (h0 : 0 ≤ left) (h1 : left ≤ 1048576) :
    Calls Tryd.prog 32 #[.slice A n c, .int .i64 left] w fun e w' => e = .returned (.int .i64 (szI n left)) ∧ w = w' := by
  by_cases h : left < n
  · go_enter Tryd.func32, Tryd.ntmps32
    go_wp2
    go_ret
    exact ⟨ret_int (by unfold szI; omega), rfl⟩
  · go_enter Tryd.func32, Tryd.ntmps32
    go_wp2
    go_ret
    exact ⟨ret_int (by unfold szI; omega), rfl⟩

theorem szI_lo (n : Nat) (left : Int) (h0 : 0 ≤ left) : -1 ≤ szI n left := by unfold szI; omega
theorem szI_hi (n : Nat) (left : Int) (h0 : 0 ≤ left) : szI n left ≤ left := by unfold szI; omega

set_option maxHeartbeats 400000 in
theorem toInt64S_calls (A : Option Addr) (n c : Nat) (L : List Int) (w : World) (hL : L.length = n) (hn : n ≤ 1048576) (hI : Ints w A L) :
    Calls Tryd.prog 36 #[.slice A n c] w fun e w' => ∃ g, e = .returned (.slice (some ⟨g, 0, none⟩) n n) ∧ w.heap.size ≤ g ∧ Row w' g 2 L ∧ Below w.heap.size w w' := by
  have hmk := run_make_row' (P := Tryd.prog) 61 2 (.int .i64 0) 8 Tryd.underlying61 Tryd.infoI rfl .i64 .i64 n (by omega) (by omega)
  have HL : Hid (L.length = n) := hL
  clear hL
  go_enter Tryd.func36, Tryd.ntmps36
  go_wp2
  go_loopw [4] (fun i wr => ∃ k : Nat, k ≤ n ∧ i = .int .i64 k ∧ wr.rowIs w.heap.size 2 n (upto L k) ∧ Below w.heap.size w wr) (fun i _ => n - (intOf i).toNat)
  case atStart =>
    exact ⟨0, Nat.zero_le _, rfl, (World.rowIs_made _ _ _ _).congr (fun i _ => by simp [upto]), (Below.refl _ _).alloc (Nat.le_refl _) _⟩
  case round =>
    obtain ⟨k, hk, rfl, hrow, hb⟩ := hrel
    by_cases hlt : k < n
    · obtain ⟨ad, rfl, had, hc⟩ := (hI.below hb) k (by rw [HL.out]; exact hlt)
      have hfz := hrow.frozen k
      have hold := hrow.cell hlt
      go_wp2
      go_roundw
      case rel => exact ⟨k + 1, by omega, by go_num, (hrow.set k _).congr (fun j _ => upto_step L k j), hb.setCell (Nat.le_refl _) _⟩
      case measure => simp [intOf]; omega
    · obtain rfl : k = n := by omega
      go_wp2
      go_ret
      exact ⟨_, rfl, Nat.le_refl _, by
        unfold Row
        rw [HL.out]
        exact hrow.congr (fun j hj => by simp [upto, hj]), hb⟩

end Go.Proofs.YtpiglaolofddfaaDoor
