/- Contracts: the great laws' helpers over moves and states. -/
import Derived.Test.YtcicjnpnhaddcaaDoorGreat
import Derived.Test.YtcicjnpnhaddcaaDoorMvS
namespace Go.Proofs.YtcicjnpnhaddcaaDoor
open Go.RowKit
set_option linter.unusedVariables false

theorem move_same (a b c : Int) (w : World) : (Op.equalIn 10000 36 (.agg #[.int .i64 a, .int .i64 b, .int .i64 c]) (.agg #[.int .i64 a, .int .i64 b, .int .i64 c])).run Tryd.prog w = .ok true w := by
  rw [show (10000 : Nat) = 9999 + 1 from rfl, run_equalIn_struct w 9999 36 _ _ (by kernel_rfl) (by kernel_rfl)]
  simp only [Program.fieldsOf, Tryd.underlying36]
  have u := Tryd.underlying2
  go_simp

set_option maxHeartbeats 1000000 in
theorem moves9_same (A A' : Option Addr) (n c c' : Nat) (M : List Mv) (w : World) (hL : M.length = n) (hn : n ≤ 1048576) (hI : Mvs w A M) (hJ : Mvs w A' M) :
    Calls Tryd.prog 20 #[.slice A n c, .slice A' n c'] w fun e w' => e = .returned (.bool true) ∧ ∃ m, w' = w.drewN m := by
  have HL := Lib.hid hL
  have HI := Lib.hid hI
  have HJ := Lib.hid hJ
  clear hL hI hJ
  go_enter Tryd.func20, Tryd.ntmps20
  go_wp2
  go_loopw [5] (fun i wr => ∃ k : Nat, k ≤ n ∧ i = .int .i64 k ∧ ∃ m, wr = w.drewN m) (fun i _ => n - (intOf i).toNat)
  case atStart => exact ⟨0, Nat.zero_le _, rfl, 0, rfl⟩
  case round =>
    obtain ⟨k, hk, rfl, m, rfl⟩ := hrel
    by_cases hlt : k < n
    · obtain ⟨g, rfl, hg, m0, m1, m2⟩ := HI.out k (by rw [HL.out]; exact hlt)
      obtain ⟨g', rfl, hg', q0, q1, q2⟩ := HJ.out k (by rw [HL.out]; exact hlt)
      generalize M[k]?.getD (0, 0, 0) = x at *
      obtain ⟨x1, x2, x3⟩ := x
      simp only at m0 m1 m2 q0 q1 q2
      have hi0 : (0 : Int) ≤ (k : Int) := by omega
      have hi1 : (k : Int) < (n : Int) := by omega
      have heq := move_same x1 x2 x3
      go_wp2_with fail
      go_quiet (fail)
      go_wp2
      go_roundw
      case rel => exact ⟨k + 1, by omega, by go_num, by first | exact ⟨_, rfl⟩ | exact ⟨_, World.drewN_drewN _ _ _⟩⟩
      case measure => simp [intOf]; omega
    · obtain rfl : k = n := by omega
      go_wp2
      go_ret
      exact ⟨rfl, _, rfl⟩

theorem state9_same (A A' : Option Addr) (n c c' : Nat) (p : Int) (L : List Int) (w : World) (hL : L.length = n) (hn : n ≤ 1048576) (hI : Ints w A L) (hJ : Ints w A' L) :
    Calls Tryd.prog 8 #[.agg #[.int .i64 p, .slice A n c], .agg #[.int .i64 p, .slice A' n c']] w fun e w' => e = .returned (.bool true) ∧ Below w.heap.size w w' := by
  have HB0 := Lib.hid (((Below.refl w.heap.size w).alloc (Nat.le_refl _) (.cells #[.int .i64 p, .slice A n c] 28)).alloc (by simp) (.cells #[.int .i64 p, .slice A' n c'] 28))
  have HI := Lib.hid (hI.below HB0.out)
  have HJ := Lib.hid (hJ.below HB0.out)
  go_enter Tryd.func8, Tryd.ntmps8
  go_wp2_with fail
  refine (likeInts_calls A A' n c n c' L L _ hL hL hn hn HI.out HJ.out).mono ?_
  rintro e w1 ⟨rfl, d, rfl⟩
  rw [show decide (L = L) = true by simp]
  go_wp2
  go_ret
  exact ⟨rfl, belowDraws HB0.out _⟩

end Go.Proofs.YtcicjnpnhaddcaaDoor
