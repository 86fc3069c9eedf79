/- Contracts: the code of one state and of two states of three pegs. -/
import Derived.Test.YtepjdoonopbijaaDoorState1
import Derived.Test.YtepjdoonopbijaaDoorWays
import Derived.Deep.DeepCutAuto
namespace Go.Proofs.YtepjdoonopbijaaDoor
open Go.RowKit
set_option linter.unusedVariables false

theorem ret_int' {a b : Int} (h : b = a) : Ending.returned (.int .i64 a) = .returned (.int .i64 b) := by rw [h]

set_option maxHeartbeats 1000000 in
theorem codeOfStates_one (g : Nat) (A : Option Addr) (n c : Nat) (p : Int) (L : List Int) (w : World) (hx : Box w g 32 #[.int .i64 p, .slice A n c]) (hL : L.length = n) (hn : n ≤ 1048576) (hI : Ints w A L) :
    Calls Tryd.prog 26 #[.slice (some ⟨g, 0, none⟩) 1 1] w fun e w' => e = .returned (.int .i64 (code1 p L)) ∧ Below w.heap.size w w' := by
  have HL := Lib.hid hL
  have X0 := Lib.hid hx
  clear hL hx
  obtain ⟨x0, x1, _, _⟩ := X0.out.two
  have hI1 := hI.below ((Below.refl _ w).alloc (Nat.le_refl _) (.cells #[.int .i64 p, .slice A n c] 32))
  by_cases hs : stateB p L = true
  · have HS := Lib.hid hs
    by_cases hp : p = 3
    · have hd : (p != 3) = false := by simpa using hp
      have HP := Lib.hid hp
      clear hp
      go_enter Tryd.func26, Tryd.ntmps26
      go_wp2
      refine wp_loop_rounds 2 ?_
      rw [rounds_succ]
      go_wp2_with fail
      refine (implIsState_calls A n c p L _ HL.out hn hI1).mono ?_
      rintro e w1 ⟨rfl, hb1⟩
      have X1 := Lib.hid ((X0.out.alloc (.cells #[.int .i64 p, .slice A n c] 32)).below hb1 (by have := X0.out.lt; simp; omega))
      have HB := Lib.hid (((Below.refl _ w).alloc (Nat.le_refl _) (.cells #[.int .i64 p, .slice A n c] 32)).trans (hb1.mono (by simp)))
      clear hb1 x0 x1
      obtain ⟨x0, x1, _, _⟩ := X1.out.two
      obtain ⟨y0, y1, _, _⟩ := (X1.out.alloc (.cells #[.int .i64 p, .slice A n c] 32)).two
      go_wp2
      rw [rounds_succ]
      go_wp2
      refine wp_loop_rounds 2 ?_
      rw [rounds_succ]
      go_wp2_with fail
      go_quiet (fail)
      go_wp2
      rw [rounds_succ]
      go_wp2
      go_ret
      exact ⟨ret_int' (by unfold code1; rw [if_pos HS.out, if_pos HP.out]), by first | exact belowDraws (HB.out.alloc HB.out.size _) _ | exact HB.out.alloc HB.out.size _⟩
    · have hd : (p != 3) = true := by simpa using hp
      go_enter Tryd.func26, Tryd.ntmps26
      go_wp2
      refine wp_loop_rounds 2 ?_
      rw [rounds_succ]
      go_wp2_with fail
      refine (implIsState_calls A n c p L _ HL.out hn hI1).mono ?_
      rintro e w1 ⟨rfl, hb1⟩
      have X1 := Lib.hid ((X0.out.alloc (.cells #[.int .i64 p, .slice A n c] 32)).below hb1 (by have := X0.out.lt; simp; omega))
      have HB := Lib.hid (((Below.refl _ w).alloc (Nat.le_refl _) (.cells #[.int .i64 p, .slice A n c] 32)).trans (hb1.mono (by simp)))
      clear hb1 x0 x1
      obtain ⟨x0, x1, _, _⟩ := X1.out.two
      obtain ⟨y0, y1, _, _⟩ := (X1.out.alloc (.cells #[.int .i64 p, .slice A n c] 32)).two
      go_wp2
      rw [rounds_succ]
      go_wp2
      refine wp_loop_rounds 2 ?_
      rw [rounds_succ]
      go_wp2_with fail
      go_quiet (fail)
      go_wp2
      go_ret
      exact ⟨ret_int' (by unfold code1; rw [if_pos HS.out, if_neg hp]), by first | exact belowDraws (HB.out.alloc HB.out.size _) _ | exact HB.out.alloc HB.out.size _⟩
  · have hs' : stateB p L = false := by simpa using hs
    clear hs
    go_enter Tryd.func26, Tryd.ntmps26
    go_wp2
    refine wp_loop_rounds 2 ?_
    rw [rounds_succ]
    go_wp2_with fail
    refine (implIsState_calls A n c p L _ HL.out hn hI1).mono ?_
    rintro e w1 ⟨rfl, hb1⟩
    have HB := Lib.hid (((Below.refl _ w).alloc (Nat.le_refl _) (.cells #[.int .i64 p, .slice A n c] 32)).trans (hb1.mono (by simp)))
    clear hb1
    go_wp2
    go_ret
    exact ⟨ret_int' (by unfold code1; rw [if_neg (by simp [hs'])]), HB.out⟩

end Go.Proofs.YtepjdoonopbijaaDoor
