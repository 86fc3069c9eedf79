/- Contracts: the code of a state and a peg; the goals and the distance to a peg. -/
import Derived.Test.YtepjdoonopbijaaDoorCode
namespace Go.Proofs.YtepjdoonopbijaaDoor
open Go.RowKit
set_option linter.unusedVariables false

set_option maxHeartbeats 1000000 in
theorem codeOfPeg_one (g : Nat) (A : Option Addr) (n c : Nat) (p : Int) (L : List Int) (a : Int) (w : World) (hx : Box w g 32 #[.int .i64 p, .slice A n c]) (hL : L.length = n) (hn : n ≤ 1048576) (hI : Ints w A L) :
    Calls Tryd.prog 16 #[.int .i64 a, .slice (some ⟨g, 0, none⟩) 1 1] w fun e w' => e = .returned (.int .i64 (codeW p L a)) ∧ Below w.heap.size w w' := by
  have HL := Lib.hid hL
  clear hL
  have hpg : pegB 3 a = inB a 0 2 := by rw [pegB_in]; rfl
  by_cases hz : code1 p L = 0
  · have hz' : (code1 p L == 0) = true := by simpa using hz
    by_cases ha : inB a 0 2 = true
    · have HZ := Lib.hid hz
      have HA := Lib.hid ha
      rw [← hpg] at ha
      clear hz hpg
      go_enter Tryd.func16, Tryd.ntmps16
      go_wp2_with fail
      refine (codeOfStates_one g A n c p L _ hx HL.out hn hI).mono ?_
      rintro e w1 ⟨rfl, hb1⟩
      go_wp2_with fail
      refine (isPeg_calls 3 a _).mono ?_
      rintro e w' ⟨rfl, rfl⟩
      go_wp2
      go_ret
      exact ⟨ret_int' (by unfold codeW; rw [if_pos HZ.out, if_pos HA.out, HZ.out]), hb1⟩
    · have ha' : inB a 0 2 = false := by simpa using ha
      have HZ := Lib.hid hz
      have HA := Lib.hid ha'
      rw [← hpg] at ha'
      clear hz ha hpg
      go_enter Tryd.func16, Tryd.ntmps16
      go_wp2_with fail
      refine (codeOfStates_one g A n c p L _ hx HL.out hn hI).mono ?_
      rintro e w1 ⟨rfl, hb1⟩
      go_wp2_with fail
      refine (isPeg_calls 3 a _).mono ?_
      rintro e w' ⟨rfl, rfl⟩
      go_wp2
      go_ret
      exact ⟨ret_int' (by unfold codeW; rw [if_pos HZ.out, if_neg (by simp [HA.out])]), hb1⟩
  · have hz' : (code1 p L == 0) = false := by simpa using hz
    have HZ := Lib.hid hz
    clear hz
    go_enter Tryd.func16, Tryd.ntmps16
    go_wp2_with fail
    refine (codeOfStates_one g A n c p L _ hx HL.out hn hI).mono ?_
    rintro e w1 ⟨rfl, hb1⟩
    go_wp2
    go_ret
    exact ⟨ret_int' (by unfold codeW; rw [if_neg HZ.out]), hb1⟩

end Go.Proofs.YtepjdoonopbijaaDoor
