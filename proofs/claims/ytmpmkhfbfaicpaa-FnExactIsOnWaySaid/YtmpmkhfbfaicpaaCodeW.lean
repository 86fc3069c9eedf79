/- Contracts: the code of a state and a peg; the goals and the distance to a peg. -/
import Derived.Test.YtmpmkhfbfaicpaaCode
namespace Go.Proofs.Ytmpmkhfbfaicpaa
open Go.RowKit
set_option linter.unusedVariables false

set_option maxHeartbeats 1000000 in
theorem l02With_calls (A : Option Addr) (n c : Nat) (p : Int) (L : List Int) (a : Int) (w : World) (hL : L.length = n) (hn : n ≤ 1048576) (hI : Ints w A L) :
    Calls Try.prog 21 #[.agg #[.int .i64 p, .slice A n c], .int .i64 a] w fun e w' => e = .returned (.int .i64 (codeW p L a)) ∧ Below w.heap.size w w' := by
  have HL := Lib.hid hL
  have hI1 := hI.below (((Below.refl _ w).alloc (Nat.le_refl _) (.cells #[.int .i64 p, .slice A n c] 30)).alloc (by simp) (.cells #[.int .i64 p, .slice A n c] 30))
  have hX : Box ((w.alloc (.cells #[.int .i64 p, .slice A n c] 30)).alloc (.cells #[.int .i64 p, .slice A n c] 30)) (w.heap.size + 1) 30 #[.int .i64 p, .slice A n c] := by
    have := Box.new (w.alloc (.cells #[.int .i64 p, .slice A n c] 30)) 30 #[.int .i64 p, .slice A n c]
    rwa [World.size_alloc] at this
  have hB0 : Below w.heap.size w ((w.alloc (.cells #[.int .i64 p, .slice A n c] 30)).alloc (.cells #[.int .i64 p, .slice A n c] 30)) := ((Below.refl _ _).alloc (Nat.le_refl _) _).alloc (by simp) _
  have X0 := Lib.hid hX
  have HB0 := Lib.hid hB0
  clear hL hX hB0
  by_cases hz : code1 p L = 0
  · have hz' : (code1 p L == 0) = true := by simpa using hz
    by_cases ha : inB a 0 2 = true
    · have HZ := Lib.hid hz
      have HA := Lib.hid ha
      clear hz
      go_enter Try.func21, Try.ntmps21
      go_wp2_with fail
      refine (l02Code_one (w.heap.size + 1) A n c p L _ X0.out HL.out hn hI1).mono ?_
      rintro e w1 ⟨rfl, hb1⟩
      have HB1 := Lib.hid (HB0.out.trans (hb1.mono HB0.out.size))
      clear hb1
      go_wp2_with fail
      refine (l01In_calls a 0 2 _).mono ?_
      rintro e w' ⟨rfl, rfl⟩
      go_wp2
      go_ret
      exact ⟨ret_int' (by unfold codeW; rw [if_pos HZ.out, if_pos HA.out, HZ.out]), HB1.out⟩
    · have ha' : inB a 0 2 = false := by simpa using ha
      have HZ := Lib.hid hz
      have HA := Lib.hid ha'
      clear hz ha
      go_enter Try.func21, Try.ntmps21
      go_wp2_with fail
      refine (l02Code_one (w.heap.size + 1) A n c p L _ X0.out HL.out hn hI1).mono ?_
      rintro e w1 ⟨rfl, hb1⟩
      have HB1 := Lib.hid (HB0.out.trans (hb1.mono HB0.out.size))
      clear hb1
      go_wp2_with fail
      refine (l01In_calls a 0 2 _).mono ?_
      rintro e w' ⟨rfl, rfl⟩
      go_wp2
      go_ret
      exact ⟨ret_int' (by unfold codeW; rw [if_pos HZ.out, if_neg (by simp [HA.out])]), HB1.out⟩
  · have hz' : (code1 p L == 0) = false := by simpa using hz
    have HZ := Lib.hid hz
    clear hz
    go_enter Try.func21, Try.ntmps21
    go_wp2_with fail
    refine (l02Code_one (w.heap.size + 1) A n c p L _ X0.out HL.out hn hI1).mono ?_
    rintro e w1 ⟨rfl, hb1⟩
    have HB1 := Lib.hid (HB0.out.trans (hb1.mono HB0.out.size))
    clear hb1
    go_wp2
    go_ret
    exact ⟨ret_int' (by unfold codeW; rw [if_neg HZ.out]), HB1.out⟩

set_option maxHeartbeats 1000000 in
theorem codeOfPeg_one (g : Nat) (A : Option Addr) (n c : Nat) (p : Int) (L : List Int) (a : Int) (w : World) (hx : Box w g 30 #[.int .i64 p, .slice A n c]) (hL : L.length = n) (hn : n ≤ 1048576) (hI : Ints w A L) :
    Calls Try.prog 24 #[.int .i64 a, .slice (some ⟨g, 0, none⟩) 1 1] w fun e w' => e = .returned (.int .i64 (codeW p L a)) ∧ Below w.heap.size w w' := by
  have HL := Lib.hid hL
  clear hL
  have hpg : pegB 3 a = inB a 0 2 := by rw [pegB_in]; rfl
  by_cases hz : code1 p L = 0
  · have hz' : (code1 p L == 0) = true := by simpa using hz
    by_cases ha : inB a 0 2 = true
    · have HZ := Lib.hid hz
      have HA := Lib.hid ha
      rw [← hpg] at ha
      clear hz hpg
      go_enter Try.func24, Try.ntmps24
      go_wp2_with fail
      refine (codeOfStates_one g A n c p L _ hx HL.out hn hI).mono ?_
      rintro e w1 ⟨rfl, hb1⟩
      go_wp2_with fail
      refine (isPeg_calls 3 a _).mono ?_
      rintro e w' ⟨rfl, rfl⟩
      go_wp2
      go_ret
      exact ⟨ret_int' (by unfold codeW; rw [if_pos HZ.out, if_pos HA.out, HZ.out]), hb1⟩
    · have ha' : inB a 0 2 = false := by simpa using ha
      have HZ := Lib.hid hz
      have HA := Lib.hid ha'
      rw [← hpg] at ha'
      clear hz ha hpg
      go_enter Try.func24, Try.ntmps24
      go_wp2_with fail
      refine (codeOfStates_one g A n c p L _ hx HL.out hn hI).mono ?_
      rintro e w1 ⟨rfl, hb1⟩
      go_wp2_with fail
      refine (isPeg_calls 3 a _).mono ?_
      rintro e w' ⟨rfl, rfl⟩
      go_wp2
      go_ret
      exact ⟨ret_int' (by unfold codeW; rw [if_pos HZ.out, if_neg (by simp [HA.out])]), hb1⟩
  · have hz' : (code1 p L == 0) = false := by simpa using hz
    have HZ := Lib.hid hz
    clear hz
    go_enter Try.func24, Try.ntmps24
    go_wp2_with fail
    refine (codeOfStates_one g A n c p L _ hx HL.out hn hI).mono ?_
    rintro e w1 ⟨rfl, hb1⟩
    go_wp2
    go_ret
    exact ⟨ret_int' (by unfold codeW; rw [if_neg HZ.out]), hb1⟩

end Go.Proofs.Ytmpmkhfbfaicpaa
