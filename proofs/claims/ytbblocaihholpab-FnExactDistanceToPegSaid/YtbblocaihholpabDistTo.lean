/- Contracts: DistanceToPeg, by the specification's model and by the program. -/
import Derived.Test.YtbblocaihholpabDist
namespace Go.Proofs.Ytbblocaihholpab
open Go.RowKit
set_option linter.unusedVariables false

def dpV (p : Int) (L : List Int) (a : Int) : Int := if codeW p L a = 0 then distP L a else 0

theorem ret_two' {a b c d : Int} (h : c = a) (h' : d = b) : Ending.returned (.tuple #[.int .i64 a, .int .i64 b]) = .returned (.tuple #[.int .i64 c, .int .i64 d]) := by rw [h, h']

set_option maxHeartbeats 1000000 in
theorem specDistTo_calls (A : Option Addr) (n c : Nat) (p : Int) (L : List Int) (a : Int) (w : World) (hL : L.length = n) (hn : n ≤ 1048576) (hI : Ints w A L) :
    Calls Try.prog 30 #[.agg #[.int .i64 p, .slice A n c], .int .i64 a] w fun e w' => e = .returned (.tuple #[.int .i64 (dpV p L a), .int .i64 (codeW p L a)]) ∧ Below w.heap.size w w' := by
  have HL := Lib.hid hL
  have X0 := Lib.hid (Box.new w 29 #[.int .i64 p, .slice A n c])
  have HB0 := Lib.hid ((Below.refl _ w).alloc (Nat.le_refl _) (.cells #[.int .i64 p, .slice A n c] 29))
  have HI0 := Lib.hid (hI.below HB0.out)
  clear hL hI
  by_cases hz : codeW p L a = 0
  · obtain ⟨hs, hp, ha⟩ := codeW_zero hz
    have e1 : Hid (dpV p L a = distP L a) := by unfold Hid dpV; rw [if_pos hz]
    have HZ := Lib.hid hz
    have hz' : (codeW p L a != 0) = false := by simpa using hz
    subst hp
    have h8 := (state_facts hs HL.out).2.2.1
    have HP := Lib.hid (state_pegsOk hs)
    clear hz hs
    go_enter Try.func30, Try.ntmps30
    go_wp2_with fail
    refine (l02With_calls A n c 3 L a _ HL.out hn HI0.out).mono ?_
    rintro e w1 ⟨rfl, hb1⟩
    have X1 := Lib.hid (X0.out.below hb1 X0.out.lt)
    have HB1 := Lib.hid (HB0.out.trans (hb1.mono HB0.out.size))
    have HI1 := Lib.hid (HI0.out.below hb1)
    clear hb1
    obtain ⟨x0, x1, _, _⟩ := X1.out.two
    go_wp2_with fail
    refine (l02To_calls A n c L a _ HL.out h8 HI1.out HP.out ha).mono ?_
    rintro e w2 ⟨rfl, hb2⟩
    have HB2 := Lib.hid (HB1.out.trans (hb2.mono HB1.out.size))
    clear hb2
    go_wp2
    go_ret2
    exact ⟨ret_two' e1.out HZ.out, HB2.out⟩
  · have hz' : (codeW p L a != 0) = true := by simpa using hz
    have e1 : Hid (dpV p L a = 0) := by unfold Hid dpV; rw [if_neg hz]
    go_enter Try.func30, Try.ntmps30
    go_wp2_with fail
    refine (l02With_calls A n c p L a _ HL.out hn HI0.out).mono ?_
    rintro e w1 ⟨rfl, hb1⟩
    have HB1 := Lib.hid (HB0.out.trans (hb1.mono HB0.out.size))
    clear hb1
    go_wp2
    go_ret2
    exact ⟨ret_two' e1.out rfl, HB1.out⟩

set_option maxHeartbeats 1000000 in
theorem implDistTo_calls (A : Option Addr) (n c : Nat) (p : Int) (L : List Int) (a : Int) (w : World) (hL : L.length = n) (hn : n ≤ 1048576) (hI : Ints w A L) :
    Calls Try.prog 31 #[.agg #[.int .i64 p, .slice A n c], .int .i64 a] w fun e w' => e = .returned (.tuple #[.int .i64 (dpV p L a), .int .i64 (codeW p L a)]) ∧ Below w.heap.size w w' := by
  have HL := Lib.hid hL
  have X0 := Lib.hid ((Box.new w 29 #[.int .i64 p, .slice A n c]).alloc (.cells #[.int .i64 p, .slice A n c] 29))
  have hX : Box ((w.alloc (.cells #[.int .i64 p, .slice A n c] 29)).alloc (.cells #[.int .i64 p, .slice A n c] 29)) (w.heap.size + 1) 29 #[.int .i64 p, .slice A n c] := by
    have := Box.new (w.alloc (.cells #[.int .i64 p, .slice A n c] 29)) 29 #[.int .i64 p, .slice A n c]
    rwa [World.size_alloc] at this
  have Y0 := Lib.hid hX
  have HB0 := Lib.hid (((Below.refl _ w).alloc (Nat.le_refl _) (.cells #[.int .i64 p, .slice A n c] 29)).alloc (by simp) (.cells #[.int .i64 p, .slice A n c] 29))
  have HI0 := Lib.hid (hI.below HB0.out)
  clear hL hI hX
  by_cases hz : codeW p L a = 0
  · obtain ⟨hs, hp, ha⟩ := codeW_zero hz
    have e1 : Hid (dpV p L a = distP L a) := by unfold Hid dpV; rw [if_pos hz]
    have HZ := Lib.hid hz
    have hz' : (codeW p L a != 0) = false := by simpa using hz
    subst hp
    have h8 := (state_facts hs HL.out).2.2.1
    have HP := Lib.hid (state_pegsOk hs)
    clear hz hs
    go_enter Try.func31, Try.ntmps31
    go_wp2_with fail
    refine (codeOfPeg_one (w.heap.size + 1) A n c 3 L a _ Y0.out HL.out hn HI0.out).mono ?_
    rintro e w1 ⟨rfl, hb1⟩
    have X1 := Lib.hid (X0.out.below hb1 X0.out.lt)
    have HB1 := Lib.hid (HB0.out.trans (hb1.mono HB0.out.size))
    have HI1 := Lib.hid (HI0.out.below hb1)
    clear hb1
    obtain ⟨x0, x1, _, _⟩ := X1.out.two
    go_wp2_with fail
    refine (distanceToPeg_calls A n c L a _ HL.out h8 HI1.out HP.out ha).mono ?_
    rintro e w2 ⟨rfl, hb2⟩
    have HB2 := Lib.hid (HB1.out.trans (hb2.mono HB1.out.size))
    clear hb2
    go_wp2
    go_ret2
    exact ⟨ret_two' e1.out HZ.out, HB2.out⟩
  · have hz' : (codeW p L a != 0) = true := by simpa using hz
    have e1 : Hid (dpV p L a = 0) := by unfold Hid dpV; rw [if_neg hz]
    go_enter Try.func31, Try.ntmps31
    go_wp2_with fail
    refine (codeOfPeg_one (w.heap.size + 1) A n c p L a _ Y0.out HL.out hn HI0.out).mono ?_
    rintro e w1 ⟨rfl, hb1⟩
    have HB1 := Lib.hid (HB0.out.trans (hb1.mono HB0.out.size))
    clear hb1
    go_wp2
    go_ret2
    exact ⟨ret_two' e1.out rfl, HB1.out⟩

end Go.Proofs.Ytbblocaihholpab
