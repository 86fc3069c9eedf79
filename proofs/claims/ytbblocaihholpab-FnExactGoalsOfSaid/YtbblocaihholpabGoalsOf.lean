/- Contracts: GoalsOf, by the specification's model and by the program. -/
import Derived.Test.YtbblocaihholpabDist
namespace Go.Proofs.Ytbblocaihholpab
open Go.RowKit
set_option linter.unusedVariables false

/-- A list of integers and a code are the answer; the list lies in the call's own memory. -/
def RetInts (w : World) (n : Nat) (L : List Int) (E : Int) (e : Ending) (w' : World) : Prop :=
  ∃ A c, e = .returned (.tuple #[.slice A n c, .int .i64 E]) ∧ Own w.heap.size w' A n c L ∧ Below w.heap.size w w'

def goE (p : Int) (L : List Int) (a : Int) : Int := codeW p L a
def goL (p : Int) (L : List Int) (a : Int) : List Int := if codeW p L a = 0 then goalsL L a else []
theorem goL_len (p : Int) (L : List Int) (a : Int) (h : L.length ≤ 1048576) : (goL p L a).length ≤ 1048576 := by
  unfold goL
  split
  · rw [goalsL_len]; exact h
  · simp

theorem retInts_zero {w w' : World} {e : Ending} {E : Int} (he : e = .returned (.tuple #[.slice none 0 0, .int .i64 E])) (hb : Below w.heap.size w w') : RetInts w ([] : List Int).length [] E e w' :=
  ⟨none, 0, he, Own.nilS _ _, hb⟩

set_option maxHeartbeats 1000000 in
theorem specGoalsOf_ret (A : Option Addr) (n c : Nat) (p : Int) (L : List Int) (a : Int) (w : World) (hL : L.length = n) (hn : n ≤ 1048576) (hI : Ints w A L) :
    Calls Try.prog 25 #[.agg #[.int .i64 p, .slice A n c], .int .i64 a] w (RetInts w (goL p L a).length (goL p L a) (goE p L a)) := by
  have HL := Lib.hid hL
  have X0 := Lib.hid (Box.new w 29 #[.int .i64 p, .slice A n c])
  have HB0 := Lib.hid ((Below.refl _ w).alloc (Nat.le_refl _) (.cells #[.int .i64 p, .slice A n c] 29))
  have HI0 := Lib.hid (hI.below HB0.out)
  clear hL hI
  by_cases hz : codeW p L a = 0
  · obtain ⟨hs, hp, ha⟩ := codeW_zero hz
    have e1 : goL p L a = goalsL L a := by unfold goL; rw [if_pos hz]
    have e2 : goE p L a = 0 := hz
    rw [e1, e2, goalsL_len, HL.out]
    have hz' : (codeW p L a != 0) = false := by simpa using hz
    subst hp
    have h8 := (state_facts hs HL.out).2.2.1
    have HP := Lib.hid (state_pegsOk hs)
    clear e1 e2 hz hs
    go_enter Try.func25, Try.ntmps25
    go_wp2_with fail
    refine (l02With_calls A n c 3 L a _ HL.out hn HI0.out).mono ?_
    rintro e w1 ⟨rfl, hb1⟩
    have X1 := Lib.hid (X0.out.below hb1 X0.out.lt)
    have HB1 := Lib.hid (HB0.out.trans (hb1.mono HB0.out.size))
    have HI1 := Lib.hid (HI0.out.below hb1)
    clear hb1
    obtain ⟨x0, x1, _, _⟩ := X1.out.two
    go_wp2_with fail
    refine (l02Goals_calls A n c L a _ HL.out h8 HI1.out HP.out ha).mono ?_
    rintro e w2 ⟨g, rfl, hg, hrow, hb2⟩
    have HB2 := Lib.hid (HB1.out.trans (hb2.mono HB1.out.size))
    have hrow' := hrow.own (B := w.heap.size) (Nat.le_trans HB1.out.size hg) (by rw [goalsL_len, HL.out]; exact hn)
    rw [goalsL_len, HL.out] at hrow'
    have HR := Lib.hid hrow'
    clear hb2 hrow hrow' hg
    go_wp2
    go_ret2
    exact ⟨_, _, rfl, HR.out, HB2.out⟩
  · have hz' : (codeW p L a != 0) = true := by simpa using hz
    have e1 : goL p L a = [] := by unfold goL; rw [if_neg hz]
    rw [e1]
    clear e1
    show Calls _ _ _ _ (RetInts w ([] : List Int).length [] (codeW p L a))
    go_enter Try.func25, Try.ntmps25
    go_wp2_with fail
    refine (l02With_calls A n c p L a _ HL.out hn HI0.out).mono ?_
    rintro e w1 ⟨rfl, hb1⟩
    have HB1 := Lib.hid (HB0.out.trans (hb1.mono HB0.out.size))
    clear hb1
    go_wp2
    go_ret2
    exact retInts_zero rfl HB1.out

set_option maxHeartbeats 1000000 in
theorem implGoalsOf_ret (A : Option Addr) (n c : Nat) (p : Int) (L : List Int) (a : Int) (w : World) (hL : L.length = n) (hn : n ≤ 1048576) (hI : Ints w A L) :
    Calls Try.prog 26 #[.agg #[.int .i64 p, .slice A n c], .int .i64 a] w (RetInts w (goL p L a).length (goL p L a) (goE p L a)) := by
  have HL := Lib.hid hL
  have X0 := Lib.hid ((Box.new w 29 #[.int .i64 p, .slice A n c]).alloc (.cells #[.int .i64 p, .slice A n c] 29))
  have hX : Box ((w.alloc (.cells #[.int .i64 p, .slice A n c] 29)).alloc (.cells #[.int .i64 p, .slice A n c] 29)) (w.heap.size + 1) 29 #[.int .i64 p, .slice A n c] := by
    have := Box.new (w.alloc (.cells #[.int .i64 p, .slice A n c] 29)) 29 #[.int .i64 p, .slice A n c]
    rwa [World.size_alloc] at this
  have Y0 := Lib.hid hX
  have HB0 := Lib.hid (((Below.refl _ w).alloc (Nat.le_refl _) (.cells #[.int .i64 p, .slice A n c] 29)).alloc (by simp) (.cells #[.int .i64 p, .slice A n c] 29))
  have HI0 := Lib.hid (hI.below HB0.out)
  clear hL hI hX
  by_cases hz : codeW p L a = 0
  · obtain ⟨hs, hp, ha⟩ := codeW_zero hz
    have e1 : goL p L a = goalsL L a := by unfold goL; rw [if_pos hz]
    have e2 : goE p L a = 0 := hz
    rw [e1, e2, goalsL_len, HL.out]
    have hz' : (codeW p L a != 0) = false := by simpa using hz
    subst hp
    have h8 := (state_facts hs HL.out).2.2.1
    have HP := Lib.hid (state_pegsOk hs)
    clear e1 e2 hz hs
    go_enter Try.func26, Try.ntmps26
    go_wp2_with fail
    refine (codeOfPeg_one (w.heap.size + 1) A n c 3 L a _ Y0.out HL.out hn HI0.out).mono ?_
    rintro e w1 ⟨rfl, hb1⟩
    have X1 := Lib.hid (X0.out.below hb1 X0.out.lt)
    have HB1 := Lib.hid (HB0.out.trans (hb1.mono HB0.out.size))
    have HI1 := Lib.hid (HI0.out.below hb1)
    clear hb1
    obtain ⟨x0, x1, _, _⟩ := X1.out.two
    go_wp2_with fail
    refine (goalsOf_calls A n c L a _ HL.out h8 HI1.out HP.out ha).mono ?_
    rintro e w2 ⟨g, rfl, hg, hrow, hb2⟩
    have HB2 := Lib.hid (HB1.out.trans (hb2.mono HB1.out.size))
    have hrow' := hrow.own (B := w.heap.size) (Nat.le_trans HB1.out.size hg) (by rw [goalsL_len, HL.out]; exact hn)
    rw [goalsL_len, HL.out] at hrow'
    have HR := Lib.hid hrow'
    clear hb2 hrow hrow' hg
    go_wp2
    go_ret2
    exact ⟨_, _, rfl, HR.out, HB2.out⟩
  · have hz' : (codeW p L a != 0) = true := by simpa using hz
    have e1 : goL p L a = [] := by unfold goL; rw [if_neg hz]
    rw [e1]
    clear e1
    show Calls _ _ _ _ (RetInts w ([] : List Int).length [] (codeW p L a))
    go_enter Try.func26, Try.ntmps26
    go_wp2_with fail
    refine (codeOfPeg_one (w.heap.size + 1) A n c p L a _ Y0.out HL.out hn HI0.out).mono ?_
    rintro e w1 ⟨rfl, hb1⟩
    have HB1 := Lib.hid (HB0.out.trans (hb1.mono HB0.out.size))
    clear hb1
    go_wp2
    go_ret2
    exact retInts_zero rfl HB1.out

end Go.Proofs.Ytbblocaihholpab
