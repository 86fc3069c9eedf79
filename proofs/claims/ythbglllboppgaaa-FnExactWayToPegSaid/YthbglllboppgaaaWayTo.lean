/- Contracts: WayToPeg, by the specification's model and by the program. -/
import Derived.Test.YthbglllboppgaaaGoalsOf
import Derived.Test.YthbglllboppgaaaColl
namespace Go.Proofs.Ythbglllboppgaaa
open Go.RowKit
set_option linter.unusedVariables false

def wtL (p : Int) (L : List Int) (a : Int) : List Mv := if codeW p L a = 0 then wayL L a else []
theorem wtL_len (p : Int) (L : List Int) (a : Int) : (wtL p L a).length ≤ 255 := by
  unfold wtL
  split
  · next h =>
    have h8 := (state_facts (codeW_zero h).1 rfl).2.2.1
    exact wayL_bd h8
  · simp
theorem movesToPeg_calls (A : Option Addr) (n c : Nat) (a : Int) (w : World) :
    Calls Try.prog 23 #[.slice A n c, .int .i64 a] w fun e w' => e = .returned (.func (.func 33) #[] #[.pointer (some ⟨w.heap.size, 0, none⟩), .pointer (some ⟨w.heap.size + 1, 0, none⟩)]) ∧ w' = (w.alloc (.cells #[.slice A n c] 22)).alloc (.cells #[.int .i64 a] 2) := by
  go_enter Try.func23, Try.ntmps23
  go_wp2
  go_ret
  exact ⟨rfl, rfl⟩

set_option maxHeartbeats 1000000 in
theorem specWayToPeg_ret (ad : Addr) (n c : Nat) (p : Int) (L : List Int) (a : Int) (w : World) (hL : L.length = n) (hn : n ≤ 1048576) (hI : Ints w (some ad) L) :
    Calls Try.prog 6 #[.agg #[.int .i64 p, .slice (some ad) n c], .int .i64 a] w (RetMvs w (wtL p L a).length (wtL p L a) (codeW p L a)) := by
  have HL := Lib.hid hL
  have X0 := Lib.hid (Box.new w 29 #[.int .i64 p, .slice (some ad) n c])
  have HB0 := Lib.hid ((Below.refl _ w).alloc (Nat.le_refl _) (.cells #[.int .i64 p, .slice (some ad) n c] 29))
  have HI0 := Lib.hid (hI.below HB0.out)
  clear hL hI
  by_cases hz : codeW p L a = 0
  · obtain ⟨hs, hp, ha⟩ := codeW_zero hz
    have e1 : wtL p L a = wayL L a := by unfold wtL; rw [if_pos hz]
    rw [e1, hz]
    have hz' : (codeW p L a != 0) = false := by simpa using hz
    subst hp
    have h8 := (state_facts hs HL.out).2.2.1
    have HP := Lib.hid (state_pegsOk hs)
    have HWB := Lib.hid (show (wayL L a).length ≤ 255 from wayL_bd (by rw [HL.out]; exact h8))
    clear e1 hz hs
    go_enter Try.func6, Try.ntmps6
    go_wp2_with fail
    refine (l02With_calls (some ad) n c 3 L a _ HL.out hn HI0.out).mono ?_
    rintro e w1 ⟨rfl, hb1⟩
    have X1 := Lib.hid (X0.out.below hb1 X0.out.lt)
    have HB1 := Lib.hid (HB0.out.trans (hb1.mono HB0.out.size))
    have HI1 := Lib.hid (HI0.out.below hb1)
    clear hb1
    obtain ⟨x0, x1, _, _⟩ := X1.out.two
    go_wp2_with fail
    refine (l02Way_calls (some ad) n c L a _ HL.out h8 (fun h => by cases h) HI1.out HP.out ha).mono ?_
    rintro e w2 ⟨A', c', rfl, hO, hb2⟩
    have HB2 := Lib.hid (HB1.out.trans (hb2.mono HB1.out.size))
    have HO := Lib.hid (OwnG.mono hO HB1.out.size)
    clear hb2 hO
    go_wp2
    go_ret2
    exact ⟨_, _, rfl, HO.out, HB2.out⟩
  · have hz' : (codeW p L a != 0) = true := by simpa using hz
    have e1 : wtL p L a = [] := by unfold wtL; rw [if_neg hz]
    rw [e1]
    clear e1
    show Calls _ _ _ _ (RetMvs w ([] : List Mv).length [] (codeW p L a))
    go_enter Try.func6, Try.ntmps6
    go_wp2_with fail
    refine (l02With_calls (some ad) n c p L a _ HL.out hn HI0.out).mono ?_
    rintro e w1 ⟨rfl, hb1⟩
    have HB1 := Lib.hid (HB0.out.trans (hb1.mono HB0.out.size))
    clear hb1
    go_wp2
    go_ret2
    exact retMvs_zero rfl HB1.out

set_option maxHeartbeats 1000000 in
theorem implWayToPeg_ret (ad : Addr) (n c : Nat) (p : Int) (L : List Int) (a : Int) (w : World) (hL : L.length = n) (hn : n ≤ 1048576) (hI : Ints w (some ad) L) :
    Calls Try.prog 8 #[.agg #[.int .i64 p, .slice (some ad) n c], .int .i64 a] w (RetMvs w (wtL p L a).length (wtL p L a) (codeW p L a)) := by
  have HL := Lib.hid hL
  have X0 := Lib.hid ((Box.new w 29 #[.int .i64 p, .slice (some ad) n c]).alloc (.cells #[.int .i64 p, .slice (some ad) n c] 29))
  have hX : Box ((w.alloc (.cells #[.int .i64 p, .slice (some ad) n c] 29)).alloc (.cells #[.int .i64 p, .slice (some ad) n c] 29)) (w.heap.size + 1) 29 #[.int .i64 p, .slice (some ad) n c] := by
    have := Box.new (w.alloc (.cells #[.int .i64 p, .slice (some ad) n c] 29)) 29 #[.int .i64 p, .slice (some ad) n c]
    rwa [World.size_alloc] at this
  have Y0 := Lib.hid hX
  have HB0 := Lib.hid (((Below.refl _ w).alloc (Nat.le_refl _) (.cells #[.int .i64 p, .slice (some ad) n c] 29)).alloc (by simp) (.cells #[.int .i64 p, .slice (some ad) n c] 29))
  have HI0 := Lib.hid (hI.below HB0.out)
  clear hL hI hX
  by_cases hz : codeW p L a = 0
  · obtain ⟨hs, hp, ha⟩ := codeW_zero hz
    have e1 : wtL p L a = wayL L a := by unfold wtL; rw [if_pos hz]
    rw [e1, hz]
    have hz' : (codeW p L a != 0) = false := by simpa using hz
    subst hp
    have h8 := (state_facts hs HL.out).2.2.1
    have HP := Lib.hid (state_pegsOk hs)
    have HWB := Lib.hid (show (wayL L a).length ≤ 255 from wayL_bd (by rw [HL.out]; exact h8))
    clear e1 hz hs
    go_enter Try.func8, Try.ntmps8
    go_wp2_with fail
    refine (codeOfPeg_one (w.heap.size + 1) (some ad) n c 3 L a _ Y0.out HL.out hn HI0.out).mono ?_
    rintro e w1 ⟨rfl, hb1⟩
    have X1 := Lib.hid (X0.out.below hb1 X0.out.lt)
    have HB1 := Lib.hid (HB0.out.trans (hb1.mono HB0.out.size))
    have HI1 := Lib.hid (HI0.out.below hb1)
    clear hb1
    obtain ⟨x0, x1, _, _⟩ := X1.out.two
    go_wp2_with fail
    refine (movesToPeg_calls (some ad) n c a _).mono ?_
    rintro e w2 ⟨rfl, rfl⟩
    have bP := (Box.new w1 22 #[.slice (some ad) n c]).alloc (.cells #[.int .i64 a] 2)
    have bA := Box.new (w1.alloc (.cells #[.slice (some ad) n c] 22)) 2 #[.int .i64 a]
    simp only [World.size_alloc] at bA
    have hb2 : Below w1.heap.size w1 ((w1.alloc (.cells #[.slice (some ad) n c] 22)).alloc (.cells #[.int .i64 a] 2)) := ((Below.refl _ _).alloc (Nat.le_refl _) _).alloc (by simp) _
    have hsz : ((w1.alloc (.cells #[.slice (some ad) n c] 22)).alloc (.cells #[.int .i64 a] 2)).heap.size = w1.heap.size + 2 := by simp
    have HI2 := Lib.hid (HI1.out.below hb2)
    have HB2 := Lib.hid (HB1.out.trans (hb2.mono HB1.out.size))
    have HSQ := Lib.hid (movesToPeg_priv 5 w1.heap.size (w1.heap.size + 1) (by omega) ad n c L a HL.out h8 HP.out ha _ bP bA HI2.out)
    clear hb2 x0 x1 bP bA
    go_wp2_with fail
    refine (collect_priv 33 _ _ (wayL L a) _ (enters_of Try.func33 (by kernel_rfl) rfl) HWB.out (fun b hb => by rcases hb with rfl | rfl <;> (rw [hsz]; omega)) HSQ.out).mono ?_
    rintro e w3 ⟨A', c', rfl, hO, hb3⟩
    have HB3 := Lib.hid (HB2.out.trans (hb3.mono HB2.out.size))
    have HO := Lib.hid (OwnG.mono hO HB2.out.size)
    clear hb3 hO hsz
    go_wp2
    go_ret2
    exact ⟨_, _, rfl, HO.out, HB3.out⟩
  · have hz' : (codeW p L a != 0) = true := by simpa using hz
    have e1 : wtL p L a = [] := by unfold wtL; rw [if_neg hz]
    rw [e1]
    clear e1
    show Calls _ _ _ _ (RetMvs w ([] : List Mv).length [] (codeW p L a))
    go_enter Try.func8, Try.ntmps8
    go_wp2_with fail
    refine (codeOfPeg_one (w.heap.size + 1) (some ad) n c p L a _ Y0.out HL.out hn HI0.out).mono ?_
    rintro e w1 ⟨rfl, hb1⟩
    have HB1 := Lib.hid (HB0.out.trans (hb1.mono HB0.out.size))
    clear hb1
    go_wp2
    go_ret2
    exact retMvs_zero rfl HB1.out

end Go.Proofs.Ythbglllboppgaaa
