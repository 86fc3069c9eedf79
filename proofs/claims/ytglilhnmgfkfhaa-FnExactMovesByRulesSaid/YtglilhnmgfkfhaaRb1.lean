/- Contracts: rules beside one state of three pegs. -/
import Derived.Test.YtglilhnmgfkfhaaRuCode
import Derived.Test.YtglilhnmgfkfhaaState1
namespace Go.Proofs.Ytglilhnmgfkfhaa
open Go.RowKit
set_option linter.unusedVariables false

/-- A state of three pegs. -/
def s3B (p : Int) (L : List Int) : Bool := stateB p L && decide (p = 3)
def cR1 (r : Nat → Int) (p : Int) (L : List Int) : Int := if (ruB r && s3B p L) = true then 0 else 1
theorem s3_yes {p : Int} {L : List Int} (h : stateB p L = true) (hp : p = 3) : s3B p L = true := by unfold s3B; rw [h, hp]; rfl
theorem s3_no1 {p : Int} {L : List Int} (h : stateB p L = false) : s3B p L = false := by unfold s3B; rw [h]; rfl
theorem s3_no2 {p : Int} {L : List Int} (h : ¬ p = 3) : s3B p L = false := by unfold s3B; rw [decide_eq_false h, Bool.and_false]
theorem s3_of {p : Int} {L : List Int} (h : s3B p L = true) : stateB p L = true ∧ p = 3 := by unfold s3B at h; simpa using h
theorem cR1_yes {r : Nat → Int} {p : Int} {L : List Int} (h : ruB r = true) (h' : s3B p L = true) : cR1 r p L = 0 := by unfold cR1; rw [h, h']; rfl
theorem cR1_no {r : Nat → Int} {p : Int} {L : List Int} (h : ¬ (ruB r = true ∧ s3B p L = true)) : cR1 r p L = 1 := by unfold cR1; rw [if_neg]; simpa using h

set_option maxHeartbeats 400000 in
theorem l07State_calls (A : Option Addr) (n c : Nat) (p : Int) (L : List Int) (w : World) (hL : L.length = n) (hn : n ≤ 1048576) (hI : Ints w A L) :
    Calls Try.prog 22 #[.agg #[.int .i64 p, .slice A n c]] w fun e w' => e = .returned (.bool (s3B p L)) ∧ Below w.heap.size w w' := by
  have HL := Lib.hid hL
  have X0 := Lib.hid (Box.new w 33 #[.int .i64 p, .slice A n c])
  have HB0 := Lib.hid ((Below.refl w.heap.size w).alloc (Nat.le_refl _) (.cells #[.int .i64 p, .slice A n c] 33))
  have HI0 := Lib.hid (hI.below HB0.out)
  clear hL hI
  rcases Bool.eq_false_or_eq_true (stateB p L) with hs | hs
  rotate_left
  · have HR := Lib.hid (show s3B p L = false from s3_no1 hs)
    go_enter Try.func22, Try.ntmps22
    go_wp2_with fail
    refine (l01Is_calls A n c p L _ HL.out hn HI0.out).mono ?_
    rintro e w1 ⟨rfl, hb1⟩
    have X1 := Lib.hid (X0.out.below hb1 X0.out.lt)
    have HB1 := Lib.hid (HB0.out.trans (hb1.mono HB0.out.size))
    obtain ⟨x0, x1, _, _⟩ := X1.out.two
    clear hb1
    go_wp2
    go_ret
    exact ⟨ret_bool HR.out.symm, HB1.out⟩
  by_cases hp : p = 3
  · have HR := Lib.hid (s3_yes hs hp)
    have hp' : (p == 3) = true := by simpa using hp
    clear hp
    go_enter Try.func22, Try.ntmps22
    go_wp2_with fail
    refine (l01Is_calls A n c p L _ HL.out hn HI0.out).mono ?_
    rintro e w1 ⟨rfl, hb1⟩
    have X1 := Lib.hid (X0.out.below hb1 X0.out.lt)
    have HB1 := Lib.hid (HB0.out.trans (hb1.mono HB0.out.size))
    obtain ⟨x0, x1, _, _⟩ := X1.out.two
    clear hb1
    go_wp2
    go_ret
    exact ⟨ret_bool HR.out.symm, HB1.out⟩
  · have HR := Lib.hid (s3_no2 (L := L) hp)
    have hp' : (p == 3) = false := by simpa using hp
    clear hp
    go_enter Try.func22, Try.ntmps22
    go_wp2_with fail
    refine (l01Is_calls A n c p L _ HL.out hn HI0.out).mono ?_
    rintro e w1 ⟨rfl, hb1⟩
    have X1 := Lib.hid (X0.out.below hb1 X0.out.lt)
    have HB1 := Lib.hid (HB0.out.trans (hb1.mono HB0.out.size))
    obtain ⟨x0, x1, _, _⟩ := X1.out.two
    clear hb1
    go_wp2
    go_ret
    exact ⟨ret_bool HR.out.symm, HB1.out⟩

set_option maxRecDepth 100000 in
set_option maxHeartbeats 2000000 in
theorem codeOfRules_one (r : Nat → Int) (hw : ∀ k, k < 9 → (Lit.int .i64 (r k)).wf = true) (g : Nat) (A : Option Addr) (n c : Nat) (p : Int) (L : List Int) (w : World) (hx : Box w g 33 #[.int .i64 p, .slice A n c]) (hL : L.length = n) (hn : n ≤ 1048576) (hI : Ints w A L) :
    Calls Try.prog 26 #[.agg (z9 r), .slice (some ⟨g, 0, none⟩) 1 1] w fun e w' => e = .returned (.int .i64 (cR1 r p L)) ∧ Below w.heap.size w w' := by
  have HW := Lib.hid hw
  have HL := Lib.hid hL
  have HB0 := Lib.hid ((Below.refl w.heap.size w).alloc (Nat.le_refl _) (.cells (z9 r) 31))
  have X0 := Lib.hid (hx.alloc (.cells (z9 r) 31))
  have HI0 := Lib.hid (hI.below HB0.out)
  clear hw hx hL hI
  by_cases hr : ruB r = true
  · have HR := Lib.hid hr
    by_cases hs : stateB p L = true
    · by_cases hp : p = 3
      · have HC := Lib.hid (cR1_yes hr (s3_yes hs hp))
        have hd : (p != 3) = false := by simpa using hp
        clear hp
        unfold z9
        go_enter Try.func26, Try.ntmps26
        go_wp2_with fail
        refine (implIsRules_calls r HW.out _).mono ?_
        rintro e w1 ⟨rfl, hb⟩
        have hb' := hb
        have HB1 := Lib.hid (HB0.out.trans (hb.mono (by simp)))
        have X1 := Lib.hid (X0.out.below hb X0.out.lt)
        have HI1 := Lib.hid (HI0.out.below hb)
        clear hb hb'
        obtain ⟨x0, x1, _, _⟩ := X1.out.two
        go_wp2
        refine wp_loop_rounds 2 ?_
        rw [rounds_succ]
        have hba : Below w1.heap.size w1 (w1.alloc (.cells #[.int .i64 p, .slice A n c] 33)) := (Below.refl _ _).alloc (Nat.le_refl _) _
        have HI2 := Lib.hid (HI1.out.below hba)
        have Y1 := Lib.hid (Box.new w1 33 #[.int .i64 p, .slice A n c])
        have HB2 := Lib.hid (HB1.out.trans (hba.mono HB1.out.size))
        clear hba
        go_wp2_with fail
        refine (implIsState_calls A n c p L _ HL.out hn HI2.out).mono ?_
        rintro e w2 ⟨rfl, hb2⟩
        have Y2 := Lib.hid (Y1.out.below hb2 Y1.out.lt)
        have HB3 := Lib.hid (HB2.out.trans (hb2.mono HB2.out.size))
        obtain ⟨y0, y1, _, _⟩ := Y2.out.two
        clear hb2
        go_wp2
        rw [rounds_succ]
        go_wp2
        go_ret
        exact ⟨ret_int HC.out.symm, HB3.out⟩
      · have HC := Lib.hid (cR1_no (r := r) (p := p) (L := L) (fun h => hp (s3_of h.2).2))
        have hd : (p != 3) = true := by simpa using hp
        clear hp
        unfold z9
        go_enter Try.func26, Try.ntmps26
        go_wp2_with fail
        refine (implIsRules_calls r HW.out _).mono ?_
        rintro e w1 ⟨rfl, hb⟩
        have hb' := hb
        have HB1 := Lib.hid (HB0.out.trans (hb.mono (by simp)))
        have X1 := Lib.hid (X0.out.below hb X0.out.lt)
        have HI1 := Lib.hid (HI0.out.below hb)
        clear hb hb'
        obtain ⟨x0, x1, _, _⟩ := X1.out.two
        go_wp2
        refine wp_loop_rounds 2 ?_
        rw [rounds_succ]
        have hba : Below w1.heap.size w1 (w1.alloc (.cells #[.int .i64 p, .slice A n c] 33)) := (Below.refl _ _).alloc (Nat.le_refl _) _
        have HI2 := Lib.hid (HI1.out.below hba)
        have Y1 := Lib.hid (Box.new w1 33 #[.int .i64 p, .slice A n c])
        have HB2 := Lib.hid (HB1.out.trans (hba.mono HB1.out.size))
        clear hba
        go_wp2_with fail
        refine (implIsState_calls A n c p L _ HL.out hn HI2.out).mono ?_
        rintro e w2 ⟨rfl, hb2⟩
        have Y2 := Lib.hid (Y1.out.below hb2 Y1.out.lt)
        have HB3 := Lib.hid (HB2.out.trans (hb2.mono HB2.out.size))
        obtain ⟨y0, y1, _, _⟩ := Y2.out.two
        clear hb2
        go_wp2
        go_ret
        exact ⟨ret_int HC.out.symm, HB3.out⟩
    · have HC := Lib.hid (cR1_no (r := r) (p := p) (L := L) (fun h => hs (s3_of h.2).1))
      have hs' : stateB p L = false := by simpa using hs
      clear hs
      unfold z9
      go_enter Try.func26, Try.ntmps26
      go_wp2_with fail
      refine (implIsRules_calls r HW.out _).mono ?_
      rintro e w1 ⟨rfl, hb⟩
      have hb' := hb
      have HB1 := Lib.hid (HB0.out.trans (hb.mono (by simp)))
      have X1 := Lib.hid (X0.out.below hb X0.out.lt)
      have HI1 := Lib.hid (HI0.out.below hb)
      clear hb hb'
      obtain ⟨x0, x1, _, _⟩ := X1.out.two
      go_wp2
      refine wp_loop_rounds 2 ?_
      rw [rounds_succ]
      have hba : Below w1.heap.size w1 (w1.alloc (.cells #[.int .i64 p, .slice A n c] 33)) := (Below.refl _ _).alloc (Nat.le_refl _) _
      have HI2 := Lib.hid (HI1.out.below hba)
      have Y1 := Lib.hid (Box.new w1 33 #[.int .i64 p, .slice A n c])
      have HB2 := Lib.hid (HB1.out.trans (hba.mono HB1.out.size))
      clear hba
      go_wp2_with fail
      refine (implIsState_calls A n c p L _ HL.out hn HI2.out).mono ?_
      rintro e w2 ⟨rfl, hb2⟩
      have Y2 := Lib.hid (Y1.out.below hb2 Y1.out.lt)
      have HB3 := Lib.hid (HB2.out.trans (hb2.mono HB2.out.size))
      obtain ⟨y0, y1, _, _⟩ := Y2.out.two
      clear hb2
      go_wp2
      go_ret
      exact ⟨ret_int HC.out.symm, HB3.out⟩
  · have hr' : ruB r = false := by simpa using hr
    have HR := Lib.hid (cR1_no (r := r) (p := p) (L := L) (fun h => hr h.1))
    clear hr
    unfold z9
    go_enter Try.func26, Try.ntmps26
    go_wp2_with fail
    refine (implIsRules_calls r HW.out _).mono ?_
    rintro e w1 ⟨rfl, hb⟩
    have HB1 := Lib.hid (HB0.out.trans (hb.mono (by simp)))
    clear hb
    go_wp2
    go_ret
    exact ⟨ret_int HR.out.symm, HB1.out⟩

end Go.Proofs.Ytglilhnmgfkfhaa
