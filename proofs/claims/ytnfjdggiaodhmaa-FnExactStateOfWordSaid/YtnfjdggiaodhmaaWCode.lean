/- Contracts: the code of one word and of two words, by the program; two words, by the specification's model. -/
import Derived.Test.YtnfjdggiaodhmaaWord
namespace Go.Proofs.Ytnfjdggiaodhmaa
open Go.RowKit
set_option linter.unusedVariables false

def wcode (k : Int) (L : List Int) : Int := if stateB k L = true then 0 else 2
theorem wcode_yes {k : Int} {L : List Int} (h : stateB k L = true) : wcode k L = 0 := by unfold wcode; rw [if_pos h]
theorem wcode_no {k : Int} {L : List Int} (h : stateB k L = false) : wcode k L = 2 := by unfold wcode; rw [h]; rfl

def twoWB (k : Int) (L M : List Int) : Bool := stateB k L && (stateB k M && decide (L.length = M.length))
theorem twoWB_of {k : Int} {L M : List Int} (h : twoWB k L M = true) : stateB k L = true ∧ stateB k M = true ∧ L.length = M.length := by
  unfold twoWB at h
  simpa using h
theorem ret_twoW {k : Int} {L M : List Int} {b : Bool} (h : b = twoWB k L M) : Ending.returned (.bool b) = .returned (.bool (twoWB k L M)) := by rw [h]
def wcode2 (k : Int) (L M : List Int) : Int := if twoWB k L M = true then 0 else 2
theorem wcode2_yes {k : Int} {L M : List Int} (h : twoWB k L M = true) : wcode2 k L M = 0 := by unfold wcode2; rw [if_pos h]
theorem wcode2_no {k : Int} {L M : List Int} (h : twoWB k L M = false) : wcode2 k L M = 2 := by unfold wcode2; rw [h]; rfl
theorem ret_intW {a b : Int} (h : b = a) : Ending.returned (.int .i64 a) = .returned (.int .i64 b) := by rw [h]

set_option maxHeartbeats 2000000 in
theorem l04Two_calls (k : Int) (A : Option Addr) (n c : Nat) (L : List Int) (B : Option Addr) (m d : Nat) (M : List Int) (w : World) (hL : L.length = n) (hn : n ≤ 1048576) (hI : Ints w A L) (hM : M.length = m) (hm : m ≤ 1048576) (hJ : Ints w B M) :
    Calls Try.prog 27 #[.int .i64 k, .slice A n c, .slice B m d] w fun e w' => e = .returned (.bool (twoWB k L M)) ∧ w = w' := by
  have HL := Lib.hid hL
  have HM := Lib.hid hM
  clear hL hM
  by_cases h1 : stateB k L = true
  · by_cases h2 : stateB k M = true
    · by_cases h3 : n = m
      · subst h3
        have H := Lib.hid (show twoWB k L M = true by unfold twoWB; rw [h1, h2, HL.out, HM.out]; simp)
        have hd : ((n : Int) == (n : Int)) = true := by simp
        go_enter Try.func27, Try.ntmps27
        go_wp2_with fail
        refine (l04Is_calls k A n c L _ HL.out hn hI).mono ?_
        rintro e w' ⟨rfl, rfl⟩
        go_wp2_with fail
        refine (l04Is_calls k B n d M _ HM.out hm hJ).mono ?_
        rintro e w' ⟨rfl, rfl⟩
        go_wp2
        go_ret
        exact ⟨ret_twoW H.out.symm, rfl⟩
      · have H := Lib.hid (show twoWB k L M = false by unfold twoWB; rw [h1, h2, HL.out, HM.out]; simp [h3])
        have hd : ((n : Int) == (m : Int)) = false := by simp; omega
        clear h3
        go_enter Try.func27, Try.ntmps27
        go_wp2_with fail
        refine (l04Is_calls k A n c L _ HL.out hn hI).mono ?_
        rintro e w' ⟨rfl, rfl⟩
        go_wp2_with fail
        refine (l04Is_calls k B m d M _ HM.out hm hJ).mono ?_
        rintro e w' ⟨rfl, rfl⟩
        go_wp2
        go_ret
        exact ⟨ret_twoW H.out.symm, rfl⟩
    · have h2' : stateB k M = false := by simpa using h2
      have H := Lib.hid (show twoWB k L M = false by unfold twoWB; rw [h1, h2']; rfl)
      clear h2
      go_enter Try.func27, Try.ntmps27
      go_wp2_with fail
      refine (l04Is_calls k A n c L _ HL.out hn hI).mono ?_
      rintro e w' ⟨rfl, rfl⟩
      go_wp2_with fail
      refine (l04Is_calls k B m d M _ HM.out hm hJ).mono ?_
      rintro e w' ⟨rfl, rfl⟩
      go_wp2
      go_ret
      exact ⟨ret_twoW H.out.symm, rfl⟩
  · have h1' : stateB k L = false := by simpa using h1
    have H := Lib.hid (show twoWB k L M = false by unfold twoWB; rw [h1']; rfl)
    clear h1
    go_enter Try.func27, Try.ntmps27
    go_wp2_with fail
    refine (l04Is_calls k A n c L _ HL.out hn hI).mono ?_
    rintro e w' ⟨rfl, rfl⟩
    go_wp2
    go_ret
    exact ⟨ret_twoW H.out.symm, rfl⟩

set_option maxHeartbeats 1000000 in
theorem codeOfWords_one (g : Nat) (k : Int) (A : Option Addr) (n c : Nat) (L : List Int) (w : World) (hx : Box w g 22 #[.slice A n c]) (hL : L.length = n) (hn : n ≤ 1048576) (hI : Ints w A L) :
    Calls Try.prog 35 #[.int .i64 k, .slice (some ⟨g, 0, none⟩) 1 1] w fun e w' => e = .returned (.int .i64 (wcode k L)) ∧ Below w.heap.size w w' := by
  have HL := Lib.hid hL
  have X0 := Lib.hid hx
  clear hL hx
  obtain ⟨x0, _⟩ := X0.out.one
  by_cases hs : stateB k L = true
  · have HS := Lib.hid (wcode_yes hs)
    go_enter Try.func35, Try.ntmps35
    go_wp2
    refine wp_loop_rounds 2 ?_
    rw [rounds_succ]
    go_wp2_with fail
    refine (implIsSierpinskiWord_calls k A n c L _ HL.out hn hI).mono ?_
    rintro e w1 ⟨rfl, hb1⟩
    have X1 := Lib.hid (X0.out.below hb1 X0.out.lt)
    have HB := Lib.hid hb1
    clear hb1 x0
    obtain ⟨x0, _⟩ := X1.out.one
    go_wp2
    rw [rounds_succ]
    go_wp2
    go_ret
    exact ⟨ret_intW HS.out, HB.out⟩
  · have hs' : stateB k L = false := by simpa using hs
    have HS := Lib.hid (wcode_no hs')
    clear hs
    go_enter Try.func35, Try.ntmps35
    go_wp2
    refine wp_loop_rounds 2 ?_
    rw [rounds_succ]
    go_wp2_with fail
    refine (implIsSierpinskiWord_calls k A n c L _ HL.out hn hI).mono ?_
    rintro e w1 ⟨rfl, hb1⟩
    go_wp2
    go_ret
    exact ⟨ret_intW HS.out, hb1⟩

set_option maxHeartbeats 1000000 in
theorem codeOfWords_two (g : Nat) (k : Int) (A : Option Addr) (n c : Nat) (L : List Int) (B : Option Addr) (m d : Nat) (M : List Int) (w : World) (hx : Box w g 22 #[.slice A n c, .slice B m d]) (hL : L.length = n) (hn : n ≤ 1048576) (hI : Ints w A L) (hM : M.length = m) (hm : m ≤ 1048576) (hJ : Ints w B M) :
    Calls Try.prog 35 #[.int .i64 k, .slice (some ⟨g, 0, none⟩) 2 2] w fun e w' => e = .returned (.int .i64 (wcode2 k L M)) ∧ Below w.heap.size w w' := by
  have HL := Lib.hid hL
  have HM := Lib.hid hM
  have X0 := Lib.hid hx
  clear hL hM hx
  obtain ⟨x0, x1, _, _⟩ := X0.out.two
  by_cases h1 : stateB k L = true
  · by_cases h2 : stateB k M = true
    · by_cases h3 : n = m
      · subst h3
        have H := Lib.hid (wcode2_yes (show twoWB k L M = true by unfold twoWB; rw [h1, h2, HL.out, HM.out]; simp))
        go_enter Try.func35, Try.ntmps35
        go_wp2
        refine wp_loop_rounds 3 ?_
        rw [rounds_succ]
        go_wp2_with fail
        refine (implIsSierpinskiWord_calls k A n c L _ HL.out hn hI).mono ?_
        rintro e w1 ⟨rfl, hb1⟩
        have X1 := Lib.hid (X0.out.below hb1 X0.out.lt)
        have HB := Lib.hid hb1
        have HJ := Lib.hid (hJ.below hb1)
        clear hb1 x0 x1
        obtain ⟨x0, x1, _, _⟩ := X1.out.two
        go_wp2
        rw [rounds_succ]
        go_wp2_with fail
        refine (implIsSierpinskiWord_calls k B n d M _ HM.out hn HJ.out).mono ?_
        rintro e w2 ⟨rfl, hb2⟩
        have X2 := Lib.hid (X1.out.below hb2 X1.out.lt)
        have HB2 := Lib.hid (HB.out.trans (hb2.mono HB.out.size))
        clear hb2 x0 x1
        obtain ⟨x0, x1, _, _⟩ := X2.out.two
        go_wp2
        rw [rounds_succ]
        go_wp2
        go_ret
        exact ⟨ret_intW H.out, HB2.out⟩
      · have H := Lib.hid (wcode2_no (show twoWB k L M = false by unfold twoWB; rw [h1, h2, HL.out, HM.out]; simp [h3]))
        have hd : ((m : Int) != (n : Int)) = true := by simp; omega
        clear h3
        go_enter Try.func35, Try.ntmps35
        go_wp2
        refine wp_loop_rounds 3 ?_
        rw [rounds_succ]
        go_wp2_with fail
        refine (implIsSierpinskiWord_calls k A n c L _ HL.out hn hI).mono ?_
        rintro e w1 ⟨rfl, hb1⟩
        have X1 := Lib.hid (X0.out.below hb1 X0.out.lt)
        have HB := Lib.hid hb1
        have HJ := Lib.hid (hJ.below hb1)
        clear hb1 x0 x1
        obtain ⟨x0, x1, _, _⟩ := X1.out.two
        go_wp2
        rw [rounds_succ]
        go_wp2_with fail
        refine (implIsSierpinskiWord_calls k B m d M _ HM.out hm HJ.out).mono ?_
        rintro e w2 ⟨rfl, hb2⟩
        have X2 := Lib.hid (X1.out.below hb2 X1.out.lt)
        have HB2 := Lib.hid (HB.out.trans (hb2.mono HB.out.size))
        clear hb2 x0 x1
        obtain ⟨x0, x1, _, _⟩ := X2.out.two
        go_wp2
        go_ret
        exact ⟨ret_intW H.out, HB2.out⟩
    · have h2' : stateB k M = false := by simpa using h2
      have H := Lib.hid (wcode2_no (show twoWB k L M = false by unfold twoWB; rw [h1, h2']; rfl))
      clear h2
      go_enter Try.func35, Try.ntmps35
      go_wp2
      refine wp_loop_rounds 3 ?_
      rw [rounds_succ]
      go_wp2_with fail
      refine (implIsSierpinskiWord_calls k A n c L _ HL.out hn hI).mono ?_
      rintro e w1 ⟨rfl, hb1⟩
      have X1 := Lib.hid (X0.out.below hb1 X0.out.lt)
      have HB := Lib.hid hb1
      have HJ := Lib.hid (hJ.below hb1)
      clear hb1 x0 x1
      obtain ⟨x0, x1, _, _⟩ := X1.out.two
      go_wp2
      rw [rounds_succ]
      go_wp2_with fail
      refine (implIsSierpinskiWord_calls k B m d M _ HM.out hm HJ.out).mono ?_
      rintro e w2 ⟨rfl, hb2⟩
      have HB2 := Lib.hid (HB.out.trans (hb2.mono HB.out.size))
      clear hb2 x0 x1
      go_wp2
      go_ret
      exact ⟨ret_intW H.out, HB2.out⟩
  · have h1' : stateB k L = false := by simpa using h1
    have H := Lib.hid (wcode2_no (show twoWB k L M = false by unfold twoWB; rw [h1']; rfl))
    clear h1
    go_enter Try.func35, Try.ntmps35
    go_wp2
    refine wp_loop_rounds 3 ?_
    rw [rounds_succ]
    go_wp2_with fail
    refine (implIsSierpinskiWord_calls k A n c L _ HL.out hn hI).mono ?_
    rintro e w1 ⟨rfl, hb1⟩
    go_wp2
    go_ret
    exact ⟨ret_intW H.out, hb1⟩

def lcode (k j : Int) (L : List Int) : Int := if pegB k j = true then wcode k L else 2
def lcode2 (k j : Int) (L M : List Int) : Int := if pegB k j = true then wcode2 k L M else 2

theorem codeOfLetter_one (g : Nat) (k j : Int) (A : Option Addr) (n c : Nat) (L : List Int) (w : World) (hx : Box w g 22 #[.slice A n c]) (hL : L.length = n) (hn : n ≤ 1048576) (hI : Ints w A L) :
    Calls Try.prog 31 #[.int .i64 k, .int .i64 j, .slice (some ⟨g, 0, none⟩) 1 1] w fun e w' => e = .returned (.int .i64 (lcode k j L)) ∧ Below w.heap.size w w' := by
  by_cases h0 : 0 ≤ j
  · by_cases h1 : j < k
    · have H := Lib.hid (show lcode k j L = wcode k L by unfold lcode; rw [if_pos (show pegB k j = true by unfold pegB; simp; omega)])
      go_enter Try.func31, Try.ntmps31
      go_wp2_with fail
      refine (codeOfWords_one g k A n c L _ hx hL hn hI).mono ?_
      rintro e w1 ⟨rfl, hb⟩
      go_wp2
      go_ret
      exact ⟨ret_intW H.out, hb⟩
    · have H := Lib.hid (show lcode k j L = 2 by unfold lcode; rw [if_neg (show ¬ pegB k j = true by unfold pegB; simp; omega)])
      go_enter Try.func31, Try.ntmps31
      go_wp2
      go_ret
      exact ⟨ret_intW H.out, Below.refl _ _⟩
  · have H := Lib.hid (show lcode k j L = 2 by unfold lcode; rw [if_neg (show ¬ pegB k j = true by unfold pegB; simp; omega)])
    go_enter Try.func31, Try.ntmps31
    go_wp2
    go_ret
    exact ⟨ret_intW H.out, Below.refl _ _⟩

theorem codeOfLetter_two (g : Nat) (k j : Int) (A : Option Addr) (n c : Nat) (L : List Int) (B : Option Addr) (m d : Nat) (M : List Int) (w : World) (hx : Box w g 22 #[.slice A n c, .slice B m d]) (hL : L.length = n) (hn : n ≤ 1048576) (hI : Ints w A L) (hM : M.length = m) (hm : m ≤ 1048576) (hJ : Ints w B M) :
    Calls Try.prog 31 #[.int .i64 k, .int .i64 j, .slice (some ⟨g, 0, none⟩) 2 2] w fun e w' => e = .returned (.int .i64 (lcode2 k j L M)) ∧ Below w.heap.size w w' := by
  by_cases h0 : 0 ≤ j
  · by_cases h1 : j < k
    · have H := Lib.hid (show lcode2 k j L M = wcode2 k L M by unfold lcode2; rw [if_pos (show pegB k j = true by unfold pegB; simp; omega)])
      go_enter Try.func31, Try.ntmps31
      go_wp2_with fail
      refine (codeOfWords_two g k A n c L B m d M _ hx hL hn hI hM hm hJ).mono ?_
      rintro e w1 ⟨rfl, hb⟩
      go_wp2
      go_ret
      exact ⟨ret_intW H.out, hb⟩
    · have H := Lib.hid (show lcode2 k j L M = 2 by unfold lcode2; rw [if_neg (show ¬ pegB k j = true by unfold pegB; simp; omega)])
      go_enter Try.func31, Try.ntmps31
      go_wp2
      go_ret
      exact ⟨ret_intW H.out, Below.refl _ _⟩
  · have H := Lib.hid (show lcode2 k j L M = 2 by unfold lcode2; rw [if_neg (show ¬ pegB k j = true by unfold pegB; simp; omega)])
    go_enter Try.func31, Try.ntmps31
    go_wp2
    go_ret
    exact ⟨ret_intW H.out, Below.refl _ _⟩

end Go.Proofs.Ytnfjdggiaodhmaa
