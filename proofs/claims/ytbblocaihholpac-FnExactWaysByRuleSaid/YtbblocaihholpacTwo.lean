/- Contracts: the one-move and the two-move number, the distance and the number of ways, by the specification's model and by the program. -/
import Derived.Test.YtbblocaihholpacNumbersI
namespace Go.Proofs.Ytbblocaihholpac
open Go.RowKit
set_option linter.unusedVariables false

theorem ret_two' {a b c d : Int} (h : c = a) (h' : d = b) : Ending.returned (.tuple #[.int .i64 a, .int .i64 b]) = .returned (.tuple #[.int .i64 c, .int .i64 d]) := by rw [h, h']
theorem ret_three' {a b c d e f : Int} (h : d = a) (h' : e = b) (h'' : f = c) : Ending.returned (.tuple #[.int .i64 a, .int .i64 b, .int .i64 c]) = .returned (.tuple #[.int .i64 d, .int .i64 e, .int .i64 f]) := by rw [h, h', h'']

/-- What is answered of two states: beside a code; for equal ones; of both numbers. -/
def nbV (v : Int) (f : Int → Int → Int) (p : Int) (L : List Int) (q : Int) (M : List Int) : Int :=
  if code2 p L q M = 0 then (if grt L M L.length = -1 then v else f (oneN L M (grt L M L.length).toNat) (twoN L M (grt L M L.length).toNat)) else 0
def nbC (v : Int) (p : Int) (L : List Int) (q : Int) (M : List Int) : Int :=
  if code2 p L q M = 0 then (if grt L M L.length = -1 then v else 0) else code2 p L q M
theorem nbV_code {v p q : Int} {f : Int → Int → Int} {L M : List Int} (h : ¬ code2 p L q M = 0) : nbV v f p L q M = 0 := by unfold nbV; rw [if_neg h]
theorem nbC_code {v p q : Int} {L M : List Int} (h : ¬ code2 p L q M = 0) : nbC v p L q M = code2 p L q M := by unfold nbC; rw [if_neg h]
theorem nbV_eq {v p q : Int} {f : Int → Int → Int} {L M : List Int} {n : Nat} (h : code2 p L q M = 0) (hL : L.length = n) (hg : grt L M n = -1) : nbV v f p L q M = v := by unfold nbV; rw [if_pos h, hL, if_pos hg]
theorem nbC_eq {v p q : Int} {L M : List Int} {n : Nat} (h : code2 p L q M = 0) (hL : L.length = n) (hg : grt L M n = -1) : nbC v p L q M = v := by unfold nbC; rw [if_pos h, hL, if_pos hg]
theorem nbV_ne {v p q : Int} {f : Int → Int → Int} {L M : List Int} {n D : Nat} (h : code2 p L q M = 0) (hL : L.length = n) (hg : grt L M n = D) : nbV v f p L q M = f (oneN L M D) (twoN L M D) := by
  unfold nbV
  rw [if_pos h, hL, if_neg (by omega), hg, Int.toNat_natCast]
theorem nbC_ne {v p q : Int} {L M : List Int} {n D : Nat} (h : code2 p L q M = 0) (hL : L.length = n) (hg : grt L M n = D) : nbC v p L q M = 0 := by
  unfold nbC
  rw [if_pos h, hL, if_neg (by omega)]
def fstI (a _b : Int) : Int := a
def sndI (_a b : Int) : Int := b
def waysI (a b : Int) : Int := if a = b then 2 else 1
theorem grt_cases (L M : List Int) (n : Nat) : grt L M n = -1 ∨ ∃ D : Nat, grt L M n = D := by
  have := (grt_bd L M n).1
  by_cases h : grt L M n = -1
  · exact .inl h
  · exact .inr ⟨(grt L M n).toNat, by omega⟩

set_option maxHeartbeats 1000000 in
theorem numbersBetween_calls (A : Option Addr) (n c : Nat) (p : Int) (L : List Int) (B : Option Addr) (m d : Nat) (q : Int) (M : List Int) (w : World) (hL : L.length = n) (hn : n ≤ 1048576) (hI : Ints w A L) (hcap : n ≤ c) (hc : c ≤ 1048576) (hM : M.length = m) (hm : m ≤ 1048576) (hJ : Ints w B M) (hdap : m ≤ d) (hd : d ≤ 1048576) :
    Calls Try.prog 27 #[.agg #[.int .i64 p, .slice A n c], .agg #[.int .i64 q, .slice B m d]] w fun e w' => e = .returned (.tuple #[.int .i64 (nbV 0 fstI p L q M), .int .i64 (nbV 0 sndI p L q M), .int .i64 (nbC 5 p L q M)]) ∧ Below w.heap.size w w' := by
  have HL := Lib.hid hL
  have HM := Lib.hid hM
  obtain ⟨b1, b2, b3⟩ := twoBoxes w p q A B n c m d 28
  have hbal := (Below.refl _ ((w.alloc (.cells #[.int .i64 p, .slice A n c] 28)).alloc (.cells #[.int .i64 q, .slice B m d] 28))).alloc (Nat.le_refl _) (.cells #[.int .i64 p, .slice A n c, .int .i64 q, .slice B m d] 28)
  have X0 := Lib.hid (b1.below hbal b1.lt)
  have Y0 := Lib.hid (b2.below hbal b2.lt)
  have hc0 := Box.new ((w.alloc (.cells #[.int .i64 p, .slice A n c] 28)).alloc (.cells #[.int .i64 q, .slice B m d] 28)) 28 #[.int .i64 p, .slice A n c, .int .i64 q, .slice B m d]
  simp only [World.size_alloc] at hc0
  have Z0 := Lib.hid hc0
  have HB0 := Lib.hid (b3.trans (hbal.mono b3.size))
  have HI0 := Lib.hid (hI.below HB0.out)
  have HJ0 := Lib.hid (hJ.below HB0.out)
  clear hL hM b1 b2 b3 hbal hc0 hI hJ
  by_cases hz : code2 p L q M = 0
  · obtain ⟨hs, ht, rfl, rfl, hlen⟩ := code2_zero hz
    rw [HL.out, HM.out] at hlen
    subst hlen
    have HZ := Lib.hid hz
    have hz' : (code2 3 L 3 M != 0) = false := by simpa using hz
    have h8 := (state_facts hs HL.out).2.2.1
    have HPL := Lib.hid (state_pegsOk hs)
    have HPM := Lib.hid (state_pegsOk ht)
    clear hz hs ht
    rcases grt_cases L M n with hg | ⟨D, hg⟩
    · have HG := Lib.hid hg
      have HC := Lib.hid (carryV_none hg)
      have HD : Hid (decide (grt L M n ≠ -1) = false) := by unfold Hid; rw [hg]; rfl
      clear hg
      go_enter Try.func27, Try.ntmps27
      go_wp2_with fail
      refine (codeOfStates_two (w.heap.size + 1 + 1) A n c 3 L B n d 3 M _ Z0.out HL.out hn HI0.out HM.out hm HJ0.out).mono ?_
      rintro e w1 ⟨rfl, hb⟩
      have X1 := Lib.hid (X0.out.below hb X0.out.lt)
      have Y1 := Lib.hid (Y0.out.below hb Y0.out.lt)
      have HI1 := Lib.hid (HI0.out.below hb)
      have HJ1 := Lib.hid (HJ0.out.below hb)
      have HB1 := Lib.hid (HB0.out.trans (hb.mono HB0.out.size))
      clear hb X0 Y0 HI0 HJ0 HB0
      obtain ⟨x0, x1, y0, y1⟩ := cells22 X1.out Y1.out
      go_wp2_with fail
      refine (carryBetween_calls A n c 3 L B d 3 M _ HL.out HM.out h8 HI1.out HJ1.out HPL.out HPM.out).mono ?_
      rintro e w2 ⟨rfl, hb⟩
      have X2 := Lib.hid (X1.out.below hb X1.out.lt)
      have Y2 := Lib.hid (Y1.out.below hb Y1.out.lt)
      have HI2 := Lib.hid (HI1.out.below hb)
      have HJ2 := Lib.hid (HJ1.out.below hb)
      have HB2 := Lib.hid (HB1.out.trans (hb.mono HB1.out.size))
      clear hb X1 Y1 HI1 HJ1 HB1
      rw [HC.out, HD.out]
      go_wp2
      go_ret3
      exact ⟨ret_three' (nbV_eq HZ.out HL.out HG.out) (nbV_eq HZ.out HL.out HG.out) (nbC_eq HZ.out HL.out HG.out), HB2.out.alloc HB2.out.size _⟩
    · have HG := Lib.hid hg
      have HC := Lib.hid (carryV_some hg)
      have HD : Hid (decide (grt L M n ≠ -1) = true) := by unfold Hid; rw [hg]; simp; try omega
      clear hg
      go_enter Try.func27, Try.ntmps27
      go_wp2_with fail
      refine (codeOfStates_two (w.heap.size + 1 + 1) A n c 3 L B n d 3 M _ Z0.out HL.out hn HI0.out HM.out hm HJ0.out).mono ?_
      rintro e w1 ⟨rfl, hb⟩
      have X1 := Lib.hid (X0.out.below hb X0.out.lt)
      have Y1 := Lib.hid (Y0.out.below hb Y0.out.lt)
      have HI1 := Lib.hid (HI0.out.below hb)
      have HJ1 := Lib.hid (HJ0.out.below hb)
      have HB1 := Lib.hid (HB0.out.trans (hb.mono HB0.out.size))
      clear hb X0 Y0 HI0 HJ0 HB0
      obtain ⟨x0, x1, y0, y1⟩ := cells22 X1.out Y1.out
      go_wp2_with fail
      refine (carryBetween_calls A n c 3 L B d 3 M _ HL.out HM.out h8 HI1.out HJ1.out HPL.out HPM.out).mono ?_
      rintro e w2 ⟨rfl, hb⟩
      have X2 := Lib.hid (X1.out.below hb X1.out.lt)
      have Y2 := Lib.hid (Y1.out.below hb Y1.out.lt)
      have HI2 := Lib.hid (HI1.out.below hb)
      have HJ2 := Lib.hid (HJ1.out.below hb)
      have HB2 := Lib.hid (HB1.out.trans (hb.mono HB1.out.size))
      clear hb X1 Y1 HI1 HJ1 HB1
      rw [HC.out, HD.out]
      clear x0 x1 y0 y1
      obtain ⟨x0, x1, y0, y1⟩ := cells22 (X2.out.below ((Below.refl _ w2).alloc (Nat.le_refl _) (.cells #[.int .i64 D, .int .i64 (L[D]?.getD 0), .int .i64 (M[D]?.getD 0), .int .i64 (3 - L[D]?.getD 0 - M[D]?.getD 0)] 57)) X2.out.lt) (Y2.out.below ((Below.refl _ w2).alloc (Nat.le_refl _) (.cells #[.int .i64 D, .int .i64 (L[D]?.getD 0), .int .i64 (M[D]?.getD 0), .int .i64 (3 - L[D]?.getD 0 - M[D]?.getD 0)] 57)) Y2.out.lt)
      go_wp2_with fail
      refine (numbersOf_calls A n c 3 L B d 3 M D _ HL.out HM.out h8 (HI2.out.below ((Below.refl _ w2).alloc (Nat.le_refl _) (.cells #[.int .i64 D, .int .i64 (L[D]?.getD 0), .int .i64 (M[D]?.getD 0), .int .i64 (3 - L[D]?.getD 0 - M[D]?.getD 0)] 57))) (HJ2.out.below ((Below.refl _ w2).alloc (Nat.le_refl _) (.cells #[.int .i64 D, .int .i64 (L[D]?.getD 0), .int .i64 (M[D]?.getD 0), .int .i64 (3 - L[D]?.getD 0 - M[D]?.getD 0)] 57))) hcap hc hdap hd HPL.out HPM.out HG.out).mono ?_
      rintro e w3 ⟨rfl, hb⟩
      have HB3 := Lib.hid ((HB2.out.alloc HB2.out.size (.cells #[.int .i64 D, .int .i64 (L[D]?.getD 0), .int .i64 (M[D]?.getD 0), .int .i64 (3 - L[D]?.getD 0 - M[D]?.getD 0)] 57)).trans (hb.mono (by have := HB2.out.size; simp; omega)))
      clear hb
      go_wp2
      go_ret3
      exact ⟨ret_three' (nbV_ne HZ.out HL.out HG.out) (nbV_ne HZ.out HL.out HG.out) (nbC_ne HZ.out HL.out HG.out), HB3.out⟩
  · have hz' : (code2 p L q M != 0) = true := by simpa using hz
    have HZ := Lib.hid hz
    clear hz
    go_enter Try.func27, Try.ntmps27
    go_wp2_with fail
    refine (codeOfStates_two (w.heap.size + 1 + 1) A n c p L B m d q M _ Z0.out HL.out hn HI0.out HM.out hm HJ0.out).mono ?_
    rintro e w1 ⟨rfl, hb⟩
    have X1 := Lib.hid (X0.out.below hb X0.out.lt)
    have Y1 := Lib.hid (Y0.out.below hb Y0.out.lt)
    have HI1 := Lib.hid (HI0.out.below hb)
    have HJ1 := Lib.hid (HJ0.out.below hb)
    have HB1 := Lib.hid (HB0.out.trans (hb.mono HB0.out.size))
    clear hb X0 Y0 HI0 HJ0 HB0
    go_wp2
    go_ret3
    exact ⟨ret_three' (nbV_code HZ.out) (nbV_code HZ.out) (nbC_code HZ.out), HB1.out⟩
-- OneMoveNumber

set_option maxHeartbeats 1000000 in
theorem specOneMoveNumber_calls (A : Option Addr) (n c : Nat) (p : Int) (L : List Int) (B : Option Addr) (m d : Nat) (q : Int) (M : List Int) (w : World) (hL : L.length = n) (hn : n ≤ 1048576) (hI : Ints w A L) (hcap : n ≤ c) (hc : c ≤ 1048576) (hM : M.length = m) (hm : m ≤ 1048576) (hJ : Ints w B M) (hdap : m ≤ d) (hd : d ≤ 1048576) :
    Calls Try.prog 9 #[.agg #[.int .i64 p, .slice A n c], .agg #[.int .i64 q, .slice B m d]] w fun e w' => e = .returned (.tuple #[.int .i64 (nbV 0 fstI p L q M), .int .i64 (nbC 5 p L q M)]) ∧ Below w.heap.size w w' := by
  have HL := Lib.hid hL
  have HM := Lib.hid hM
  obtain ⟨b1, b2, b3⟩ := twoBoxes w p q A B n c m d 28
  have hbal := (Below.refl _ ((w.alloc (.cells #[.int .i64 p, .slice A n c] 28)).alloc (.cells #[.int .i64 q, .slice B m d] 28))).alloc (Nat.le_refl _) (.cells #[.int .i64 p, .slice A n c, .int .i64 q, .slice B m d] 28)
  have X0 := Lib.hid (b1.below hbal b1.lt)
  have Y0 := Lib.hid (b2.below hbal b2.lt)
  have hc0 := Box.new ((w.alloc (.cells #[.int .i64 p, .slice A n c] 28)).alloc (.cells #[.int .i64 q, .slice B m d] 28)) 28 #[.int .i64 p, .slice A n c, .int .i64 q, .slice B m d]
  simp only [World.size_alloc] at hc0
  have Z0 := Lib.hid hc0
  have HB0 := Lib.hid (b3.trans (hbal.mono b3.size))
  have HI0 := Lib.hid (hI.below HB0.out)
  have HJ0 := Lib.hid (hJ.below HB0.out)
  clear hL hM b1 b2 b3 hbal hc0 hI hJ
  by_cases hz : code2 p L q M = 0
  · obtain ⟨hs, ht, rfl, rfl, hlen⟩ := code2_zero hz
    rw [HL.out, HM.out] at hlen
    subst hlen
    have HZ := Lib.hid hz
    have hz' : (code2 3 L 3 M != 0) = false := by simpa using hz
    have h8 := (state_facts hs HL.out).2.2.1
    have HPL := Lib.hid (state_pegsOk hs)
    have HPM := Lib.hid (state_pegsOk ht)
    clear hz hs ht
    rcases grt_cases L M n with hg | ⟨D, hg⟩
    · have HG := Lib.hid hg
      clear hg
      go_enter Try.func9, Try.ntmps9
      go_wp2_with fail
      refine (l02Code_two (w.heap.size + 1 + 1) A n c 3 L B n d 3 M _ Z0.out HL.out hn HI0.out HM.out hm HJ0.out).mono ?_
      rintro e w1 ⟨rfl, hb⟩
      have X1 := Lib.hid (X0.out.below hb X0.out.lt)
      have Y1 := Lib.hid (Y0.out.below hb Y0.out.lt)
      have HI1 := Lib.hid (HI0.out.below hb)
      have HJ1 := Lib.hid (HJ0.out.below hb)
      have HB1 := Lib.hid (HB0.out.trans (hb.mono HB0.out.size))
      clear hb X0 Y0 HI0 HJ0 HB0
      obtain ⟨x0, x1, y0, y1⟩ := cells22 X1.out Y1.out
      go_wp2_with fail
      refine (l02Greatest_calls A n c 3 L B d 3 M _ HL.out HM.out h8 HI1.out HJ1.out).mono ?_
      rintro e w2 ⟨rfl, hb⟩
      have X2 := Lib.hid (X1.out.below hb X1.out.lt)
      have Y2 := Lib.hid (Y1.out.below hb Y1.out.lt)
      have HI2 := Lib.hid (HI1.out.below hb)
      have HJ2 := Lib.hid (HJ1.out.below hb)
      have HB2 := Lib.hid (HB1.out.trans (hb.mono HB1.out.size))
      clear hb X1 Y1 HI1 HJ1 HB1
      rw [HG.out]
      go_wp2
      go_ret2
      exact ⟨ret_two' (nbV_eq HZ.out HL.out HG.out) (nbC_eq HZ.out HL.out HG.out), HB2.out⟩
    · have HG := Lib.hid hg
      clear hg
      go_enter Try.func9, Try.ntmps9
      go_wp2_with fail
      refine (l02Code_two (w.heap.size + 1 + 1) A n c 3 L B n d 3 M _ Z0.out HL.out hn HI0.out HM.out hm HJ0.out).mono ?_
      rintro e w1 ⟨rfl, hb⟩
      have X1 := Lib.hid (X0.out.below hb X0.out.lt)
      have Y1 := Lib.hid (Y0.out.below hb Y0.out.lt)
      have HI1 := Lib.hid (HI0.out.below hb)
      have HJ1 := Lib.hid (HJ0.out.below hb)
      have HB1 := Lib.hid (HB0.out.trans (hb.mono HB0.out.size))
      clear hb X0 Y0 HI0 HJ0 HB0
      obtain ⟨x0, x1, y0, y1⟩ := cells22 X1.out Y1.out
      go_wp2_with fail
      refine (l02Greatest_calls A n c 3 L B d 3 M _ HL.out HM.out h8 HI1.out HJ1.out).mono ?_
      rintro e w2 ⟨rfl, hb⟩
      have X2 := Lib.hid (X1.out.below hb X1.out.lt)
      have Y2 := Lib.hid (Y1.out.below hb Y1.out.lt)
      have HI2 := Lib.hid (HI1.out.below hb)
      have HJ2 := Lib.hid (HJ1.out.below hb)
      have HB2 := Lib.hid (HB1.out.trans (hb.mono HB1.out.size))
      clear hb X1 Y1 HI1 HJ1 HB1
      rw [HG.out]
      clear x0 x1 y0 y1
      obtain ⟨x0, x1, y0, y1⟩ := cells22 X2.out Y2.out
      have hD0 : (0 : Int) ≤ (D : Int) := by omega
      go_wp2_with fail
      refine (l02Numbers_calls A n c 3 L B d 3 M D _ HL.out HM.out h8 HI2.out HJ2.out hcap hc hdap hd HPL.out HPM.out HG.out).mono ?_
      rintro e w3 ⟨rfl, hb⟩
      have X3 := Lib.hid (X2.out.below hb X2.out.lt)
      have Y3 := Lib.hid (Y2.out.below hb Y2.out.lt)
      have HI3 := Lib.hid (HI2.out.below hb)
      have HJ3 := Lib.hid (HJ2.out.below hb)
      have HB3 := Lib.hid (HB2.out.trans (hb.mono HB2.out.size))
      clear hb X2 Y2 HI2 HJ2 HB2
      go_wp2
      go_ret2
      exact ⟨ret_two' (nbV_ne HZ.out HL.out HG.out) (nbC_ne HZ.out HL.out HG.out), HB3.out⟩
  · have hz' : (code2 p L q M != 0) = true := by simpa using hz
    have HZ := Lib.hid hz
    clear hz
    go_enter Try.func9, Try.ntmps9
    go_wp2_with fail
    refine (l02Code_two (w.heap.size + 1 + 1) A n c p L B m d q M _ Z0.out HL.out hn HI0.out HM.out hm HJ0.out).mono ?_
    rintro e w1 ⟨rfl, hb⟩
    have X1 := Lib.hid (X0.out.below hb X0.out.lt)
    have Y1 := Lib.hid (Y0.out.below hb Y0.out.lt)
    have HI1 := Lib.hid (HI0.out.below hb)
    have HJ1 := Lib.hid (HJ0.out.below hb)
    have HB1 := Lib.hid (HB0.out.trans (hb.mono HB0.out.size))
    clear hb X0 Y0 HI0 HJ0 HB0
    go_wp2
    go_ret2
    exact ⟨ret_two' (nbV_code HZ.out) (nbC_code HZ.out), HB1.out⟩
-- TwoMoveNumber

set_option maxHeartbeats 1000000 in
theorem specTwoMoveNumber_calls (A : Option Addr) (n c : Nat) (p : Int) (L : List Int) (B : Option Addr) (m d : Nat) (q : Int) (M : List Int) (w : World) (hL : L.length = n) (hn : n ≤ 1048576) (hI : Ints w A L) (hcap : n ≤ c) (hc : c ≤ 1048576) (hM : M.length = m) (hm : m ≤ 1048576) (hJ : Ints w B M) (hdap : m ≤ d) (hd : d ≤ 1048576) :
    Calls Try.prog 13 #[.agg #[.int .i64 p, .slice A n c], .agg #[.int .i64 q, .slice B m d]] w fun e w' => e = .returned (.tuple #[.int .i64 (nbV 0 sndI p L q M), .int .i64 (nbC 5 p L q M)]) ∧ Below w.heap.size w w' := by
  have HL := Lib.hid hL
  have HM := Lib.hid hM
  obtain ⟨b1, b2, b3⟩ := twoBoxes w p q A B n c m d 28
  have hbal := (Below.refl _ ((w.alloc (.cells #[.int .i64 p, .slice A n c] 28)).alloc (.cells #[.int .i64 q, .slice B m d] 28))).alloc (Nat.le_refl _) (.cells #[.int .i64 p, .slice A n c, .int .i64 q, .slice B m d] 28)
  have X0 := Lib.hid (b1.below hbal b1.lt)
  have Y0 := Lib.hid (b2.below hbal b2.lt)
  have hc0 := Box.new ((w.alloc (.cells #[.int .i64 p, .slice A n c] 28)).alloc (.cells #[.int .i64 q, .slice B m d] 28)) 28 #[.int .i64 p, .slice A n c, .int .i64 q, .slice B m d]
  simp only [World.size_alloc] at hc0
  have Z0 := Lib.hid hc0
  have HB0 := Lib.hid (b3.trans (hbal.mono b3.size))
  have HI0 := Lib.hid (hI.below HB0.out)
  have HJ0 := Lib.hid (hJ.below HB0.out)
  clear hL hM b1 b2 b3 hbal hc0 hI hJ
  by_cases hz : code2 p L q M = 0
  · obtain ⟨hs, ht, rfl, rfl, hlen⟩ := code2_zero hz
    rw [HL.out, HM.out] at hlen
    subst hlen
    have HZ := Lib.hid hz
    have hz' : (code2 3 L 3 M != 0) = false := by simpa using hz
    have h8 := (state_facts hs HL.out).2.2.1
    have HPL := Lib.hid (state_pegsOk hs)
    have HPM := Lib.hid (state_pegsOk ht)
    clear hz hs ht
    rcases grt_cases L M n with hg | ⟨D, hg⟩
    · have HG := Lib.hid hg
      clear hg
      go_enter Try.func13, Try.ntmps13
      go_wp2_with fail
      refine (l02Code_two (w.heap.size + 1 + 1) A n c 3 L B n d 3 M _ Z0.out HL.out hn HI0.out HM.out hm HJ0.out).mono ?_
      rintro e w1 ⟨rfl, hb⟩
      have X1 := Lib.hid (X0.out.below hb X0.out.lt)
      have Y1 := Lib.hid (Y0.out.below hb Y0.out.lt)
      have HI1 := Lib.hid (HI0.out.below hb)
      have HJ1 := Lib.hid (HJ0.out.below hb)
      have HB1 := Lib.hid (HB0.out.trans (hb.mono HB0.out.size))
      clear hb X0 Y0 HI0 HJ0 HB0
      obtain ⟨x0, x1, y0, y1⟩ := cells22 X1.out Y1.out
      go_wp2_with fail
      refine (l02Greatest_calls A n c 3 L B d 3 M _ HL.out HM.out h8 HI1.out HJ1.out).mono ?_
      rintro e w2 ⟨rfl, hb⟩
      have X2 := Lib.hid (X1.out.below hb X1.out.lt)
      have Y2 := Lib.hid (Y1.out.below hb Y1.out.lt)
      have HI2 := Lib.hid (HI1.out.below hb)
      have HJ2 := Lib.hid (HJ1.out.below hb)
      have HB2 := Lib.hid (HB1.out.trans (hb.mono HB1.out.size))
      clear hb X1 Y1 HI1 HJ1 HB1
      rw [HG.out]
      go_wp2
      go_ret2
      exact ⟨ret_two' (nbV_eq HZ.out HL.out HG.out) (nbC_eq HZ.out HL.out HG.out), HB2.out⟩
    · have HG := Lib.hid hg
      clear hg
      go_enter Try.func13, Try.ntmps13
      go_wp2_with fail
      refine (l02Code_two (w.heap.size + 1 + 1) A n c 3 L B n d 3 M _ Z0.out HL.out hn HI0.out HM.out hm HJ0.out).mono ?_
      rintro e w1 ⟨rfl, hb⟩
      have X1 := Lib.hid (X0.out.below hb X0.out.lt)
      have Y1 := Lib.hid (Y0.out.below hb Y0.out.lt)
      have HI1 := Lib.hid (HI0.out.below hb)
      have HJ1 := Lib.hid (HJ0.out.below hb)
      have HB1 := Lib.hid (HB0.out.trans (hb.mono HB0.out.size))
      clear hb X0 Y0 HI0 HJ0 HB0
      obtain ⟨x0, x1, y0, y1⟩ := cells22 X1.out Y1.out
      go_wp2_with fail
      refine (l02Greatest_calls A n c 3 L B d 3 M _ HL.out HM.out h8 HI1.out HJ1.out).mono ?_
      rintro e w2 ⟨rfl, hb⟩
      have X2 := Lib.hid (X1.out.below hb X1.out.lt)
      have Y2 := Lib.hid (Y1.out.below hb Y1.out.lt)
      have HI2 := Lib.hid (HI1.out.below hb)
      have HJ2 := Lib.hid (HJ1.out.below hb)
      have HB2 := Lib.hid (HB1.out.trans (hb.mono HB1.out.size))
      clear hb X1 Y1 HI1 HJ1 HB1
      rw [HG.out]
      clear x0 x1 y0 y1
      obtain ⟨x0, x1, y0, y1⟩ := cells22 X2.out Y2.out
      have hD0 : (0 : Int) ≤ (D : Int) := by omega
      go_wp2_with fail
      refine (l02Numbers_calls A n c 3 L B d 3 M D _ HL.out HM.out h8 HI2.out HJ2.out hcap hc hdap hd HPL.out HPM.out HG.out).mono ?_
      rintro e w3 ⟨rfl, hb⟩
      have X3 := Lib.hid (X2.out.below hb X2.out.lt)
      have Y3 := Lib.hid (Y2.out.below hb Y2.out.lt)
      have HI3 := Lib.hid (HI2.out.below hb)
      have HJ3 := Lib.hid (HJ2.out.below hb)
      have HB3 := Lib.hid (HB2.out.trans (hb.mono HB2.out.size))
      clear hb X2 Y2 HI2 HJ2 HB2
      go_wp2
      go_ret2
      exact ⟨ret_two' (nbV_ne HZ.out HL.out HG.out) (nbC_ne HZ.out HL.out HG.out), HB3.out⟩
  · have hz' : (code2 p L q M != 0) = true := by simpa using hz
    have HZ := Lib.hid hz
    clear hz
    go_enter Try.func13, Try.ntmps13
    go_wp2_with fail
    refine (l02Code_two (w.heap.size + 1 + 1) A n c p L B m d q M _ Z0.out HL.out hn HI0.out HM.out hm HJ0.out).mono ?_
    rintro e w1 ⟨rfl, hb⟩
    have X1 := Lib.hid (X0.out.below hb X0.out.lt)
    have Y1 := Lib.hid (Y0.out.below hb Y0.out.lt)
    have HI1 := Lib.hid (HI0.out.below hb)
    have HJ1 := Lib.hid (HJ0.out.below hb)
    have HB1 := Lib.hid (HB0.out.trans (hb.mono HB0.out.size))
    clear hb X0 Y0 HI0 HJ0 HB0
    go_wp2
    go_ret2
    exact ⟨ret_two' (nbV_code HZ.out) (nbC_code HZ.out), HB1.out⟩
-- DistanceByRule

set_option maxHeartbeats 1000000 in
theorem specDistanceByRule_calls (A : Option Addr) (n c : Nat) (p : Int) (L : List Int) (B : Option Addr) (m d : Nat) (q : Int) (M : List Int) (w : World) (hL : L.length = n) (hn : n ≤ 1048576) (hI : Ints w A L) (hcap : n ≤ c) (hc : c ≤ 1048576) (hM : M.length = m) (hm : m ≤ 1048576) (hJ : Ints w B M) (hdap : m ≤ d) (hd : d ≤ 1048576) :
    Calls Try.prog 15 #[.agg #[.int .i64 p, .slice A n c], .agg #[.int .i64 q, .slice B m d]] w fun e w' => e = .returned (.tuple #[.int .i64 (nbV 0 min p L q M), .int .i64 (nbC 0 p L q M)]) ∧ Below w.heap.size w w' := by
  have HL := Lib.hid hL
  have HM := Lib.hid hM
  obtain ⟨b1, b2, b3⟩ := twoBoxes w p q A B n c m d 28
  have hbal := (Below.refl _ ((w.alloc (.cells #[.int .i64 p, .slice A n c] 28)).alloc (.cells #[.int .i64 q, .slice B m d] 28))).alloc (Nat.le_refl _) (.cells #[.int .i64 p, .slice A n c, .int .i64 q, .slice B m d] 28)
  have X0 := Lib.hid (b1.below hbal b1.lt)
  have Y0 := Lib.hid (b2.below hbal b2.lt)
  have hc0 := Box.new ((w.alloc (.cells #[.int .i64 p, .slice A n c] 28)).alloc (.cells #[.int .i64 q, .slice B m d] 28)) 28 #[.int .i64 p, .slice A n c, .int .i64 q, .slice B m d]
  simp only [World.size_alloc] at hc0
  have Z0 := Lib.hid hc0
  have HB0 := Lib.hid (b3.trans (hbal.mono b3.size))
  have HI0 := Lib.hid (hI.below HB0.out)
  have HJ0 := Lib.hid (hJ.below HB0.out)
  clear hL hM b1 b2 b3 hbal hc0 hI hJ
  by_cases hz : code2 p L q M = 0
  · obtain ⟨hs, ht, rfl, rfl, hlen⟩ := code2_zero hz
    rw [HL.out, HM.out] at hlen
    subst hlen
    have HZ := Lib.hid hz
    have hz' : (code2 3 L 3 M != 0) = false := by simpa using hz
    have h8 := (state_facts hs HL.out).2.2.1
    have HPL := Lib.hid (state_pegsOk hs)
    have HPM := Lib.hid (state_pegsOk ht)
    clear hz hs ht
    rcases grt_cases L M n with hg | ⟨D, hg⟩
    · have HG := Lib.hid hg
      clear hg
      go_enter Try.func15, Try.ntmps15
      go_wp2_with fail
      refine (l02Code_two (w.heap.size + 1 + 1) A n c 3 L B n d 3 M _ Z0.out HL.out hn HI0.out HM.out hm HJ0.out).mono ?_
      rintro e w1 ⟨rfl, hb⟩
      have X1 := Lib.hid (X0.out.below hb X0.out.lt)
      have Y1 := Lib.hid (Y0.out.below hb Y0.out.lt)
      have HI1 := Lib.hid (HI0.out.below hb)
      have HJ1 := Lib.hid (HJ0.out.below hb)
      have HB1 := Lib.hid (HB0.out.trans (hb.mono HB0.out.size))
      clear hb X0 Y0 HI0 HJ0 HB0
      obtain ⟨x0, x1, y0, y1⟩ := cells22 X1.out Y1.out
      go_wp2_with fail
      refine (l02Greatest_calls A n c 3 L B d 3 M _ HL.out HM.out h8 HI1.out HJ1.out).mono ?_
      rintro e w2 ⟨rfl, hb⟩
      have X2 := Lib.hid (X1.out.below hb X1.out.lt)
      have Y2 := Lib.hid (Y1.out.below hb Y1.out.lt)
      have HI2 := Lib.hid (HI1.out.below hb)
      have HJ2 := Lib.hid (HJ1.out.below hb)
      have HB2 := Lib.hid (HB1.out.trans (hb.mono HB1.out.size))
      clear hb X1 Y1 HI1 HJ1 HB1
      rw [HG.out]
      go_wp2
      go_ret2
      exact ⟨ret_two' (nbV_eq HZ.out HL.out HG.out) (nbC_eq HZ.out HL.out HG.out), HB2.out⟩
    · have HG := Lib.hid hg
      clear hg
      go_enter Try.func15, Try.ntmps15
      go_wp2_with fail
      refine (l02Code_two (w.heap.size + 1 + 1) A n c 3 L B n d 3 M _ Z0.out HL.out hn HI0.out HM.out hm HJ0.out).mono ?_
      rintro e w1 ⟨rfl, hb⟩
      have X1 := Lib.hid (X0.out.below hb X0.out.lt)
      have Y1 := Lib.hid (Y0.out.below hb Y0.out.lt)
      have HI1 := Lib.hid (HI0.out.below hb)
      have HJ1 := Lib.hid (HJ0.out.below hb)
      have HB1 := Lib.hid (HB0.out.trans (hb.mono HB0.out.size))
      clear hb X0 Y0 HI0 HJ0 HB0
      obtain ⟨x0, x1, y0, y1⟩ := cells22 X1.out Y1.out
      go_wp2_with fail
      refine (l02Greatest_calls A n c 3 L B d 3 M _ HL.out HM.out h8 HI1.out HJ1.out).mono ?_
      rintro e w2 ⟨rfl, hb⟩
      have X2 := Lib.hid (X1.out.below hb X1.out.lt)
      have Y2 := Lib.hid (Y1.out.below hb Y1.out.lt)
      have HI2 := Lib.hid (HI1.out.below hb)
      have HJ2 := Lib.hid (HJ1.out.below hb)
      have HB2 := Lib.hid (HB1.out.trans (hb.mono HB1.out.size))
      clear hb X1 Y1 HI1 HJ1 HB1
      rw [HG.out]
      clear x0 x1 y0 y1
      obtain ⟨x0, x1, y0, y1⟩ := cells22 X2.out Y2.out
      have hD0 : (0 : Int) ≤ (D : Int) := by omega
      go_wp2_with fail
      refine (l02Numbers_calls A n c 3 L B d 3 M D _ HL.out HM.out h8 HI2.out HJ2.out hcap hc hdap hd HPL.out HPM.out HG.out).mono ?_
      rintro e w3 ⟨rfl, hb⟩
      have X3 := Lib.hid (X2.out.below hb X2.out.lt)
      have Y3 := Lib.hid (Y2.out.below hb Y2.out.lt)
      have HI3 := Lib.hid (HI2.out.below hb)
      have HJ3 := Lib.hid (HJ2.out.below hb)
      have HB3 := Lib.hid (HB2.out.trans (hb.mono HB2.out.size))
      clear hb X2 Y2 HI2 HJ2 HB2
      have hb1 := oneN_bd L M (d := D) (by have := HG.out; have := grt_bd L M n; omega)
      have hb2 := twoN_bd L M (d := D) (by have := HG.out; have := grt_bd L M n; omega)
      have hw := Lib.hid (nbV_ne (v := 0) (f := min) HZ.out HL.out HG.out)
      generalize oneN L M D = a at *
      generalize twoN L M D = b at *
      go_wp2
      all_goals
        go_ret2
        exact ⟨ret_two' (by rw [hw.out]; omega) (nbC_ne HZ.out HL.out HG.out), HB3.out⟩
  · have hz' : (code2 p L q M != 0) = true := by simpa using hz
    have HZ := Lib.hid hz
    clear hz
    go_enter Try.func15, Try.ntmps15
    go_wp2_with fail
    refine (l02Code_two (w.heap.size + 1 + 1) A n c p L B m d q M _ Z0.out HL.out hn HI0.out HM.out hm HJ0.out).mono ?_
    rintro e w1 ⟨rfl, hb⟩
    have X1 := Lib.hid (X0.out.below hb X0.out.lt)
    have Y1 := Lib.hid (Y0.out.below hb Y0.out.lt)
    have HI1 := Lib.hid (HI0.out.below hb)
    have HJ1 := Lib.hid (HJ0.out.below hb)
    have HB1 := Lib.hid (HB0.out.trans (hb.mono HB0.out.size))
    clear hb X0 Y0 HI0 HJ0 HB0
    go_wp2
    go_ret2
    exact ⟨ret_two' (nbV_code HZ.out) (nbC_code HZ.out), HB1.out⟩
-- WaysByRule

set_option maxHeartbeats 1000000 in
theorem specWaysByRule_calls (A : Option Addr) (n c : Nat) (p : Int) (L : List Int) (B : Option Addr) (m d : Nat) (q : Int) (M : List Int) (w : World) (hL : L.length = n) (hn : n ≤ 1048576) (hI : Ints w A L) (hcap : n ≤ c) (hc : c ≤ 1048576) (hM : M.length = m) (hm : m ≤ 1048576) (hJ : Ints w B M) (hdap : m ≤ d) (hd : d ≤ 1048576) :
    Calls Try.prog 17 #[.agg #[.int .i64 p, .slice A n c], .agg #[.int .i64 q, .slice B m d]] w fun e w' => e = .returned (.tuple #[.int .i64 (nbV 1 waysI p L q M), .int .i64 (nbC 0 p L q M)]) ∧ Below w.heap.size w w' := by
  have HL := Lib.hid hL
  have HM := Lib.hid hM
  obtain ⟨b1, b2, b3⟩ := twoBoxes w p q A B n c m d 28
  have hbal := (Below.refl _ ((w.alloc (.cells #[.int .i64 p, .slice A n c] 28)).alloc (.cells #[.int .i64 q, .slice B m d] 28))).alloc (Nat.le_refl _) (.cells #[.int .i64 p, .slice A n c, .int .i64 q, .slice B m d] 28)
  have X0 := Lib.hid (b1.below hbal b1.lt)
  have Y0 := Lib.hid (b2.below hbal b2.lt)
  have hc0 := Box.new ((w.alloc (.cells #[.int .i64 p, .slice A n c] 28)).alloc (.cells #[.int .i64 q, .slice B m d] 28)) 28 #[.int .i64 p, .slice A n c, .int .i64 q, .slice B m d]
  simp only [World.size_alloc] at hc0
  have Z0 := Lib.hid hc0
  have HB0 := Lib.hid (b3.trans (hbal.mono b3.size))
  have HI0 := Lib.hid (hI.below HB0.out)
  have HJ0 := Lib.hid (hJ.below HB0.out)
  clear hL hM b1 b2 b3 hbal hc0 hI hJ
  by_cases hz : code2 p L q M = 0
  · obtain ⟨hs, ht, rfl, rfl, hlen⟩ := code2_zero hz
    rw [HL.out, HM.out] at hlen
    subst hlen
    have HZ := Lib.hid hz
    have hz' : (code2 3 L 3 M != 0) = false := by simpa using hz
    have h8 := (state_facts hs HL.out).2.2.1
    have HPL := Lib.hid (state_pegsOk hs)
    have HPM := Lib.hid (state_pegsOk ht)
    clear hz hs ht
    rcases grt_cases L M n with hg | ⟨D, hg⟩
    · have HG := Lib.hid hg
      clear hg
      go_enter Try.func17, Try.ntmps17
      go_wp2_with fail
      refine (l02Code_two (w.heap.size + 1 + 1) A n c 3 L B n d 3 M _ Z0.out HL.out hn HI0.out HM.out hm HJ0.out).mono ?_
      rintro e w1 ⟨rfl, hb⟩
      have X1 := Lib.hid (X0.out.below hb X0.out.lt)
      have Y1 := Lib.hid (Y0.out.below hb Y0.out.lt)
      have HI1 := Lib.hid (HI0.out.below hb)
      have HJ1 := Lib.hid (HJ0.out.below hb)
      have HB1 := Lib.hid (HB0.out.trans (hb.mono HB0.out.size))
      clear hb X0 Y0 HI0 HJ0 HB0
      obtain ⟨x0, x1, y0, y1⟩ := cells22 X1.out Y1.out
      go_wp2_with fail
      refine (l02Greatest_calls A n c 3 L B d 3 M _ HL.out HM.out h8 HI1.out HJ1.out).mono ?_
      rintro e w2 ⟨rfl, hb⟩
      have X2 := Lib.hid (X1.out.below hb X1.out.lt)
      have Y2 := Lib.hid (Y1.out.below hb Y1.out.lt)
      have HI2 := Lib.hid (HI1.out.below hb)
      have HJ2 := Lib.hid (HJ1.out.below hb)
      have HB2 := Lib.hid (HB1.out.trans (hb.mono HB1.out.size))
      clear hb X1 Y1 HI1 HJ1 HB1
      rw [HG.out]
      go_wp2
      go_ret2
      exact ⟨ret_two' (nbV_eq HZ.out HL.out HG.out) (nbC_eq HZ.out HL.out HG.out), HB2.out⟩
    · have HG := Lib.hid hg
      clear hg
      go_enter Try.func17, Try.ntmps17
      go_wp2_with fail
      refine (l02Code_two (w.heap.size + 1 + 1) A n c 3 L B n d 3 M _ Z0.out HL.out hn HI0.out HM.out hm HJ0.out).mono ?_
      rintro e w1 ⟨rfl, hb⟩
      have X1 := Lib.hid (X0.out.below hb X0.out.lt)
      have Y1 := Lib.hid (Y0.out.below hb Y0.out.lt)
      have HI1 := Lib.hid (HI0.out.below hb)
      have HJ1 := Lib.hid (HJ0.out.below hb)
      have HB1 := Lib.hid (HB0.out.trans (hb.mono HB0.out.size))
      clear hb X0 Y0 HI0 HJ0 HB0
      obtain ⟨x0, x1, y0, y1⟩ := cells22 X1.out Y1.out
      go_wp2_with fail
      refine (l02Greatest_calls A n c 3 L B d 3 M _ HL.out HM.out h8 HI1.out HJ1.out).mono ?_
      rintro e w2 ⟨rfl, hb⟩
      have X2 := Lib.hid (X1.out.below hb X1.out.lt)
      have Y2 := Lib.hid (Y1.out.below hb Y1.out.lt)
      have HI2 := Lib.hid (HI1.out.below hb)
      have HJ2 := Lib.hid (HJ1.out.below hb)
      have HB2 := Lib.hid (HB1.out.trans (hb.mono HB1.out.size))
      clear hb X1 Y1 HI1 HJ1 HB1
      rw [HG.out]
      clear x0 x1 y0 y1
      obtain ⟨x0, x1, y0, y1⟩ := cells22 X2.out Y2.out
      have hD0 : (0 : Int) ≤ (D : Int) := by omega
      go_wp2_with fail
      refine (l02Numbers_calls A n c 3 L B d 3 M D _ HL.out HM.out h8 HI2.out HJ2.out hcap hc hdap hd HPL.out HPM.out HG.out).mono ?_
      rintro e w3 ⟨rfl, hb⟩
      have X3 := Lib.hid (X2.out.below hb X2.out.lt)
      have Y3 := Lib.hid (Y2.out.below hb Y2.out.lt)
      have HI3 := Lib.hid (HI2.out.below hb)
      have HJ3 := Lib.hid (HJ2.out.below hb)
      have HB3 := Lib.hid (HB2.out.trans (hb.mono HB2.out.size))
      clear hb X2 Y2 HI2 HJ2 HB2
      have hb1 := oneN_bd L M (d := D) (by have := HG.out; have := grt_bd L M n; omega)
      have hb2 := twoN_bd L M (d := D) (by have := HG.out; have := grt_bd L M n; omega)
      have hw := Lib.hid (nbV_ne (v := 1) (f := waysI) HZ.out HL.out HG.out)
      generalize oneN L M D = a at *
      generalize twoN L M D = b at *
      by_cases hab : a = b
      · have ht : (a == b) = true := by simpa using hab
        have HAB := Lib.hid hab
        clear hab
        go_wp2
        go_ret2
        exact ⟨ret_two' (by rw [hw.out]; unfold waysI; rw [if_pos HAB.out]) (nbC_ne HZ.out HL.out HG.out), HB3.out⟩
      · have ht : (a == b) = false := by simpa using hab
        have HAB := Lib.hid hab
        clear hab
        go_wp2
        go_ret2
        exact ⟨ret_two' (by rw [hw.out]; unfold waysI; rw [if_neg HAB.out]) (nbC_ne HZ.out HL.out HG.out), HB3.out⟩
  · have hz' : (code2 p L q M != 0) = true := by simpa using hz
    have HZ := Lib.hid hz
    clear hz
    go_enter Try.func17, Try.ntmps17
    go_wp2_with fail
    refine (l02Code_two (w.heap.size + 1 + 1) A n c p L B m d q M _ Z0.out HL.out hn HI0.out HM.out hm HJ0.out).mono ?_
    rintro e w1 ⟨rfl, hb⟩
    have X1 := Lib.hid (X0.out.below hb X0.out.lt)
    have Y1 := Lib.hid (Y0.out.below hb Y0.out.lt)
    have HI1 := Lib.hid (HI0.out.below hb)
    have HJ1 := Lib.hid (HJ0.out.below hb)
    have HB1 := Lib.hid (HB0.out.trans (hb.mono HB0.out.size))
    clear hb X0 Y0 HI0 HJ0 HB0
    go_wp2
    go_ret2
    exact ⟨ret_two' (nbV_code HZ.out) (nbC_code HZ.out), HB1.out⟩

theorem nb_five {p q : Int} {L M : List Int} (h : nbC 5 p L q M = 5) : (∀ v f, nbV v f p L q M = v) ∧ (∀ v, nbC v p L q M = v) := by
  by_cases hz : code2 p L q M = 0
  · by_cases hg : grt L M L.length = -1
    · exact ⟨fun v f => nbV_eq hz rfl hg, fun v => nbC_eq hz rfl hg⟩
    · exfalso
      unfold nbC at h
      rw [if_pos hz, if_neg hg] at h
      omega
  · exfalso
    have := code2_bd p q L M
    unfold nbC at h
    rw [if_neg hz] at h
    omega
theorem nb_notfive {p q : Int} {L M : List Int} (h : ¬ nbC 5 p L q M = 5) : (∀ v f, f 0 0 = 0 → nbV v f p L q M = f (nbV 0 fstI p L q M) (nbV 0 sndI p L q M)) ∧ (∀ v, nbC v p L q M = nbC 5 p L q M) := by
  by_cases hz : code2 p L q M = 0
  · by_cases hg : grt L M L.length = -1
    · exact absurd (nbC_eq hz rfl hg) h
    · constructor
      · intro v f hf
        unfold nbV
        simp only [if_pos hz, if_neg hg, fstI, sndI]
      · intro v
        unfold nbC
        simp only [if_pos hz, if_neg hg]
  · constructor
    · intro v f hf
      simp only [nbV_code hz, hf]
    · intro v
      simp only [nbC_code hz]
theorem nb_zero {p q : Int} {L M : List Int} (h : nbC 5 p L q M = 0) : ∀ v f, nbV v f p L q M = f (nbV 0 fstI p L q M) (nbV 0 sndI p L q M) := by
  by_cases hz : code2 p L q M = 0
  · by_cases hg : grt L M L.length = -1
    · have := nbC_eq (v := 5) hz rfl hg
      omega
    · intro v f
      unfold nbV
      simp only [if_pos hz, if_neg hg, fstI, sndI]
  · exact absurd ((nbC_code (v := 5) hz).symm.trans h) hz
theorem nb_notzero {p q : Int} {L M : List Int} (h : ¬ nbC 5 p L q M = 0) (h5 : ¬ nbC 5 p L q M = 5) : ∀ v f, nbV v f p L q M = 0 := by
  by_cases hz : code2 p L q M = 0
  · exfalso
    by_cases hg : grt L M L.length = -1
    · exact h5 (nbC_eq hz rfl hg)
    · apply h
      unfold nbC
      rw [if_pos hz, if_neg hg]
  · exact fun v f => nbV_code hz
theorem nbC_zero2 {p q : Int} {L M : List Int} (h : nbC 5 p L q M = 0) : nbC 0 p L q M = 0 := by
  by_cases hz : code2 p L q M = 0
  · by_cases hg : grt L M L.length = -1
    · exact nbC_eq hz rfl hg
    · unfold nbC
      rw [if_pos hz, if_neg hg]
  · rw [nbC_code hz] at h ⊢
    exact h
theorem fstI_bd (a b : Int) (h : 0 ≤ a ∧ a ≤ 1000) (h' : 0 ≤ b ∧ b ≤ 1000) : 0 ≤ fstI a b ∧ fstI a b ≤ 1000 := h
theorem sndI_bd (a b : Int) (h : 0 ≤ a ∧ a ≤ 1000) (h' : 0 ≤ b ∧ b ≤ 1000) : 0 ≤ sndI a b ∧ sndI a b ≤ 1000 := h'
theorem nbV_bd (f : Int → Int → Int) (hf : ∀ a b, 0 ≤ a ∧ a ≤ 1000 → 0 ≤ b ∧ b ≤ 1000 → 0 ≤ f a b ∧ f a b ≤ 1000) (p q : Int) (L M : List Int) : 0 ≤ nbV 0 f p L q M ∧ nbV 0 f p L q M ≤ 1000 := by
  unfold nbV
  split
  · next hz =>
    split
    · omega
    · have hs := (code2_zero hz).1
      have h8 := (state_facts hs rfl).2.2.1
      have := (grt_bd L M L.length).2
      exact hf _ _ (oneN_bd L M (by omega)) (twoN_bd L M (by omega))
  · omega

set_option maxHeartbeats 1000000 in
theorem implOneMoveNumber_calls (A : Option Addr) (n c : Nat) (p : Int) (L : List Int) (B : Option Addr) (m d : Nat) (q : Int) (M : List Int) (w : World) (hL : L.length = n) (hn : n ≤ 1048576) (hI : Ints w A L) (hcap : n ≤ c) (hc : c ≤ 1048576) (hM : M.length = m) (hm : m ≤ 1048576) (hJ : Ints w B M) (hdap : m ≤ d) (hd : d ≤ 1048576) :
    Calls Try.prog 11 #[.agg #[.int .i64 p, .slice A n c], .agg #[.int .i64 q, .slice B m d]] w fun e w' => e = .returned (.tuple #[.int .i64 (nbV 0 fstI p L q M), .int .i64 (nbC 5 p L q M)]) ∧ Below w.heap.size w w' := by
  have HL := Lib.hid hL
  have HM := Lib.hid hM
  obtain ⟨b1, b2, b3⟩ := twoBoxes w p q A B n c m d 28
  have HB0 := Lib.hid b3
  have HI0 := Lib.hid (hI.below b3)
  have HJ0 := Lib.hid (hJ.below b3)
  obtain ⟨x0, x1, y0, y1⟩ := cells22 b1 b2
  clear hL hM b1 b2 b3 hI hJ
  go_enter Try.func11, Try.ntmps11
  go_wp2_with fail
  refine (numbersBetween_calls A n c p L B m d q M _ HL.out hn HI0.out hcap hc HM.out hm HJ0.out hdap hd).mono ?_
  rintro e w1 ⟨rfl, hb⟩
  have HB1 := Lib.hid (HB0.out.trans (hb.mono HB0.out.size))
  clear hb
  go_wp2
  go_ret2
  exact ⟨rfl, HB1.out⟩

set_option maxHeartbeats 1000000 in
theorem implTwoMoveNumber_calls (A : Option Addr) (n c : Nat) (p : Int) (L : List Int) (B : Option Addr) (m d : Nat) (q : Int) (M : List Int) (w : World) (hL : L.length = n) (hn : n ≤ 1048576) (hI : Ints w A L) (hcap : n ≤ c) (hc : c ≤ 1048576) (hM : M.length = m) (hm : m ≤ 1048576) (hJ : Ints w B M) (hdap : m ≤ d) (hd : d ≤ 1048576) :
    Calls Try.prog 14 #[.agg #[.int .i64 p, .slice A n c], .agg #[.int .i64 q, .slice B m d]] w fun e w' => e = .returned (.tuple #[.int .i64 (nbV 0 sndI p L q M), .int .i64 (nbC 5 p L q M)]) ∧ Below w.heap.size w w' := by
  have HL := Lib.hid hL
  have HM := Lib.hid hM
  obtain ⟨b1, b2, b3⟩ := twoBoxes w p q A B n c m d 28
  have HB0 := Lib.hid b3
  have HI0 := Lib.hid (hI.below b3)
  have HJ0 := Lib.hid (hJ.below b3)
  obtain ⟨x0, x1, y0, y1⟩ := cells22 b1 b2
  clear hL hM b1 b2 b3 hI hJ
  go_enter Try.func14, Try.ntmps14
  go_wp2_with fail
  refine (numbersBetween_calls A n c p L B m d q M _ HL.out hn HI0.out hcap hc HM.out hm HJ0.out hdap hd).mono ?_
  rintro e w1 ⟨rfl, hb⟩
  have HB1 := Lib.hid (HB0.out.trans (hb.mono HB0.out.size))
  clear hb
  go_wp2
  go_ret2
  exact ⟨rfl, HB1.out⟩

set_option maxHeartbeats 1000000 in
theorem implDistanceByRule_calls (A : Option Addr) (n c : Nat) (p : Int) (L : List Int) (B : Option Addr) (m d : Nat) (q : Int) (M : List Int) (w : World) (hL : L.length = n) (hn : n ≤ 1048576) (hI : Ints w A L) (hcap : n ≤ c) (hc : c ≤ 1048576) (hM : M.length = m) (hm : m ≤ 1048576) (hJ : Ints w B M) (hdap : m ≤ d) (hd : d ≤ 1048576) :
    Calls Try.prog 16 #[.agg #[.int .i64 p, .slice A n c], .agg #[.int .i64 q, .slice B m d]] w fun e w' => e = .returned (.tuple #[.int .i64 (nbV 0 min p L q M), .int .i64 (nbC 0 p L q M)]) ∧ Below w.heap.size w w' := by
  have HL := Lib.hid hL
  have HM := Lib.hid hM
  obtain ⟨b1, b2, b3⟩ := twoBoxes w p q A B n c m d 28
  have HB0 := Lib.hid b3
  have HI0 := Lib.hid (hI.below b3)
  have HJ0 := Lib.hid (hJ.below b3)
  obtain ⟨x0, x1, y0, y1⟩ := cells22 b1 b2
  clear hL hM b1 b2 b3 hI hJ
  by_cases h5 : nbC 5 p L q M = 5
  · have ht : (nbC 5 p L q M == 5) = true := by simpa using h5
    have HV := Lib.hid (nb_five h5)
    clear h5
    go_enter Try.func16, Try.ntmps16
    go_wp2_with fail
    refine (numbersBetween_calls A n c p L B m d q M _ HL.out hn HI0.out hcap hc HM.out hm HJ0.out hdap hd).mono ?_
    rintro e w1 ⟨rfl, hb⟩
    have HB1 := Lib.hid (HB0.out.trans (hb.mono HB0.out.size))
    clear hb
    go_wp2
    go_ret2
    exact ⟨ret_two' (HV.out.1 _ _) (HV.out.2 _), HB1.out⟩
  · have ht : (nbC 5 p L q M == 5) = false := by simpa using h5
    have HV := Lib.hid (nb_notfive h5)
    have hbo := nbV_bd fstI fstI_bd p q L M
    have hbt := nbV_bd sndI sndI_bd p q L M
    clear h5
    go_enter Try.func16, Try.ntmps16
    go_wp2_with fail
    refine (numbersBetween_calls A n c p L B m d q M _ HL.out hn HI0.out hcap hc HM.out hm HJ0.out hdap hd).mono ?_
    rintro e w1 ⟨rfl, hb⟩
    have HB1 := Lib.hid (HB0.out.trans (hb.mono HB0.out.size))
    clear hb
    have hw := Lib.hid (HV.out.1 0 min (by simp))
    have hw2 := Lib.hid (HV.out.2 0)
    clear HV
    generalize nbV 0 fstI p L q M = a at *
    generalize nbV 0 sndI p L q M = b at *
    go_wp2
    all_goals
      go_ret2
      exact ⟨ret_two' (by rw [hw.out]; omega) hw2.out, HB1.out⟩

set_option maxHeartbeats 1000000 in
theorem implWaysByRule_calls (A : Option Addr) (n c : Nat) (p : Int) (L : List Int) (B : Option Addr) (m d : Nat) (q : Int) (M : List Int) (w : World) (hL : L.length = n) (hn : n ≤ 1048576) (hI : Ints w A L) (hcap : n ≤ c) (hc : c ≤ 1048576) (hM : M.length = m) (hm : m ≤ 1048576) (hJ : Ints w B M) (hdap : m ≤ d) (hd : d ≤ 1048576) :
    Calls Try.prog 18 #[.agg #[.int .i64 p, .slice A n c], .agg #[.int .i64 q, .slice B m d]] w fun e w' => e = .returned (.tuple #[.int .i64 (nbV 1 waysI p L q M), .int .i64 (nbC 0 p L q M)]) ∧ Below w.heap.size w w' := by
  have HL := Lib.hid hL
  have HM := Lib.hid hM
  obtain ⟨b1, b2, b3⟩ := twoBoxes w p q A B n c m d 28
  have HB0 := Lib.hid b3
  have HI0 := Lib.hid (hI.below b3)
  have HJ0 := Lib.hid (hJ.below b3)
  obtain ⟨x0, x1, y0, y1⟩ := cells22 b1 b2
  clear hL hM b1 b2 b3 hI hJ
  by_cases h5 : nbC 5 p L q M = 5
  · have ht : (nbC 5 p L q M == 5) = true := by simpa using h5
    have HV := Lib.hid (nb_five h5)
    clear h5
    go_enter Try.func18, Try.ntmps18
    go_wp2_with fail
    refine (numbersBetween_calls A n c p L B m d q M _ HL.out hn HI0.out hcap hc HM.out hm HJ0.out hdap hd).mono ?_
    rintro e w1 ⟨rfl, hb⟩
    have HB1 := Lib.hid (HB0.out.trans (hb.mono HB0.out.size))
    clear hb
    go_wp2
    go_ret2
    exact ⟨ret_two' (HV.out.1 _ _) (HV.out.2 _), HB1.out⟩
  · have ht : (nbC 5 p L q M == 5) = false := by simpa using h5
    have HV := Lib.hid (nb_notfive h5)
    clear h5
    by_cases hz : nbC 5 p L q M = 0
    · have hz' : (nbC 5 p L q M != 0) = false := by simpa using hz
      have HZ := Lib.hid (nb_zero hz)
      have hw3 := Lib.hid (nbC_zero2 hz)
      clear hz
      go_enter Try.func18, Try.ntmps18
      go_wp2_with fail
      refine (numbersBetween_calls A n c p L B m d q M _ HL.out hn HI0.out hcap hc HM.out hm HJ0.out hdap hd).mono ?_
      rintro e w1 ⟨rfl, hb⟩
      have HB1 := Lib.hid (HB0.out.trans (hb.mono HB0.out.size))
      clear hb
      have hw := Lib.hid (HZ.out 1 waysI)
      have hw2 := Lib.hid (HV.out.2 0)
      clear HV HZ
      generalize nbV 0 fstI p L q M = a at *
      generalize nbV 0 sndI p L q M = b at *
      by_cases hab : a = b
      · have ht : (a == b) = true := by simpa using hab
        have HAB := Lib.hid hab
        clear hab
        go_wp2
        go_ret2
        exact ⟨ret_two' (by rw [hw.out]; unfold waysI; rw [if_pos HAB.out]) hw3.out, HB1.out⟩
      · have ht : (a == b) = false := by simpa using hab
        have HAB := Lib.hid hab
        clear hab
        go_wp2
        go_ret2
        exact ⟨ret_two' (by rw [hw.out]; unfold waysI; rw [if_neg HAB.out]) hw3.out, HB1.out⟩
    · have hz' : (nbC 5 p L q M != 0) = true := by simpa using hz
      have HZ := Lib.hid (nb_notzero hz (by intro h; rw [h] at ht; simp at ht))
      clear hz
      go_enter Try.func18, Try.ntmps18
      go_wp2_with fail
      refine (numbersBetween_calls A n c p L B m d q M _ HL.out hn HI0.out hcap hc HM.out hm HJ0.out hdap hd).mono ?_
      rintro e w1 ⟨rfl, hb⟩
      have HB1 := Lib.hid (HB0.out.trans (hb.mono HB0.out.size))
      clear hb
      go_wp2
      go_ret2
      exact ⟨ret_two' (HZ.out 1 waysI) (HV.out.2 0), HB1.out⟩

end Go.Proofs.Ytbblocaihholpac
