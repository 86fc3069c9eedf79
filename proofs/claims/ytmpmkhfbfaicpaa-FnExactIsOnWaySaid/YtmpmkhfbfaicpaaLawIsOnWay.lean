/- 'IsOnWay' of the program answers at every argument as the specification's model, and leaves its arguments as they were. Conditions: none. -/
import Derived.Test.YtmpmkhfbfaicpaaOpen
import Derived.Test.YtmpmkhfbfaicpaaOpenState
import Derived.Test.YtmpmkhfbfaicpaaOnI
import Derived.Deep.RegionHeld3
namespace Go.Proofs.Ytmpmkhfbfaicpaa.fnExactIsOnWay
open Go.ChangeShapes Go.WideShapes Go.ChangeAt Go.RowKit Go.Joins
open Go.ChangeMaps (open_string)
set_option linter.unusedVariables false

theorem szI_no' {n : Nat} {l : Int} (h : l < n) : szI n l = -1 := by unfold szI; omega
theorem szI_yes' {n : Nat} {l : Int} (h : ¬ l < n) : szI n l = l - n := by unfold szI; omega

theorem boxes2 (w : World) (p0 p1 : Int) (A0 A1 : Option Addr) (n0 c0 n1 c1 t : Nat) :
    Box ((w.alloc (.cells #[.int .i64 p0, .slice A0 n0 c0] t)).alloc (.cells #[.int .i64 p1, .slice A1 n1 c1] t)) w.heap.size t #[.int .i64 p0, .slice A0 n0 c0] ∧ Box ((w.alloc (.cells #[.int .i64 p0, .slice A0 n0 c0] t)).alloc (.cells #[.int .i64 p1, .slice A1 n1 c1] t)) (w.heap.size + 1) t #[.int .i64 p1, .slice A1 n1 c1] ∧ Below w.heap.size w ((w.alloc (.cells #[.int .i64 p0, .slice A0 n0 c0] t)).alloc (.cells #[.int .i64 p1, .slice A1 n1 c1] t)) := by
  refine ⟨(Box.new _ _ _).alloc _, ?_, ((Below.refl _ _).alloc (Nat.le_refl _) _).alloc (by simp) _⟩
  have := Box.new (w.alloc (.cells #[.int .i64 p0, .slice A0 n0 c0] t)) t #[.int .i64 p1, .slice A1 n1 c1]
  rwa [World.size_alloc] at this

set_option maxRecDepth 100000 in
set_option maxHeartbeats 4000000 in
theorem core (p0 : Int) (A0 : Option Addr) (n0 c0 : Nat) (L0 : List Int) (b : Int) (p1 : Int) (A1 : Option Addr) (n1 c1 : Nat) (L1 : List Int) (R0 : Bool) (R1 : Int) (w : World) (hL0 : L0.length = n0) (hn0 : n0 ≤ 1048576) (hI0 : Ints w A0 L0) (hL1 : L1.length = n1) (hn1 : n1 ≤ 1048576) (hsum : n0 + n1 ≤ 1048576) (hI1 : Ints w A1 L1)
    (hspec : ∀ g0 g1 W, Ints W (some ⟨g0, 0, none⟩) L0 → Ints W (some ⟨g1, 0, none⟩) L1 → Calls Try.prog 18 #[.agg #[.int .i64 p0, .slice (some ⟨g0, 0, none⟩) n0 n0], .int .i64 b, .agg #[.int .i64 p1, .slice (some ⟨g1, 0, none⟩) n1 n1]] W fun e w' => e = .returned (.tuple #[.bool R0, .int .i64 R1]) ∧ Below W.heap.size W w')
    (himpl : ∀ g0 g1 W, Ints W (some ⟨g0, 0, none⟩) L0 → Ints W (some ⟨g1, 0, none⟩) L1 → Calls Try.prog 19 #[.agg #[.int .i64 p0, .slice (some ⟨g0, 0, none⟩) n0 n0], .int .i64 b, .agg #[.int .i64 p1, .slice (some ⟨g1, 0, none⟩) n1 n1]] W fun e w' => e = .returned (.tuple #[.bool R0, .int .i64 R1]) ∧ Below W.heap.size W w') :
    Calls Try.prog 5 #[.agg #[.int .i64 p0, .slice A0 n0 c0], .int .i64 b, .agg #[.int .i64 p1, .slice A1 n1 c1]] w fun e w' => e = .returned (.bool true) ∧ Below w.heap.size w w' := by
  have HS := Lib.hid hspec
  have HP := Lib.hid himpl
  have HL0 := Lib.hid hL0
  have HL1 := Lib.hid hL1
  have hz0 : szI n0 1048576 = 1048576 - n0 := szI_yes' (by omega)
  have hz1 : szI n1 (1048576 - n0) = 1048576 - n0 - n1 := szI_yes' (by omega)
  obtain ⟨hbX, hbY, hb0⟩ := boxes2 w p0 p1 A0 A1 n0 c0 n1 c1 24
  have X0 := Lib.hid hbX
  have Y0 := Lib.hid hbY
  have HB0 := Lib.hid hb0
  clear hbX hbY hb0
  clear hspec himpl hL0 hL1
  go_enter Try.func5, Try.ntmps5
  go_wp2_with fail
  refine (szState_calls A0 n0 c0 p0 1048576 _ (by omega) (by omega) (by omega)).mono ?_
  rintro e w1 ⟨rfl, hb⟩
  rw [hz0]
  have X1 := Lib.hid (X0.out.below hb X0.out.lt)
  have Y1 := Lib.hid (Y0.out.below hb Y0.out.lt)
  have HB1 := Lib.hid (HB0.out.trans ((hb).mono HB0.out.size))
  clear X0 Y0 HB0
  clear hb
  obtain ⟨y0, y1, _, _⟩ := Y1.out.two
  go_wp2_with fail
  refine (szState_calls A1 n1 c1 p1 (1048576 - n0) _ (by omega) (by omega) (by omega)).mono ?_
  rintro e w2 ⟨rfl, hb⟩
  rw [hz1]
  have X2 := Lib.hid (X1.out.below hb X1.out.lt)
  have Y2 := Lib.hid (Y1.out.below hb Y1.out.lt)
  have HB2 := Lib.hid (HB1.out.trans ((hb).mono HB1.out.size))
  clear X1 Y1 HB1
  clear hb y0 y1
  have hI2 := Lib.hid (hI0.below HB2.out)
  have hJ2 := Lib.hid (hI1.below HB2.out)
  have X2 := X2
  have Y2 := Y2
  obtain ⟨x0, x1, y0, y1⟩ := cells22 X2.out Y2.out
  have zx := X2.out.lt
  have zy := Y2.out.lt
  go_wp2_with fail
  go_region_held3 (fun w' => w'.cell? ⟨w.heap.size, 0, none⟩ = some (.int .i64 p0) ∧ w'.cell? ⟨w.heap.size, 1, none⟩ = some (.slice A0 n0 c0) ∧ w'.cell? ⟨w.heap.size + 1, 0, none⟩ = some (.int .i64 p1) ∧ w'.cell? ⟨w.heap.size + 1, 1, none⟩ = some (.slice A1 n1 c1))
    (first | exact cells22 X2.out Y2.out | exact cells22 X3.out Y3.out | exact cells22 X4.out Y4.out | exact cells22 X5.out Y5.out | go_keep)
    (first
    | (go_at_call 8; (with_reducible refine (toState_calls A0 n0 c0 p0 L0 _ HL0.out hn0 ?_).mono ?_); (exact hI2.out); rintro e w3 ⟨g0, rfl, hg0, hr0, hb3⟩; have X3 := Lib.hid (Box.below X2.out (undrew hb3) zx); have Y3 := Lib.hid (Box.below Y2.out (undrew hb3) zy))
    | (go_at_call 8; (with_reducible refine (toState_calls A1 n1 c1 p1 L1 _ HL1.out hn1 ?_).mono ?_); (exact hJ2.out.below (undrew hb3)); rintro e w4 ⟨g1, rfl, hg1, hr1, hb4⟩; have X4 := Lib.hid (Box.below X3.out hb4 (Box.lt X3.out)); have Y4 := Lib.hid (Box.below Y3.out hb4 (Box.lt Y3.out)))
    | (go_at_call 18; refine (HS.out g0 g1 _ ?_ ?_).mono ?_; (exact hr0.ints.below hb4); (exact hr1.ints); rintro e w5 ⟨rfl, hb5⟩; have X5 := Lib.hid (Box.below X4.out hb5 (Box.lt X4.out)); have Y5 := Lib.hid (Box.below Y4.out hb5 (Box.lt Y4.out))))
  clear X3 Y3 X4 Y4 X5 Y5 x0 x1 y0 y1 zx zy hr0 hr1 hg0 hg1 X2 Y2
  have X3 := Lib.hid (X2.out.below (undrew hb3) X2.out.lt)
  have Y3 := Lib.hid (Y2.out.below (undrew hb3) Y2.out.lt)
  have HB3 := Lib.hid (HB2.out.trans (((undrew hb3)).mono HB2.out.size))
  clear X2 Y2 HB2
  have X4 := Lib.hid (X3.out.below hb4 X3.out.lt)
  have Y4 := Lib.hid (Y3.out.below hb4 Y3.out.lt)
  have HB4 := Lib.hid (HB3.out.trans ((hb4).mono HB3.out.size))
  clear X3 Y3 HB3
  have X5 := Lib.hid (X4.out.below hb5 X4.out.lt)
  have Y5 := Lib.hid (Y4.out.below hb5 Y4.out.lt)
  have HB5 := Lib.hid (HB4.out.trans ((hb5).mono HB4.out.size))
  clear X4 Y4 HB4
  clear hb3 hb4 hb5 hI2 hJ2
  have hK := Lib.hid (hI0.below HB5.out)
  obtain ⟨x0, x1, _, _⟩ := X5.out.two
  go_wp2_with fail
  refine (toState_calls A0 n0 c0 p0 L0 _ HL0.out hn0 hK.out).mono ?_
  rintro e w6 ⟨g0, rfl, hg0, hr0, hb⟩
  have X6 := Lib.hid (X5.out.below hb X5.out.lt)
  have Y6 := Lib.hid (Y5.out.below hb Y5.out.lt)
  have HB6 := Lib.hid (HB5.out.trans ((hb).mono HB5.out.size))
  clear X5 Y5 HB5
  have R0 := Lib.hid (hr0.ints)
  clear hb hg0 hr0 x0 x1 hK
  have hba : Below w6.heap.size w6 (w6.alloc (.cells #[.int .i64 p0, .slice (some ⟨g0, 0, none⟩) n0 n0] 30)) := (Below.refl _ w6).alloc (Nat.le_refl _) (.cells #[.int .i64 p0, .slice (some ⟨g0, 0, none⟩) n0 n0] 30)
  have hnew := Box.new w6 30 #[.int .i64 p0, .slice (some ⟨g0, 0, none⟩) n0 n0]
  have X7 := Lib.hid (X6.out.below hba X6.out.lt)
  have Y7 := Lib.hid (Y6.out.below hba Y6.out.lt)
  have R1 := Lib.hid (R0.out.below hba)
  have HB7 := Lib.hid (HB6.out.trans ((hba).mono HB6.out.size))
  clear X6 Y6 R0 HB6
  have U0 := Lib.hid (hnew)
  clear hba hnew
  obtain ⟨y0, y1, _, _⟩ := Y7.out.two
  go_wp2_with fail
  generalize hW0 : w6.alloc (.cells #[.int .i64 p0, .slice (some ⟨g0, 0, none⟩) n0 n0] 30) = W0 at *
  clear hW0
  generalize w6.heap.size = b0 at *
  clear y0 y1
  have hK := Lib.hid (hI1.below HB7.out)
  obtain ⟨x0, x1, _, _⟩ := Y7.out.two
  go_wp2_with fail
  refine (toState_calls A1 n1 c1 p1 L1 _ HL1.out hn1 hK.out).mono ?_
  rintro e w6 ⟨g1, rfl, hg1, hr1, hb⟩
  have X8 := Lib.hid (X7.out.below hb X7.out.lt)
  have Y8 := Lib.hid (Y7.out.below hb Y7.out.lt)
  have R2 := Lib.hid (R1.out.below hb)
  have U1 := Lib.hid (U0.out.below hb U0.out.lt)
  have HB8 := Lib.hid (HB7.out.trans ((hb).mono HB7.out.size))
  clear X7 Y7 R1 U0 HB7
  have S0 := Lib.hid (hr1.ints)
  clear hb hg1 hr1 x0 x1 hK
  have hba : Below w6.heap.size w6 (w6.alloc (.cells #[.int .i64 p1, .slice (some ⟨g1, 0, none⟩) n1 n1] 30)) := (Below.refl _ w6).alloc (Nat.le_refl _) (.cells #[.int .i64 p1, .slice (some ⟨g1, 0, none⟩) n1 n1] 30)
  have hnew := Box.new w6 30 #[.int .i64 p1, .slice (some ⟨g1, 0, none⟩) n1 n1]
  have X9 := Lib.hid (X8.out.below hba X8.out.lt)
  have Y9 := Lib.hid (Y8.out.below hba Y8.out.lt)
  have R3 := Lib.hid (R2.out.below hba)
  have U2 := Lib.hid (U1.out.below hba U1.out.lt)
  have S1 := Lib.hid (S0.out.below hba)
  have HB9 := Lib.hid (HB8.out.trans ((hba).mono HB8.out.size))
  clear X8 Y8 R2 U1 S0 HB8
  have T0 := Lib.hid (hnew)
  clear hba hnew
  obtain ⟨x0, x1, y0, y1⟩ := cells22 U2.out T0.out
  go_wp2_with fail
  generalize hW1 : w6.alloc (.cells #[.int .i64 p1, .slice (some ⟨g1, 0, none⟩) n1 n1] 30) = W1 at *
  clear hW1
  generalize w6.heap.size = b1 at *
  skip
  refine (HP.out g0 g1 _ R3.out S1.out).mono ?_
  rintro e w7 ⟨rfl, hb⟩
  have X10 := Lib.hid (X9.out.below hb X9.out.lt)
  have Y10 := Lib.hid (Y9.out.below hb Y9.out.lt)
  have R4 := Lib.hid (R3.out.below hb)
  have U3 := Lib.hid (U2.out.below hb U2.out.lt)
  have S2 := Lib.hid (S1.out.below hb)
  have T1 := Lib.hid (T0.out.below hb T0.out.lt)
  have HB10 := Lib.hid (HB9.out.trans ((hb).mono HB9.out.size))
  clear X9 Y9 R3 U2 S1 T0 HB9
  clear hb x0 x1 y0 y1
  have hK := Lib.hid (hI0.below HB10.out)
  have U7 := U3
  have X7 := X10
  have R7 := R4
  obtain ⟨u0, u1, s0, s1⟩ := cells22 U7.out X7.out
  have zu := U7.out.lt
  have zx := X7.out.lt
  go_wp2_with fail
  go_region_held3 (fun w' => w'.cell? ⟨b0, 0, none⟩ = some (.int .i64 p0) ∧ w'.cell? ⟨b0, 1, none⟩ = some (.slice (some ⟨g0, 0, none⟩) n0 n0) ∧ w'.cell? ⟨w.heap.size, 0, none⟩ = some (.int .i64 p0) ∧ w'.cell? ⟨w.heap.size, 1, none⟩ = some (.slice A0 n0 c0))
    (first | exact cells22 U7.out X7.out | exact cells22 U8.out X8.out | exact cells22 U9.out X9.out | go_keep)
    (first
    | (go_at_call 8; refine (toState_calls A0 n0 c0 p0 L0 _ HL0.out hn0 ?_).mono ?_; (exact hK.out); rintro e w8 ⟨gr, rfl, hgr, hr8, hb8⟩; have U8 := Lib.hid (Box.below U7.out (undrew hb8) zu); have X8 := Lib.hid (Box.below X7.out (undrew hb8) zx))
    | (go_at_call 11; refine (eqState_calls (some ⟨g0, 0, none⟩) (some ⟨gr, 0, none⟩) n0 n0 n0 n0 p0 p0 L0 L0 _ HL0.out HL0.out hn0 hn0 ?_ ?_).mono ?_; (exact R7.out.below (undrew hb8)); (exact hr8.ints); rintro e w9 ⟨rfl, hb9⟩; have U9 := Lib.hid (Box.below U8.out hb9 (Box.lt U8.out)); have X9 := Lib.hid (Box.below X8.out hb9 (Box.lt X8.out))))
  clear U8 X8 U9 X9 u0 u1 s0 s1 zu zx hr8 hgr U7 X7 R7
  have X11 := Lib.hid (X10.out.below (undrew hb8) X10.out.lt)
  have Y11 := Lib.hid (Y10.out.below (undrew hb8) Y10.out.lt)
  have R5 := Lib.hid (R4.out.below (undrew hb8))
  have U4 := Lib.hid (U3.out.below (undrew hb8) U3.out.lt)
  have S3 := Lib.hid (S2.out.below (undrew hb8))
  have T2 := Lib.hid (T1.out.below (undrew hb8) T1.out.lt)
  have HB11 := Lib.hid (HB10.out.trans (((undrew hb8)).mono HB10.out.size))
  clear X10 Y10 R4 U3 S2 T1 HB10
  have X12 := Lib.hid (X11.out.below hb9 X11.out.lt)
  have Y12 := Lib.hid (Y11.out.below hb9 Y11.out.lt)
  have R6 := Lib.hid (R5.out.below hb9)
  have U5 := Lib.hid (U4.out.below hb9 U4.out.lt)
  have S4 := Lib.hid (S3.out.below hb9)
  have T3 := Lib.hid (T2.out.below hb9 T2.out.lt)
  have HB12 := Lib.hid (HB11.out.trans ((hb9).mono HB11.out.size))
  clear X11 Y11 R5 U4 S3 T2 HB11
  clear hb8 hb9 hK
  have hK := Lib.hid (hI1.below HB12.out)
  have U7 := T3
  have X7 := Y12
  have R7 := S4
  obtain ⟨u0, u1, s0, s1⟩ := cells22 U7.out X7.out
  have zu := U7.out.lt
  have zx := X7.out.lt
  go_wp2_with fail
  go_region_held3 (fun w' => w'.cell? ⟨b1, 0, none⟩ = some (.int .i64 p1) ∧ w'.cell? ⟨b1, 1, none⟩ = some (.slice (some ⟨g1, 0, none⟩) n1 n1) ∧ w'.cell? ⟨w.heap.size + 1, 0, none⟩ = some (.int .i64 p1) ∧ w'.cell? ⟨w.heap.size + 1, 1, none⟩ = some (.slice A1 n1 c1))
    (first | exact cells22 U7.out X7.out | exact cells22 U8.out X8.out | exact cells22 U9.out X9.out | go_keep)
    (first
    | (go_at_call 8; refine (toState_calls A1 n1 c1 p1 L1 _ HL1.out hn1 ?_).mono ?_; (exact hK.out); rintro e w8 ⟨gr, rfl, hgr, hr8, hb8⟩; have U8 := Lib.hid (Box.below U7.out (undrew hb8) zu); have X8 := Lib.hid (Box.below X7.out (undrew hb8) zx))
    | (go_at_call 11; refine (eqState_calls (some ⟨g1, 0, none⟩) (some ⟨gr, 0, none⟩) n1 n1 n1 n1 p1 p1 L1 L1 _ HL1.out HL1.out hn1 hn1 ?_ ?_).mono ?_; (exact R7.out.below (undrew hb8)); (exact hr8.ints); rintro e w9 ⟨rfl, hb9⟩; have U9 := Lib.hid (Box.below U8.out hb9 (Box.lt U8.out)); have X9 := Lib.hid (Box.below X8.out hb9 (Box.lt X8.out))))
  clear U8 X8 U9 X9 u0 u1 s0 s1 zu zx hr8 hgr U7 X7 R7
  have X13 := Lib.hid (X12.out.below (undrew hb8) X12.out.lt)
  have Y13 := Lib.hid (Y12.out.below (undrew hb8) Y12.out.lt)
  have R7 := Lib.hid (R6.out.below (undrew hb8))
  have U6 := Lib.hid (U5.out.below (undrew hb8) U5.out.lt)
  have S5 := Lib.hid (S4.out.below (undrew hb8))
  have T4 := Lib.hid (T3.out.below (undrew hb8) T3.out.lt)
  have HB13 := Lib.hid (HB12.out.trans (((undrew hb8)).mono HB12.out.size))
  clear X12 Y12 R6 U5 S4 T3 HB12
  have X14 := Lib.hid (X13.out.below hb9 X13.out.lt)
  have Y14 := Lib.hid (Y13.out.below hb9 Y13.out.lt)
  have R8 := Lib.hid (R7.out.below hb9)
  have U7 := Lib.hid (U6.out.below hb9 U6.out.lt)
  have S6 := Lib.hid (S5.out.below hb9)
  have T5 := Lib.hid (T4.out.below hb9 T4.out.lt)
  have HB14 := Lib.hid (HB13.out.trans ((hb9).mono HB13.out.size))
  clear X13 Y13 R7 U6 S5 T4 HB13
  clear hb8 hb9 hK
  go_wp2
  go_ret
  exact ⟨rfl, HB14.out⟩

theorem walk (p0 : Int) (A0 : Option Addr) (n0 c0 : Nat) (L0 : List Int) (b : Int) (p1 : Int) (A1 : Option Addr) (n1 c1 : Nat) (L1 : List Int) (w : World) (w0 : (Lit.int .i64 p0).wf = true) (hA0 : ArgInts w A0 n0 L0) (wb : (Lit.int .i64 b).wf = true) (w1 : (Lit.int .i64 p1).wf = true) (hA1 : ArgInts w A1 n1 L1) :
    Calls Try.prog 5 #[.agg #[.int .i64 p0, .slice A0 n0 c0], .int .i64 b, .agg #[.int .i64 p1, .slice A1 n1 c1]] w fun e w' => e = .returned (.bool true) ∧ Below w.heap.size w w' := by
  obtain ⟨hL0, hm0, hI0⟩ := hA0
  obtain ⟨hL1, hm1, hI1⟩ := hA1
  by_cases hn0 : (1048576 : Int) < n0
  · have hz0 := szI_no' hn0
    obtain ⟨hbX, hbY, hb0⟩ := boxes2 w p0 p1 A0 A1 n0 c0 n1 c1 24
    have X0 := Lib.hid hbX
    have Y0 := Lib.hid hbY
    have HB0 := Lib.hid hb0
    clear hbX hbY hb0
    go_enter Try.func5, Try.ntmps5
    go_wp2_with fail
    refine (szState_calls A0 n0 c0 p0 1048576 _ hm0 (by omega) (by omega)).mono ?_
    rintro e w1 ⟨rfl, hb⟩
    rw [hz0]
    have HB1 := Lib.hid (HB0.out.trans (hb.mono HB0.out.size))
    clear hb
    go_wp2
    go_ret
    exact ⟨rfl, HB1.out⟩
  · by_cases hn1 : (1048576 - n0 : Int) < n1
    · have hz0 : szI n0 1048576 = 1048576 - n0 := szI_yes' (by omega)
      have hz1 := szI_no' hn1
      obtain ⟨hbX, hbY, hb0⟩ := boxes2 w p0 p1 A0 A1 n0 c0 n1 c1 24
      have X0 := Lib.hid hbX
      have Y0 := Lib.hid hbY
      have HB0 := Lib.hid hb0
      clear hbX hbY hb0
      go_enter Try.func5, Try.ntmps5
      go_wp2_with fail
      refine (szState_calls A0 n0 c0 p0 1048576 _ hm0 (by omega) (by omega)).mono ?_
      rintro e w1 ⟨rfl, hb⟩
      rw [hz0]
      have HB1 := Lib.hid (HB0.out.trans (hb.mono HB0.out.size))
      have Y1 := Lib.hid (Y0.out.below hb Y0.out.lt)
      clear hb
      obtain ⟨y0, y1, _, _⟩ := Y1.out.two
      go_wp2_with fail
      refine (szState_calls A1 n1 c1 p1 (1048576 - n0) _ hm1 (by omega) (by omega)).mono ?_
      rintro e w2 ⟨rfl, hb⟩
      rw [hz1]
      have HB2 := Lib.hid (HB1.out.trans (hb.mono HB1.out.size))
      clear hb y0 y1
      go_wp2
      go_ret
      exact ⟨rfl, HB2.out⟩
    · exact core p0 A0 n0 c0 L0 b p1 A1 n1 c1 L1 (owV p0 L0 b p1 L1) (owE p0 L0 b p1 L1) w hL0 (by omega) hI0 hL1 (by omega) (by omega) hI1
        (fun g0 g1 W hW0 hW1 => specIsOnWay_ret ⟨g0, 0, none⟩ n0 n0 p0 L0 b ⟨g1, 0, none⟩ n1 n1 p1 L1 W hL0 (by omega) hW0 hL1 (by omega) hW1)
        (fun g0 g1 W hW0 hW1 => implIsOnWay_ret ⟨g0, 0, none⟩ n0 n0 p0 L0 b ⟨g1, 0, none⟩ n1 n1 p1 L1 W hL0 (by omega) hW0 hL1 (by omega) hW1)

set_option maxRecDepth 100000 in
theorem lifted (os : Os) (started : os.Started) (H : Type) (enc : TypeId × Value → H) :
    ReturnsInHanded {} Try.checked os 5 .any (Rows.fnExactIsOnWaySpec.pre6 enc Try.prog Try.f5 Rows.fnExactIsOnWayRow.domain false) (Rows.fnExactIsOnWaySpec.post enc Try.prog Try.f5 false true false false) := by
  refine returnsInHanded_of_change (C := Try.checked) own started (by kernel_rfl) Try.func5
    (ChangeSpec.witness6 (enc := enc) (C := Try.checked) false ⟨#[], #[.agg #[.int .i64 0, .slice none 0 0], .int .i64 0, .agg #[.int .i64 0, .slice none 0 0]], []⟩ 8 (by kernel_rfl) (by kernel_rfl) (by kernel_rfl) (by kernel_rfl)) ?_
  intro W base args ds gs before hval0 hW hcnd _
  have hval : ∀ (j : Nat) t v, Try.f5.params[j]? = some t → args[j]? = some v → Value.okWide Try.prog W .any base t v := hval0
  have hW' := hW
  obtain ⟨p, q, hA0, hV, rfl, hfz, hnd⟩ := hW
  have hA : DataW.TrodAll enc Try.prog W 0 (fun _ => true) true Try.f5.params.toList args.toList ds p := hA0
  rw [Try.params5] at hA hval
  obtain ⟨v0, vs0, d0, ds0, p0, q0, hargs, rfl, rfl, h0, r0⟩ := trodAll_cons hA
  obtain ⟨v1, vs1, d1, ds1, p1, q1, rfl, rfl, rfl, h1, r1⟩ := trodAll_cons r0
  obtain ⟨v2, vs2, d2, ds2, p2, q2, rfl, rfl, rfl, h2, r2⟩ := trodAll_cons r1
  obtain ⟨rfl, rfl, rfl⟩ := trodAll_nil r2
  obtain rfl : args = #[v0, v1, v2] := by cases args; simp_all
  obtain ⟨rfl, rfl⟩ := trodVars_none hV
  have lt0 : ∀ x ∈ p0, x.block < W.heap.size := by obtain ⟨m, hm⟩ := h0; exact DataW.trod_lt m _ _ _ hm
  have k0 := h0
  obtain ⟨a0, A0, n0, c0, L0, rfl, w0, hAI0⟩ := open_state (hval 0 24 v0 rfl rfl) h0
  have lt1 : ∀ x ∈ p1, x.block < W.heap.size := by obtain ⟨m, hm⟩ := h1; exact DataW.trod_lt m _ _ _ hm
  have k1 := h1
  obtain ⟨a1, rfl, rfl, rfl, w1⟩ := open_int Try.underlying2 (hval 1 2 v1 rfl rfl) h1
  have lt2 : ∀ x ∈ p2, x.block < W.heap.size := by obtain ⟨m, hm⟩ := h2; exact DataW.trod_lt m _ _ _ hm
  have k2 := h2
  obtain ⟨a2, A2, n2, c2, L2, rfl, w2, hAI2⟩ := open_state (hval 2 24 v2 rfl rfl) h2
  clear hA0 hval0
  refine (walk a0 A0 n0 c0 L0 a1 a2 A2 n2 c2 L2 W w0 hAI0 w1 w2 hAI2).mono fun e W' ⟨he, bel⟩ => ?_
  subst he
  exact ⟨_, rfl, _, _, _, [], _, [], hW', trodAll_mk1 (shut_bool Try.underlying4 _), (trodAll_cons_mk (Below.trod laidOut (by kernel_rfl) (of_decide_eq_true (by kernel_rfl)) k0 bel lt0) (trodAll_cons_mk (Below.trod laidOut (by kernel_rfl) (of_decide_eq_true (by kernel_rfl)) k1 bel lt1) (trodAll_cons_mk (Below.trod laidOut (by kernel_rfl) (of_decide_eq_true (by kernel_rfl)) k2 bel lt2) trodAll_mk0))), rfl, bel.frame _, fun h => by cases h⟩

theorem over : Rows.fnExactIsOnWayRow.holds Try.pinned (OpenSpec.ofChange Rows.fnExactIsOnWaySpec) :=
  OpenClaim.holds_of_wide 5 Try.f5 rfl rfl rfl rfl rfl rfl rfl ⟨rfl, rfl, rfl, rfl, rfl⟩ rfl rfl rfl rfl rfl (by kernel_rfl) Try.func5 (by kernel_rfl)
    (of_decide_eq_true (by kernel_rfl)) (by unfold Func.isWrapper; first | (rw [if_pos (by decide +kernel)]; kernel_rfl) | (rw [if_neg (by decide +kernel)]; exact ⟨rfl, rfl⟩))
    (fun os started H enc _ => lifted os started H enc)

theorem proved : Rows.FnExactIsOnWaySaid := over
#print axioms proved
end Go.Proofs.Ytmpmkhfbfaicpaa.fnExactIsOnWay
