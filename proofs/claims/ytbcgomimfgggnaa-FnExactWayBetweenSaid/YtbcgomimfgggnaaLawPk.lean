/- 'WayBetween' of the program answers at every argument as the specification's model, leaves its arguments as they were, and its answer is its own memory. Conditions: none. -/
import Derived.Test.YtbcgomimfgggnaaPk1
import Derived.Test.YtbcgomimfgggnaaPk4
import Derived.Test.YtbcgomimfgggnaaPk6
import Derived.Deep.RegionHeld3
namespace Go.Proofs.Ytbcgomimfgggnaa.fnExactWayBetween
open Go.ChangeShapes Go.WideShapes Go.ChangeAt Go.RowKit Go.Joins
open Go.ChangeMaps (open_string)
set_option linter.unusedVariables false

theorem szI_no' {n : Nat} {l : Int} (h : l < n) : szI n l = -1 := by unfold szI; omega
theorem szI_yes' {n : Nat} {l : Int} (h : ¬ l < n) : szI n l = l - n := by unfold szI; omega
theorem boxes2 (w : World) (p0 p1 : Int) (A0 A1 : Option Addr) (n0 c0 n1 c1 t : Nat) :
    Box ((w.alloc (.cells #[.int .i64 p0, .slice A0 n0 c0] t)).alloc (.cells #[.int .i64 p1, .slice A1 n1 c1] t)) w.heap.size t #[.int .i64 p0, .slice A0 n0 c0] ∧ Box ((w.alloc (.cells #[.int .i64 p0, .slice A0 n0 c0] t)).alloc (.cells #[.int .i64 p1, .slice A1 n1 c1] t)) (w.heap.size + 1) t #[.int .i64 p1, .slice A1 n1 c1] ∧ Below w.heap.size w ((w.alloc (.cells #[.int .i64 p0, .slice A0 n0 c0] t)).alloc (.cells #[.int .i64 p1, .slice A1 n1 c1] t)) := by
  refine ⟨(Box.new _ _ _).alloc _, ?_, ((Below.refl _ _).alloc (Nat.le_refl _) _).alloc (by simp) _⟩
  have := Box.new (w.alloc (.cells #[.int .i64 p0, .slice A0 n0 c0] t)) t #[.int .i64 p1, .slice A1 n1 c1]
  rwa [World.size_alloc] at this

theorem wbL_len (p : Int) (L : List Int) (q : Int) (M : List Int) : (wbL p L q M).length ≤ 1048576 := by
  unfold wbL wbT
  split
  · next h =>
    split
    · simp
    · next hg =>
      have h8 := (state_facts (code2_zero h).1 rfl).2.2.1
      have hb := (grt_bd L M L.length).2
      have hD : (grt L M L.length).toNat ≤ 7 := by omega
      unfold wbD
      split
      · exact Nat.le_trans (w1L_len _ _ _ _ _ hD) (by decide)
      · exact Nat.le_trans (w2L_len _ _ _ _ _ hD) (by decide)
  · simp

set_option maxRecDepth 100000 in
set_option maxHeartbeats 4000000 in
theorem core (p0 : Int) (A0 : Option Addr) (n0 c0 : Nat) (L0 : List Int) (p1 : Int) (A1 : Option Addr) (n1 c1 : Nat) (L1 : List Int) (E : Int) (LL : List Mv) (nn : Nat) (hnn : nn ≤ 1048576) (hLL : LL.length = nn) (w : World) (hL0 : L0.length = n0) (hn0 : n0 ≤ 1048576) (hI0 : Ints w A0 L0) (hL1 : L1.length = n1) (hn1 : n1 ≤ 1048576) (hsum : n0 + n1 ≤ 1048576) (hI1 : Ints w A1 L1)
    (hspec : ∀ g0 g1 W, Ints W (some ⟨g0, 0, none⟩) L0 → Ints W (some ⟨g1, 0, none⟩) L1 → Calls Try.prog 18 #[.agg #[.int .i64 p0, .slice (some ⟨g0, 0, none⟩) n0 n0], .agg #[.int .i64 p1, .slice (some ⟨g1, 0, none⟩) n1 n1]] W (RetMvs W nn LL E))
    (himpl : ∀ g0 g1 W, Ints W (some ⟨g0, 0, none⟩) L0 → Ints W (some ⟨g1, 0, none⟩) L1 → Calls Try.prog 13 #[.agg #[.int .i64 p0, .slice (some ⟨g0, 0, none⟩) n0 n0], .agg #[.int .i64 p1, .slice (some ⟨g1, 0, none⟩) n1 n1]] W (RetMvs W nn LL E)) :
    Calls Try.prog 5 #[.agg #[.int .i64 p0, .slice A0 n0 c0], .agg #[.int .i64 p1, .slice A1 n1 c1]] w fun e w' => e = .returned (.bool true) ∧ Below w.heap.size w w' := by
  have HS := Lib.hid hspec
  have HP := Lib.hid himpl
  have HL0 := Lib.hid hL0
  have HL1 := Lib.hid hL1
  have HLL := Lib.hid hLL
  have hz0 : szI n0 1048576 = 1048576 - n0 := szI_yes' (by omega)
  have hz1 : szI n1 (1048576 - n0) = 1048576 - n0 - n1 := szI_yes' (by omega)
  obtain ⟨hbX, hbY, hb0⟩ := boxes2 w p0 p1 A0 A1 n0 c0 n1 c1 46
  have X0 := Lib.hid hbX
  have Y0 := Lib.hid hbY
  have HB0 := Lib.hid hb0
  clear hbX hbY hb0
  clear hspec himpl hL0 hL1 hLL
  go_enter Try.func5, Try.ntmps5
  go_wp2_with fail
  refine (szState_calls A0 n0 c0 p0 1048576 _ (by omega) (by omega) (by omega)).mono ?_
  rintro e w1 ⟨rfl, hb⟩
  rw [hz0]
  have X1 := Lib.hid (X0.out.below hb X0.out.lt)
  have Y1 := Lib.hid (Y0.out.below hb Y0.out.lt)
  have HB1 := Lib.hid (HB0.out.trans ((hb).mono HB0.out.size))
  clear X0 Y0 HB0
  clear hb
  obtain ⟨y0, y1, _, _⟩ := Y1.out.two
  go_wp2_with fail
  refine (szState_calls A1 n1 c1 p1 (1048576 - n0) _ (by omega) (by omega) (by omega)).mono ?_
  rintro e w2 ⟨rfl, hb⟩
  rw [hz1]
  have X2 := Lib.hid (X1.out.below hb X1.out.lt)
  have Y2 := Lib.hid (Y1.out.below hb Y1.out.lt)
  have HB2 := Lib.hid (HB1.out.trans ((hb).mono HB1.out.size))
  clear X1 Y1 HB1
  clear hb y0 y1
  have hI2 := Lib.hid (hI0.below HB2.out)
  have hJ2 := Lib.hid (hI1.below HB2.out)
  have X2 := X2
  have Y2 := Y2
  obtain ⟨x0, x1, y0, y1⟩ := cells22 X2.out Y2.out
  have zx := X2.out.lt
  have zy := Y2.out.lt
  go_wp2_with fail
  go_region_held3 (fun w' => w'.cell? ⟨w.heap.size, 0, none⟩ = some (.int .i64 p0) ∧ w'.cell? ⟨w.heap.size, 1, none⟩ = some (.slice A0 n0 c0) ∧ w'.cell? ⟨w.heap.size + 1, 0, none⟩ = some (.int .i64 p1) ∧ w'.cell? ⟨w.heap.size + 1, 1, none⟩ = some (.slice A1 n1 c1))
    (first | exact cells22 X2.out Y2.out | exact cells22 X3.out Y3.out | exact cells22 X4.out Y4.out | exact cells22 X5.out Y5.out | go_keep)
    (first
    | (go_at_call 28; (with_reducible refine (toState_calls A0 n0 c0 p0 L0 _ HL0.out hn0 ?_).mono ?_); (exact hI2.out); rintro e w3 ⟨g0, rfl, hg0, hr0, hb3⟩; have X3 := Lib.hid (Box.below X2.out (undrew hb3) zx); have Y3 := Lib.hid (Box.below Y2.out (undrew hb3) zy))
    | (go_at_call 28; (with_reducible refine (toState_calls A1 n1 c1 p1 L1 _ HL1.out hn1 ?_).mono ?_); (exact hJ2.out.below (undrew hb3)); rintro e w4 ⟨g1, rfl, hg1, hr1, hb4⟩; have X4 := Lib.hid (Box.below X3.out hb4 (Box.lt X3.out)); have Y4 := Lib.hid (Box.below Y3.out hb4 (Box.lt Y3.out)))
    | (go_at_call 18; refine (HS.out g0 g1 _ ?_ ?_).mono ?_; (exact hr0.ints.below hb4); (exact hr1.ints); rintro e w5 ⟨AO, cO, rfl, hO, hb5⟩; have X5 := Lib.hid (Box.below X4.out hb5 (Box.lt X4.out)); have Y5 := Lib.hid (Box.below Y4.out hb5 (Box.lt Y4.out))))
  clear X3 Y3 X4 Y4 X5 Y5 x0 x1 y0 y1 zx zy hr0 hr1 hg0 hg1 X2 Y2
  have X3 := Lib.hid (X2.out.below (undrew hb3) X2.out.lt)
  have Y3 := Lib.hid (Y2.out.below (undrew hb3) Y2.out.lt)
  have HB3 := Lib.hid (HB2.out.trans (((undrew hb3)).mono HB2.out.size))
  clear X2 Y2 HB2
  have X4 := Lib.hid (X3.out.below hb4 X3.out.lt)
  have Y4 := Lib.hid (Y3.out.below hb4 Y3.out.lt)
  have HB4 := Lib.hid (HB3.out.trans ((hb4).mono HB3.out.size))
  clear X3 Y3 HB3
  have X5 := Lib.hid (X4.out.below hb5 X4.out.lt)
  have Y5 := Lib.hid (Y4.out.below hb5 Y4.out.lt)
  have HB5 := Lib.hid (HB4.out.trans ((hb5).mono HB4.out.size))
  clear X4 Y4 HB4
  have O0 := Lib.hid hO
  clear hb3 hb4 hb5 hI2 hJ2 hO
  have hK := Lib.hid (hI0.below HB5.out)
  obtain ⟨x0, x1, _, _⟩ := X5.out.two
  go_wp2_with fail
  refine (toState_calls A0 n0 c0 p0 L0 _ HL0.out hn0 hK.out).mono ?_
  rintro e w6 ⟨g0, rfl, hg0, hr0, hb⟩
  have hrow := hr0.own (B := w5.heap.size) hg0 (by rw [HL0.out]; exact hn0)
  rw [HL0.out] at hrow
  have AP0 := Lib.hid (ows_apart O0.out hrow (Nat.le_refl _))
  have BL0 := HB5.out.size
  have X6 := Lib.hid (X5.out.below hb X5.out.lt)
  have Y6 := Lib.hid (Y5.out.below hb Y5.out.lt)
  have O1 := Lib.hid (O0.out.below hb)
  have HB6 := Lib.hid (HB5.out.trans ((hb).mono HB5.out.size))
  clear X5 Y5 O0 HB5
  have V0 := Lib.hid hrow
  clear hb hg0 hr0 x0 x1 hK hrow
  have hba : Below w6.heap.size w6 (w6.alloc (.cells #[.int .i64 p0, .slice (some ⟨g0, 0, none⟩) n0 n0] 30)) := (Below.refl _ w6).alloc (Nat.le_refl _) (.cells #[.int .i64 p0, .slice (some ⟨g0, 0, none⟩) n0 n0] 30)
  have hnew := Box.new w6 30 #[.int .i64 p0, .slice (some ⟨g0, 0, none⟩) n0 n0]
  have X7 := Lib.hid (X6.out.below hba X6.out.lt)
  have Y7 := Lib.hid (Y6.out.below hba Y6.out.lt)
  have O2 := Lib.hid (O1.out.below hba)
  have V1 := Lib.hid (V0.out.below hba)
  have HB7 := Lib.hid (HB6.out.trans ((hba).mono HB6.out.size))
  clear X6 Y6 O1 V0 HB6
  have U0 := Lib.hid (hnew)
  clear hba hnew
  have hK := Lib.hid (hI1.below HB7.out)
  obtain ⟨x0, x1, _, _⟩ := Y7.out.two
  go_wp2_with fail
  generalize hW0 : w6.alloc (.cells #[.int .i64 p0, .slice (some ⟨g0, 0, none⟩) n0 n0] 30) = W0 at *
  clear hW0
  generalize w6.heap.size = b0 at *
  refine (toState_calls A1 n1 c1 p1 L1 _ HL1.out hn1 hK.out).mono ?_
  rintro e w7 ⟨g1, rfl, hg1, hr1, hb⟩
  have hrow := hr1.own (B := W0.heap.size) hg1 (by rw [HL1.out]; exact hn1)
  rw [HL1.out] at hrow
  have AP1 := Lib.hid (ows_apart O2.out hrow (Nat.le_refl _))
  have AVR := Lib.hid (ows_apart_back V1.out hrow (Nat.le_refl _))
  have BL1 := HB7.out.size
  have X8 := Lib.hid (X7.out.below hb X7.out.lt)
  have Y8 := Lib.hid (Y7.out.below hb Y7.out.lt)
  have O3 := Lib.hid (O2.out.below hb)
  have V2 := Lib.hid (V1.out.below hb)
  have U1 := Lib.hid (U0.out.below hb U0.out.lt)
  have HB8 := Lib.hid (HB7.out.trans ((hb).mono HB7.out.size))
  clear X7 Y7 O2 V1 U0 HB7
  have R0 := Lib.hid hrow
  clear hb hg1 hr1 x0 x1 hK hrow
  have hba : Below w7.heap.size w7 (w7.alloc (.cells #[.int .i64 p1, .slice (some ⟨g1, 0, none⟩) n1 n1] 30)) := (Below.refl _ w7).alloc (Nat.le_refl _) (.cells #[.int .i64 p1, .slice (some ⟨g1, 0, none⟩) n1 n1] 30)
  have hnew := Box.new w7 30 #[.int .i64 p1, .slice (some ⟨g1, 0, none⟩) n1 n1]
  have X9 := Lib.hid (X8.out.below hba X8.out.lt)
  have Y9 := Lib.hid (Y8.out.below hba Y8.out.lt)
  have O4 := Lib.hid (O3.out.below hba)
  have V3 := Lib.hid (V2.out.below hba)
  have U2 := Lib.hid (U1.out.below hba U1.out.lt)
  have R1 := Lib.hid (R0.out.below hba)
  have HB9 := Lib.hid (HB8.out.trans ((hba).mono HB8.out.size))
  clear X8 Y8 O3 V2 U1 R0 HB8
  have T0 := Lib.hid (hnew)
  clear hba hnew
  obtain ⟨x0, x1, y0, y1⟩ := cells22 U2.out T0.out
  have BQ := HB9.out.size
  go_wp2_with fail
  generalize hW1 : w7.alloc (.cells #[.int .i64 p1, .slice (some ⟨g1, 0, none⟩) n1 n1] 30) = W1 at *
  clear hW1
  generalize w7.heap.size = b1 at *
  refine (HP.out g0 g1 _ V3.out.ints R1.out.ints).mono ?_
  rintro e w8 ⟨A9, c9, rfl, hQ, hb⟩
  have AYV := Lib.hid (ows_apart_back V3.out hQ (Nat.le_refl _))
  have AYR := Lib.hid (ows_apart_back R1.out hQ (Nat.le_refl _))
  have AZ := Lib.hid (ows_apart O4.out hQ (Nat.le_refl _))
  have X10 := Lib.hid (X9.out.below hb X9.out.lt)
  have Y10 := Lib.hid (Y9.out.below hb Y9.out.lt)
  have O5 := Lib.hid (O4.out.below hb)
  have V4 := Lib.hid (V3.out.below hb)
  have U3 := Lib.hid (U2.out.below hb U2.out.lt)
  have R2 := Lib.hid (R1.out.below hb)
  have T1 := Lib.hid (T0.out.below hb T0.out.lt)
  have HB10 := Lib.hid (HB9.out.trans ((hb).mono HB9.out.size))
  clear X9 Y9 O4 V3 U2 R1 T0 HB9
  have Q0 := Lib.hid hQ
  clear hb hQ x0 x1 y0 y1
  go_wp2_with fail
  refine (eqMoveS_calls A9 AO nn c9 nn cO LL LL _ HLL.out HLL.out hnn hnn (OwnM.mvs Q0.out) (OwnM.mvs O5.out)).mono ?_
  rintro e w9 ⟨rfl, hbq⟩
  have X11 := Lib.hid (X10.out.below hbq X10.out.lt)
  have Y11 := Lib.hid (Y10.out.below hbq Y10.out.lt)
  have O6 := Lib.hid (O5.out.below hbq)
  have V5 := Lib.hid (V4.out.below hbq)
  have U4 := Lib.hid (U3.out.below hbq U3.out.lt)
  have R3 := Lib.hid (R2.out.below hbq)
  have T2 := Lib.hid (T1.out.below hbq T1.out.lt)
  have Q1 := Lib.hid (Q0.out.below hbq)
  have HB11 := Lib.hid (HB10.out.trans ((hbq).mono HB10.out.size))
  clear X10 Y10 O5 V4 U3 R2 T1 Q0 HB10
  have hK := Lib.hid (hI0.below HB11.out)
  have U7 := U4
  have X7 := X11
  have R7 := V5
  obtain ⟨u0, u1, s0, s1⟩ := cells22 U7.out X7.out
  have zu := U7.out.lt
  have zx := X7.out.lt
  go_wp2_with fail
  go_region_held3 (fun w' => w'.cell? ⟨b0, 0, none⟩ = some (.int .i64 p0) ∧ w'.cell? ⟨b0, 1, none⟩ = some (.slice (some ⟨g0, 0, none⟩) n0 n0) ∧ w'.cell? ⟨w.heap.size, 0, none⟩ = some (.int .i64 p0) ∧ w'.cell? ⟨w.heap.size, 1, none⟩ = some (.slice A0 n0 c0))
    (first | exact cells22 U7.out X7.out | exact cells22 U8.out X8.out | exact cells22 U9.out X9.out | go_keep)
    (first
    | (go_at_call 28; refine (toState_calls A0 n0 c0 p0 L0 _ HL0.out hn0 ?_).mono ?_; (exact hK.out); rintro e w10 ⟨gr, rfl, hgr, hr8, hb8⟩; have U8 := Lib.hid (Box.below U7.out (undrew hb8) zu); have X8 := Lib.hid (Box.below X7.out (undrew hb8) zx))
    | (go_at_call 30; refine (eqState_calls (some ⟨g0, 0, none⟩) (some ⟨gr, 0, none⟩) n0 n0 n0 n0 p0 p0 L0 L0 _ HL0.out HL0.out hn0 hn0 ?_ ?_).mono ?_; (exact R7.out.ints.below (undrew hb8)); (exact hr8.ints); rintro e w11 ⟨rfl, hb9⟩; have U9 := Lib.hid (Box.below U8.out hb9 (Box.lt U8.out)); have X9 := Lib.hid (Box.below X8.out hb9 (Box.lt X8.out))))
  clear U8 X8 U9 X9 u0 u1 s0 s1 zu zx hr8 hgr U7 X7 R7
  have X12 := Lib.hid (X11.out.below (undrew hb8) X11.out.lt)
  have Y12 := Lib.hid (Y11.out.below (undrew hb8) Y11.out.lt)
  have O7 := Lib.hid (O6.out.below (undrew hb8))
  have V6 := Lib.hid (V5.out.below (undrew hb8))
  have U5 := Lib.hid (U4.out.below (undrew hb8) U4.out.lt)
  have R4 := Lib.hid (R3.out.below (undrew hb8))
  have T3 := Lib.hid (T2.out.below (undrew hb8) T2.out.lt)
  have Q2 := Lib.hid (Q1.out.below (undrew hb8))
  have HB12 := Lib.hid (HB11.out.trans (((undrew hb8)).mono HB11.out.size))
  clear X11 Y11 O6 V5 U4 R3 T2 Q1 HB11
  have X13 := Lib.hid (X12.out.below hb9 X12.out.lt)
  have Y13 := Lib.hid (Y12.out.below hb9 Y12.out.lt)
  have O8 := Lib.hid (O7.out.below hb9)
  have V7 := Lib.hid (V6.out.below hb9)
  have U6 := Lib.hid (U5.out.below hb9 U5.out.lt)
  have R5 := Lib.hid (R4.out.below hb9)
  have T4 := Lib.hid (T3.out.below hb9 T3.out.lt)
  have Q3 := Lib.hid (Q2.out.below hb9)
  have HB13 := Lib.hid (HB12.out.trans ((hb9).mono HB12.out.size))
  clear X12 Y12 O7 V6 U5 R4 T3 Q2 HB12
  clear hb8 hb9 hK
  have hK := Lib.hid (hI1.below HB13.out)
  have U7 := T4
  have X7 := Y13
  have R7 := R5
  obtain ⟨u0, u1, s0, s1⟩ := cells22 U7.out X7.out
  have zu := U7.out.lt
  have zx := X7.out.lt
  go_wp2_with fail
  go_region_held3 (fun w' => w'.cell? ⟨b1, 0, none⟩ = some (.int .i64 p1) ∧ w'.cell? ⟨b1, 1, none⟩ = some (.slice (some ⟨g1, 0, none⟩) n1 n1) ∧ w'.cell? ⟨w.heap.size + 1, 0, none⟩ = some (.int .i64 p1) ∧ w'.cell? ⟨w.heap.size + 1, 1, none⟩ = some (.slice A1 n1 c1))
    (first | exact cells22 U7.out X7.out | exact cells22 U8.out X8.out | exact cells22 U9.out X9.out | go_keep)
    (first
    | (go_at_call 28; refine (toState_calls A1 n1 c1 p1 L1 _ HL1.out hn1 ?_).mono ?_; (exact hK.out); rintro e w10 ⟨gr, rfl, hgr, hr8, hb8⟩; have U8 := Lib.hid (Box.below U7.out (undrew hb8) zu); have X8 := Lib.hid (Box.below X7.out (undrew hb8) zx))
    | (go_at_call 30; refine (eqState_calls (some ⟨g1, 0, none⟩) (some ⟨gr, 0, none⟩) n1 n1 n1 n1 p1 p1 L1 L1 _ HL1.out HL1.out hn1 hn1 ?_ ?_).mono ?_; (exact R7.out.ints.below (undrew hb8)); (exact hr8.ints); rintro e w11 ⟨rfl, hb9⟩; have U9 := Lib.hid (Box.below U8.out hb9 (Box.lt U8.out)); have X9 := Lib.hid (Box.below X8.out hb9 (Box.lt X8.out))))
  clear U8 X8 U9 X9 u0 u1 s0 s1 zu zx hr8 hgr U7 X7 R7
  have X14 := Lib.hid (X13.out.below (undrew hb8) X13.out.lt)
  have Y14 := Lib.hid (Y13.out.below (undrew hb8) Y13.out.lt)
  have O9 := Lib.hid (O8.out.below (undrew hb8))
  have V8 := Lib.hid (V7.out.below (undrew hb8))
  have U7 := Lib.hid (U6.out.below (undrew hb8) U6.out.lt)
  have R6 := Lib.hid (R5.out.below (undrew hb8))
  have T5 := Lib.hid (T4.out.below (undrew hb8) T4.out.lt)
  have Q4 := Lib.hid (Q3.out.below (undrew hb8))
  have HB14 := Lib.hid (HB13.out.trans (((undrew hb8)).mono HB13.out.size))
  clear X13 Y13 O8 V7 U6 R5 T4 Q3 HB13
  have X15 := Lib.hid (X14.out.below hb9 X14.out.lt)
  have Y15 := Lib.hid (Y14.out.below hb9 Y14.out.lt)
  have O10 := Lib.hid (O9.out.below hb9)
  have V9 := Lib.hid (V8.out.below hb9)
  have U8 := Lib.hid (U7.out.below hb9 U7.out.lt)
  have R7 := Lib.hid (R6.out.below hb9)
  have T6 := Lib.hid (T5.out.below hb9 T5.out.lt)
  have Q5 := Lib.hid (Q4.out.below hb9)
  have HB15 := Lib.hid (HB14.out.trans ((hb9).mono HB14.out.size))
  clear X14 Y14 O9 V8 U7 R6 T5 Q4 HB14
  clear hb8 hb9 hK
  obtain ⟨u0, u1, _, _⟩ := U8.out.two
  go_wp2_with fail
  refine (markState_calls _ (some ⟨g0, 0, none⟩) n0 n0 p0 L0 1 _ V9.out hn0 (by omega) (by omega)).mono ?_
  rintro e w12 ⟨rfl, hO, hg⟩
  have X16 := Lib.hid (X15.out.grown hg (V9.out.box_ne X15.out (by decide)))
  have Y16 := Lib.hid (Y15.out.grown hg (V9.out.box_ne Y15.out (by decide)))
  have O11 := Lib.hid (O10.out.kept hg AP0.out)
  have U9 := Lib.hid (U8.out.grown hg (V9.out.box_ne U8.out (by decide)))
  have R8 := Lib.hid (R7.out.kept hg AVR.out)
  have T7 := Lib.hid (T6.out.grown hg (V9.out.box_ne T6.out (by decide)))
  have Q6 := Lib.hid (Q5.out.kept hg AYV.out)
  have V10 := Lib.hid hO
  have HB16 := Lib.hid (HB15.out.grown hg HB15.out.size (fun k hk => by have h1 := ows_bk V9.out k hk; omega))
  clear X15 Y15 O10 V9 U8 R7 T6 Q5 HB15 hO hg
  clear u0 u1
  clear U9 V10
  obtain ⟨u0, u1, _, _⟩ := T7.out.two
  go_wp2_with fail
  refine (markState_calls _ (some ⟨g1, 0, none⟩) n1 n1 p1 L1 (1 + n0) _ R8.out hn1 (by omega) (by omega)).mono ?_
  rintro e w13 ⟨rfl, hO, hg⟩
  have X17 := Lib.hid (X16.out.grown hg (R8.out.box_ne X16.out (by decide)))
  have Y17 := Lib.hid (Y16.out.grown hg (R8.out.box_ne Y16.out (by decide)))
  have O12 := Lib.hid (O11.out.kept hg AP1.out)
  have T8 := Lib.hid (T7.out.grown hg (R8.out.box_ne T7.out (by decide)))
  have Q7 := Lib.hid (Q6.out.kept hg AYR.out)
  have R9 := Lib.hid hO
  have HB17 := Lib.hid (HB16.out.grown hg HB16.out.size (fun k hk => by have h1 := ows_bk R8.out k hk; omega))
  clear X16 Y16 O11 R8 T7 Q6 HB16 hO hg
  clear u0 u1
  clear T8 R9
  have hkk : ¬ (1 + (n0 : Int) + (n1 : Int)) < 0 := by omega
  have hkd : decide ((1 + (n0 : Int) + (n1 : Int)) < 0) = false := by simp; omega
  go_wp2_with fail
  refine (eqMoveS_calls A9 AO nn c9 nn cO LL LL _ HLL.out HLL.out hnn hnn (OwnM.mvs Q7.out) (OwnM.mvs O12.out)).mono ?_
  rintro e w9 ⟨rfl, hbq⟩
  have X18 := Lib.hid (X17.out.below hbq X17.out.lt)
  have Y18 := Lib.hid (Y17.out.below hbq Y17.out.lt)
  have O13 := Lib.hid (O12.out.below hbq)
  have Q8 := Lib.hid (Q7.out.below hbq)
  have HB18 := Lib.hid (HB17.out.trans ((hbq).mono HB17.out.size))
  clear X17 Y17 O12 Q7 HB17
  clear hkk hkd
  go_wp2_with fail
  refine (markMoveS_calls _ A9 nn c9 (mvF LL) 1 _ Q8.out hnn (by omega) (by omega)).mono ?_
  rintro e w14 ⟨rfl, hO, hg⟩
  have X19 := Lib.hid (X18.out.grown hg (Q8.out.box_ne X18.out (by decide)))
  have Y19 := Lib.hid (Y18.out.grown hg (Q8.out.box_ne Y18.out (by decide)))
  have O14 := Lib.hid (O13.out.kept hg AZ.out)
  have Q9 := Lib.hid hO
  have HB19 := Lib.hid (HB18.out.grown hg HB18.out.size (fun k hk => by have h1 := ows_bk Q8.out k hk; omega))
  clear X18 Y18 O13 Q8 HB18 hO hg
  go_wp2_with fail
  refine (heldMoveS_calls _ A9 nn c9 1 _ Q9.out hnn (by omega) (by omega)).mono ?_
  rintro e w15 ⟨rfl, hbq⟩
  have X20 := Lib.hid (X19.out.below hbq X19.out.lt)
  have Y20 := Lib.hid (Y19.out.below hbq Y19.out.lt)
  have O15 := Lib.hid (O14.out.below hbq)
  have Q10 := Lib.hid (Q9.out.below hbq)
  have HB20 := Lib.hid (HB19.out.trans ((hbq).mono HB19.out.size))
  clear X19 Y19 O14 Q9 HB19
  have hI2 := Lib.hid (hI0.below HB20.out)
  have hJ2 := Lib.hid (hI1.below HB20.out)
  have X2 := X20
  have Y2 := Y20
  obtain ⟨x0, x1, y0, y1⟩ := cells22 X2.out Y2.out
  have zx := X2.out.lt
  have zy := Y2.out.lt
  go_wp2_with fail
  go_region_held3 (fun w' => w'.cell? ⟨w.heap.size, 0, none⟩ = some (.int .i64 p0) ∧ w'.cell? ⟨w.heap.size, 1, none⟩ = some (.slice A0 n0 c0) ∧ w'.cell? ⟨w.heap.size + 1, 0, none⟩ = some (.int .i64 p1) ∧ w'.cell? ⟨w.heap.size + 1, 1, none⟩ = some (.slice A1 n1 c1))
    (first | exact cells22 X2.out Y2.out | exact cells22 X3.out Y3.out | exact cells22 X4.out Y4.out | exact cells22 X5.out Y5.out | go_keep)
    (first
    | (go_at_call 28; (with_reducible refine (toState_calls A0 n0 c0 p0 L0 _ HL0.out hn0 ?_).mono ?_); (exact hI2.out); rintro e w3 ⟨g0, rfl, hg0, hr0, hb3⟩; have X3 := Lib.hid (Box.below X2.out (undrew hb3) zx); have Y3 := Lib.hid (Box.below Y2.out (undrew hb3) zy))
    | (go_at_call 28; (with_reducible refine (toState_calls A1 n1 c1 p1 L1 _ HL1.out hn1 ?_).mono ?_); (exact hJ2.out.below (undrew hb3)); rintro e w4 ⟨g1, rfl, hg1, hr1, hb4⟩; have X4 := Lib.hid (Box.below X3.out hb4 (Box.lt X3.out)); have Y4 := Lib.hid (Box.below Y3.out hb4 (Box.lt Y3.out)))
    | (go_at_call 13; refine (HP.out g0 g1 _ ?_ ?_).mono ?_; (exact hr0.ints.below hb4); (exact hr1.ints); rintro e w5 ⟨AK, cK, rfl, hK5, hb5⟩; have X5 := Lib.hid (Box.below X4.out hb5 (Box.lt X4.out)); have Y5 := Lib.hid (Box.below Y4.out hb5 (Box.lt Y4.out))))
  clear X3 Y3 X4 Y4 X5 Y5 x0 x1 y0 y1 zx zy hr0 hr1 hg0 hg1 X2 Y2
  have O16 := Lib.hid (O15.out.below (undrew hb3))
  have Q11 := Lib.hid (Q10.out.below (undrew hb3))
  have HB21 := Lib.hid (HB20.out.trans (((undrew hb3)).mono HB20.out.size))
  clear X20 Y20 O15 Q10 HB20
  have O17 := Lib.hid (O16.out.below hb4)
  have Q12 := Lib.hid (Q11.out.below hb4)
  have HB22 := Lib.hid (HB21.out.trans ((hb4).mono HB21.out.size))
  clear O16 Q11 HB21
  have O18 := Lib.hid (O17.out.below hb5)
  have Q13 := Lib.hid (Q12.out.below hb5)
  have HB23 := Lib.hid (HB22.out.trans ((hb5).mono HB22.out.size))
  clear O17 Q12 HB22
  have K0 := Lib.hid hK5
  clear hb3 hb4 hb5 hI2 hJ2 hK5
  go_wp2_with fail
  refine (eqMoveS_calls AK AO nn cK nn cO LL LL _ HLL.out HLL.out hnn hnn (OwnM.mvs K0.out) (OwnM.mvs O18.out)).mono ?_
  rintro e w9 ⟨rfl, hbq⟩
  have O19 := Lib.hid (O18.out.below hbq)
  have Q14 := Lib.hid (Q13.out.below hbq)
  have K1 := Lib.hid (K0.out.below hbq)
  have HB24 := Lib.hid (HB23.out.trans ((hbq).mono HB23.out.size))
  clear O18 Q13 K0 HB23
  go_wp2_with fail
  refine (heldMoveS_calls _ A9 nn c9 1 _ Q14.out hnn (by omega) (by omega)).mono ?_
  rintro e w15 ⟨rfl, hbq⟩
  have O20 := Lib.hid (O19.out.below hbq)
  have Q15 := Lib.hid (Q14.out.below hbq)
  have K2 := Lib.hid (K1.out.below hbq)
  have HB25 := Lib.hid (HB24.out.trans ((hbq).mono HB24.out.size))
  clear O19 Q14 K1 HB24
  go_wp2
  go_ret
  exact ⟨rfl, by first | exact HB25.out | (rw [← World.drewN_drewN]; exact HB25.out)⟩

theorem walk (p0 : Int) (A0 : Option Addr) (n0 c0 : Nat) (L0 : List Int) (p1 : Int) (A1 : Option Addr) (n1 c1 : Nat) (L1 : List Int) (w : World) (w0 : (Lit.int .i64 p0).wf = true) (hA0 : ArgInts w A0 n0 L0) (w1 : (Lit.int .i64 p1).wf = true) (hA1 : ArgInts w A1 n1 L1) :
    Calls Try.prog 5 #[.agg #[.int .i64 p0, .slice A0 n0 c0], .agg #[.int .i64 p1, .slice A1 n1 c1]] w fun e w' => e = .returned (.bool true) ∧ Below w.heap.size w w' := by
  obtain ⟨hL0, hm0, hI0⟩ := hA0
  obtain ⟨hL1, hm1, hI1⟩ := hA1
  by_cases hn0 : (1048576 : Int) < n0
  · have hz0 := szI_no' hn0
    obtain ⟨hbX, hbY, hb0⟩ := boxes2 w p0 p1 A0 A1 n0 c0 n1 c1 46
    have X0 := Lib.hid hbX
    have Y0 := Lib.hid hbY
    have HB0 := Lib.hid hb0
    clear hbX hbY hb0
    go_enter Try.func5, Try.ntmps5
    go_wp2_with fail
    refine (szState_calls A0 n0 c0 p0 1048576 _ hm0 (by omega) (by omega)).mono ?_
    rintro e w1 ⟨rfl, hb⟩
    rw [hz0]
    have HB1 := Lib.hid (HB0.out.trans (hb.mono HB0.out.size))
    clear hb
    go_wp2
    go_ret
    exact ⟨rfl, HB1.out⟩
  · by_cases hn1 : (1048576 - n0 : Int) < n1
    · have hz0 : szI n0 1048576 = 1048576 - n0 := szI_yes' (by omega)
      have hz1 := szI_no' hn1
      obtain ⟨hbX, hbY, hb0⟩ := boxes2 w p0 p1 A0 A1 n0 c0 n1 c1 46
      have X0 := Lib.hid hbX
      have Y0 := Lib.hid hbY
      have HB0 := Lib.hid hb0
      clear hbX hbY hb0
      go_enter Try.func5, Try.ntmps5
      go_wp2_with fail
      refine (szState_calls A0 n0 c0 p0 1048576 _ hm0 (by omega) (by omega)).mono ?_
      rintro e w1 ⟨rfl, hb⟩
      rw [hz0]
      have HB1 := Lib.hid (HB0.out.trans (hb.mono HB0.out.size))
      have Y1 := Lib.hid (Y0.out.below hb Y0.out.lt)
      clear hb
      obtain ⟨y0, y1, _, _⟩ := Y1.out.two
      go_wp2_with fail
      refine (szState_calls A1 n1 c1 p1 (1048576 - n0) _ hm1 (by omega) (by omega)).mono ?_
      rintro e w2 ⟨rfl, hb⟩
      rw [hz1]
      have HB2 := Lib.hid (HB1.out.trans (hb.mono HB1.out.size))
      clear hb y0 y1
      go_wp2
      go_ret
      exact ⟨rfl, HB2.out⟩
    · exact core p0 A0 n0 c0 L0 p1 A1 n1 c1 L1 (code2 p0 L0 p1 L1) (wbL p0 L0 p1 L1) (wbL p0 L0 p1 L1).length (wbL_len _ _ _ _) rfl w hL0 (by omega) hI0 hL1 (by omega) (by omega) hI1
        (fun g0 g1 W hW0 hW1 => specWayBetween_ret (some ⟨g0, 0, none⟩) n0 n0 p0 L0 (some ⟨g1, 0, none⟩) n1 n1 p1 L1 W hL0 (by omega) hW0 (Nat.le_refl _) (by omega) hL1 (by omega) hW1 (Nat.le_refl _) (by omega))
        (fun g0 g1 W hW0 hW1 => implWayBetween_ret (some ⟨g0, 0, none⟩) n0 n0 p0 L0 (some ⟨g1, 0, none⟩) n1 n1 p1 L1 W hL0 (by omega) hW0 (Nat.le_refl _) (by omega) hL1 (by omega) hW1 (Nat.le_refl _) (by omega))

set_option maxRecDepth 100000 in
theorem lifted (os : Os) (started : os.Started) (H : Type) (enc : TypeId × Value → H) :
    ReturnsInHanded {} Try.checked os 5 .any (Rows.fnExactWayBetweenSpec.pre6 enc Try.prog Try.f5 Rows.fnExactWayBetweenRow.domain false) (Rows.fnExactWayBetweenSpec.post enc Try.prog Try.f5 false true false false) := by
  refine returnsInHanded_of_change (C := Try.checked) own started (by kernel_rfl) Try.func5
    (ChangeSpec.witness6 (enc := enc) (C := Try.checked) false ⟨#[], #[.agg #[.int .i64 0, .slice none 0 0], .agg #[.int .i64 0, .slice none 0 0]], []⟩ 8 (by kernel_rfl) (by kernel_rfl) (by kernel_rfl) (by kernel_rfl)) ?_
  intro W base args ds gs before hval0 hW hcnd _
  have hval : ∀ (j : Nat) t v, Try.f5.params[j]? = some t → args[j]? = some v → Value.okWide Try.prog W .any base t v := hval0
  have hW' := hW
  obtain ⟨p, q, hA0, hV, rfl, hfz, hnd⟩ := hW
  have hA : DataW.TrodAll enc Try.prog W 0 (fun _ => true) true Try.f5.params.toList args.toList ds p := hA0
  rw [Try.params5] at hA hval
  obtain ⟨v0, vs0, d0, ds0, p0, q0, hargs, rfl, rfl, h0, r0⟩ := trodAll_cons hA
  obtain ⟨v1, vs1, d1, ds1, p1, q1, rfl, rfl, rfl, h1, r1⟩ := trodAll_cons r0
  obtain ⟨rfl, rfl, rfl⟩ := trodAll_nil r1
  obtain rfl : args = #[v0, v1] := by cases args; simp_all
  obtain ⟨rfl, rfl⟩ := trodVars_none hV
  have lt0 : ∀ x ∈ p0, x.block < W.heap.size := by obtain ⟨m, hm⟩ := h0; exact DataW.trod_lt m _ _ _ hm
  have k0 := h0
  obtain ⟨a0, A0, n0, c0, L0, rfl, w0, hAI0⟩ := open_state (hval 0 46 v0 rfl rfl) h0
  have lt1 : ∀ x ∈ p1, x.block < W.heap.size := by obtain ⟨m, hm⟩ := h1; exact DataW.trod_lt m _ _ _ hm
  have k1 := h1
  obtain ⟨a1, A1, n1, c1, L1, rfl, w1, hAI1⟩ := open_state (hval 1 46 v1 rfl rfl) h1
  clear hA0 hval0
  refine (walk a0 A0 n0 c0 L0 a1 A1 n1 c1 L1 W w0 hAI0 w1 hAI1).mono fun e W' ⟨he, bel⟩ => ?_
  subst he
  exact ⟨_, rfl, _, _, _, [], _, [], hW', trodAll_mk1 (shut_bool Try.underlying4 _), (trodAll_cons_mk (Below.trod laidOut (by kernel_rfl) (of_decide_eq_true (by kernel_rfl)) k0 bel lt0) (trodAll_cons_mk (Below.trod laidOut (by kernel_rfl) (of_decide_eq_true (by kernel_rfl)) k1 bel lt1) trodAll_mk0)), rfl, bel.frame _, fun h => by cases h⟩

theorem over : Rows.fnExactWayBetweenRow.holds Try.pinned (OpenSpec.ofChange Rows.fnExactWayBetweenSpec) :=
  OpenClaim.holds_of_wide 5 Try.f5 rfl rfl rfl rfl rfl rfl rfl ⟨rfl, rfl, rfl, rfl, rfl⟩ rfl rfl rfl rfl rfl (by kernel_rfl) Try.func5 (by kernel_rfl)
    (of_decide_eq_true (by kernel_rfl)) (by unfold Func.isWrapper; first | (rw [if_pos (by decide +kernel)]; kernel_rfl) | (rw [if_neg (by decide +kernel)]; exact ⟨rfl, rfl⟩))
    (fun os started H enc _ => lifted os started H enc)

theorem proved : Rows.FnExactWayBetweenSaid := over
#print axioms proved
end Go.Proofs.Ytbcgomimfgggnaa.fnExactWayBetween
