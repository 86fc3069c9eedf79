/- Contracts: the walk of the great law FnDistances, of a code of at most 4096 bytes. -/
import Derived.Test.YtbcgomimfgggnaaPk9
import Derived.Test.YtbcgomimfgggnaaPk1
import Derived.BigQuiet
import Derived.IntWalk
import Derived.Deep.RegionHeld3
import Derived.Deep.Cut
namespace Go.Proofs.Ytbcgomimfgggnaa
open Go.RowKit
set_option linter.unusedVariables false

set_option maxRecDepth 100000 in
set_option maxHeartbeats 40000000 in
theorem fnDistances_core (A : Option Addr) (n c : Nat) (w : World) (hn : n ≤ 4096) (hA : By w A n) (hl : ∀ ad, A = some ad → 0 < n → ad.block < w.heap.size) :
    Calls Try.prog 4 #[.slice A n c] w fun e w' => e = .returned (.bool true) ∧ Below w.heap.size w w' := by
  have HN := Lib.hid hn
  have HA0 := Lib.hid hA
  have HLc := Lib.hid hl
  have HB0 := Lib.hid (Below.refl w.heap.size w)
  clear hn hA hl
  go_enter Try.func4, Try.ntmps4
  go_wp2_with fail
  refine (big_no A n c _ HN.out).mono ?_
  rintro e w0 ⟨rfl, rfl⟩
  go_wp2_with fail
  refine (DrawWayBetween_ret A n c _ HN.out HA0.out (fun ad e h => Nat.lt_of_lt_of_le (HLc.out ad e h) HB0.out.size)).mono ?_
  rintro e w1 ⟨p, B, m, d, L, q, B2, k, d2, M, rfl, hO, hm, hP, hk, hb⟩
  have HB1 := Lib.hid (HB0.out.trans ((hb).mono HB0.out.size))
  have HA1 := Lib.hid (HA0.out.below hb)
  clear HB0 HA0
  have W0 := Lib.hid (hO.ints)
  have Z0 := Lib.hid (hP.ints)
  clear hb
  have hal : Below w1.heap.size w1 ((w1.alloc (.cells #[.int .i64 p, .slice B m d] 30)).alloc (.cells #[.int .i64 q, .slice B2 k d2] 30)) := ((Below.refl _ _).alloc (Nat.le_refl _) _).alloc (by simp) _
  have hbx := (Box.new w1 30 #[.int .i64 p, .slice B m d]).alloc (.cells #[.int .i64 q, .slice B2 k d2] 30)
  have hby := Box.new (w1.alloc (.cells #[.int .i64 p, .slice B m d] 30)) 30 #[.int .i64 q, .slice B2 k d2]
  rw [World.size_alloc] at hby
  have HB2 := Lib.hid (HB1.out.trans ((hal).mono HB1.out.size))
  have HA2 := Lib.hid (HA1.out.below hal)
  have W1 := Lib.hid (W0.out.below hal)
  have Z1 := Lib.hid (Z0.out.below hal)
  clear HB1 HA1 W0 Z0
  have X0 := Lib.hid (hbx)
  have Y0 := Lib.hid (hby)
  clear hal hbx hby
  have HL := Lib.hid (Own.len hO)
  have hcL := own_capT hO
  have HM := Lib.hid (Own.len hP)
  have hcM := own_capT hP
  clear hO hP
  obtain ⟨WL, nl, E, hwl, g1, g2, hgood⟩ := fdw_all p L m q M k HL.out hm HM.out hk
  have C1 := Lib.hid g1
  have C2 := Lib.hid g2
  have HG1 := Lib.hid hgood
  clear g1 g2 hgood
  have HK1 := Lib.hid hwl.1
  have h800 := hwl.2
  clear hwl
  obtain ⟨xa0, xb0, _, _⟩ := X0.out.two
  obtain ⟨xa1, xb1, _, _⟩ := Y0.out.two
  go_wp2_with fail
  refine (C1.out B d B2 d2 _ W1.out hcL.1 hcL.2 Z1.out hcM.1 hcM.2).mono ?_
  rintro e w2 ⟨A1, c1, rfl, hO, hb⟩
  clear xa0 xb0 xa1 xb1
  have HB3 := Lib.hid (HB2.out.trans ((hb).mono HB2.out.size))
  have HA3 := Lib.hid (HA2.out.below hb)
  have W2 := Lib.hid (W1.out.below hb)
  have Z2 := Lib.hid (Z1.out.below hb)
  have X1 := Lib.hid (X0.out.below hb X0.out.lt)
  have Y1 := Lib.hid (Y0.out.below hb Y0.out.lt)
  clear HB2 HA2 W1 Z1 X0 Y0
  have U0 := Lib.hid (hO.mvs)
  clear hb
  clear hO
  obtain ⟨xa0, xb0, _, _⟩ := X1.out.two
  obtain ⟨xa1, xb1, _, _⟩ := Y1.out.two
  go_wp2_with fail
  refine (C2.out B d B2 d2 _ W2.out hcL.1 hcL.2 Z2.out hcM.1 hcM.2).mono ?_
  rintro e w3 ⟨A2, c2, rfl, hO, hb⟩
  clear xa0 xb0 xa1 xb1
  have HB4 := Lib.hid (HB3.out.trans ((hb).mono HB3.out.size))
  have HA4 := Lib.hid (HA3.out.below hb)
  have W3 := Lib.hid (W2.out.below hb)
  have Z3 := Lib.hid (Z2.out.below hb)
  have X2 := Lib.hid (X1.out.below hb X1.out.lt)
  have Y2 := Lib.hid (Y1.out.below hb Y1.out.lt)
  have U1 := Lib.hid (U0.out.below hb)
  clear HB3 HA3 W2 Z2 X1 Y1 U0
  have UU0 := Lib.hid (hO.mvs)
  clear hb
  clear hO
  go_wp2_with fail
  refine (moves9_same A1 A2 nl c1 c2 WL _ HK1.out (by omega) U1.out UU0.out).mono ?_
  rintro e w4 ⟨rfl, dd, rfl⟩
  have HB5 := Lib.hid (HB4.out.trans (((belowDraws (Below.refl _ _) dd)).mono HB4.out.size))
  have HA5 := Lib.hid (HA4.out.below (belowDraws (Below.refl _ _) dd))
  have W4 := Lib.hid (W3.out.below (belowDraws (Below.refl _ _) dd))
  have Z4 := Lib.hid (Z3.out.below (belowDraws (Below.refl _ _) dd))
  have X3 := Lib.hid (X2.out.below (belowDraws (Below.refl _ _) dd) X2.out.lt)
  have Y3 := Lib.hid (Y2.out.below (belowDraws (Below.refl _ _) dd) Y2.out.lt)
  have U2 := Lib.hid (U1.out.below (belowDraws (Below.refl _ _) dd))
  have UU1 := Lib.hid (UU0.out.below (belowDraws (Below.refl _ _) dd))
  clear HB4 HA4 W3 Z3 X2 Y2 U1 UU0
  clear UU1
  clear C1 C2
  generalize w3.drewN dd = w4 at *
  go_wp2_with fail
  refine (DrawDistanceByRule_ret A n c _ HN.out HA5.out (fun ad e h => Nat.lt_of_lt_of_le (HLc.out ad e h) HB5.out.size)).mono ?_
  rintro e w5 ⟨p3, B3, m3, d3, L3, q3, B4, k4, d4, M4, rfl, hO, hm3, hP, hk4, hb⟩
  have HB6 := Lib.hid (HB5.out.trans ((hb).mono HB5.out.size))
  have HA6 := Lib.hid (HA5.out.below hb)
  have W5 := Lib.hid (W4.out.below hb)
  have Z5 := Lib.hid (Z4.out.below hb)
  have X4 := Lib.hid (X3.out.below hb X3.out.lt)
  have Y4 := Lib.hid (Y3.out.below hb Y3.out.lt)
  have U3 := Lib.hid (U2.out.below hb)
  clear HB5 HA5 W4 Z4 X3 Y3 U2
  have W30 := Lib.hid (hO.ints)
  have W40 := Lib.hid (hP.ints)
  clear hb
  have hal : Below w5.heap.size w5 ((w5.alloc (.cells #[.int .i64 p3, .slice B3 m3 d3] 30)).alloc (.cells #[.int .i64 q3, .slice B4 k4 d4] 30)) := ((Below.refl _ _).alloc (Nat.le_refl _) _).alloc (by simp) _
  have hbx := (Box.new w5 30 #[.int .i64 p3, .slice B3 m3 d3]).alloc (.cells #[.int .i64 q3, .slice B4 k4 d4] 30)
  have hby := Box.new (w5.alloc (.cells #[.int .i64 p3, .slice B3 m3 d3] 30)) 30 #[.int .i64 q3, .slice B4 k4 d4]
  rw [World.size_alloc] at hby
  have HB7 := Lib.hid (HB6.out.trans ((hal).mono HB6.out.size))
  have HA7 := Lib.hid (HA6.out.below hal)
  have W6 := Lib.hid (W5.out.below hal)
  have Z6 := Lib.hid (Z5.out.below hal)
  have X5 := Lib.hid (X4.out.below hal X4.out.lt)
  have Y5 := Lib.hid (Y4.out.below hal Y4.out.lt)
  have U4 := Lib.hid (U3.out.below hal)
  have W31 := Lib.hid (W30.out.below hal)
  have W41 := Lib.hid (W40.out.below hal)
  clear HB6 HA6 W5 Z5 X4 Y4 U3 W30 W40
  have P0 := Lib.hid (hbx)
  have Q0 := Lib.hid (hby)
  clear hal hbx hby
  have HL3 := Lib.hid (Own.len hO)
  have hcL3 := own_capT hO
  have HM4 := Lib.hid (Own.len hP)
  have hcM4 := own_capT hP
  clear hO hP
  clear HA7
  obtain ⟨D, E2, F1, F2, E3, C, g1, g2, g3, g4, g5, g6, g7, g8, hgood⟩ := fdd_all p3 L3 m3 q3 M4 k4 HL3.out hm3 HM4.out hk4
  have C1 := Lib.hid g1
  have C2 := Lib.hid g2
  have C3 := Lib.hid g3
  have C4 := Lib.hid g4
  have C5 := Lib.hid g5
  have C6 := Lib.hid g6
  have C7 := Lib.hid g7
  have C8 := Lib.hid g8
  have HG2 := Lib.hid hgood
  clear g1 g2 g3 g4 g5 g6 g7 g8 hgood
  obtain ⟨xa0, xb0, _, _⟩ := P0.out.two
  obtain ⟨xa1, xb1, _, _⟩ := Q0.out.two
  go_wp2_with fail
  refine (C1.out B3 d3 B4 d4 _ W31.out hcL3.1 hcL3.2 W41.out hcM4.1 hcM4.2).mono ?_
  rintro e w6 ⟨rfl, hb⟩
  clear xa0 xb0 xa1 xb1
  have HB8 := Lib.hid (HB7.out.trans ((hb).mono HB7.out.size))
  have W7 := Lib.hid (W6.out.below hb)
  have Z7 := Lib.hid (Z6.out.below hb)
  have X6 := Lib.hid (X5.out.below hb X5.out.lt)
  have Y6 := Lib.hid (Y5.out.below hb Y5.out.lt)
  have U5 := Lib.hid (U4.out.below hb)
  have W32 := Lib.hid (W31.out.below hb)
  have W42 := Lib.hid (W41.out.below hb)
  have P1 := Lib.hid (P0.out.below hb P0.out.lt)
  have Q1 := Lib.hid (Q0.out.below hb Q0.out.lt)
  clear HB7 W6 Z6 X5 Y5 U4 W31 W41 P0 Q0
  clear hb
  obtain ⟨xa0, xb0, _, _⟩ := P1.out.two
  obtain ⟨xa1, xb1, _, _⟩ := Q1.out.two
  go_wp2_with fail
  refine (C2.out B3 d3 B4 d4 _ W32.out hcL3.1 hcL3.2 W42.out hcM4.1 hcM4.2).mono ?_
  rintro e w7 ⟨rfl, hb⟩
  clear xa0 xb0 xa1 xb1
  have HB9 := Lib.hid (HB8.out.trans ((hb).mono HB8.out.size))
  have W8 := Lib.hid (W7.out.below hb)
  have Z8 := Lib.hid (Z7.out.below hb)
  have X7 := Lib.hid (X6.out.below hb X6.out.lt)
  have Y7 := Lib.hid (Y6.out.below hb Y6.out.lt)
  have U6 := Lib.hid (U5.out.below hb)
  have W33 := Lib.hid (W32.out.below hb)
  have W43 := Lib.hid (W42.out.below hb)
  have P2 := Lib.hid (P1.out.below hb P1.out.lt)
  have Q2 := Lib.hid (Q1.out.below hb Q1.out.lt)
  clear HB8 W7 Z7 X6 Y6 U5 W32 W42 P1 Q1
  clear hb
  obtain ⟨xa0, xb0, _, _⟩ := P2.out.two
  obtain ⟨xa1, xb1, _, _⟩ := Q2.out.two
  go_wp2_with fail
  refine (C3.out B3 d3 B4 d4 _ W33.out hcL3.1 hcL3.2 W43.out hcM4.1 hcM4.2).mono ?_
  rintro e w8 ⟨rfl, hb⟩
  clear xa0 xb0 xa1 xb1
  have HB10 := Lib.hid (HB9.out.trans ((hb).mono HB9.out.size))
  have W9 := Lib.hid (W8.out.below hb)
  have Z9 := Lib.hid (Z8.out.below hb)
  have X8 := Lib.hid (X7.out.below hb X7.out.lt)
  have Y8 := Lib.hid (Y7.out.below hb Y7.out.lt)
  have U7 := Lib.hid (U6.out.below hb)
  have W34 := Lib.hid (W33.out.below hb)
  have W44 := Lib.hid (W43.out.below hb)
  have P3 := Lib.hid (P2.out.below hb P2.out.lt)
  have Q3 := Lib.hid (Q2.out.below hb Q2.out.lt)
  clear HB9 W8 Z8 X7 Y7 U6 W33 W43 P2 Q2
  clear hb
  obtain ⟨xa0, xb0, _, _⟩ := P3.out.two
  obtain ⟨xa1, xb1, _, _⟩ := Q3.out.two
  go_wp2_with fail
  refine (C4.out B3 d3 B4 d4 _ W34.out hcL3.1 hcL3.2 W44.out hcM4.1 hcM4.2).mono ?_
  rintro e w9 ⟨rfl, hb⟩
  clear xa0 xb0 xa1 xb1
  have HB11 := Lib.hid (HB10.out.trans ((hb).mono HB10.out.size))
  have W10 := Lib.hid (W9.out.below hb)
  have Z10 := Lib.hid (Z9.out.below hb)
  have X9 := Lib.hid (X8.out.below hb X8.out.lt)
  have Y9 := Lib.hid (Y8.out.below hb Y8.out.lt)
  have U8 := Lib.hid (U7.out.below hb)
  have W35 := Lib.hid (W34.out.below hb)
  have W45 := Lib.hid (W44.out.below hb)
  have P4 := Lib.hid (P3.out.below hb P3.out.lt)
  have Q4 := Lib.hid (Q3.out.below hb Q3.out.lt)
  clear HB10 W9 Z9 X8 Y8 U7 W34 W44 P3 Q3
  clear hb
  obtain ⟨xa0, xb0, _, _⟩ := P4.out.two
  obtain ⟨xa1, xb1, _, _⟩ := Q4.out.two
  go_wp2_with fail
  refine (C5.out B3 d3 B4 d4 _ W35.out hcL3.1 hcL3.2 W45.out hcM4.1 hcM4.2).mono ?_
  rintro e w10 ⟨rfl, hb⟩
  clear xa0 xb0 xa1 xb1
  have HB12 := Lib.hid (HB11.out.trans ((hb).mono HB11.out.size))
  have W11 := Lib.hid (W10.out.below hb)
  have Z11 := Lib.hid (Z10.out.below hb)
  have X10 := Lib.hid (X9.out.below hb X9.out.lt)
  have Y10 := Lib.hid (Y9.out.below hb Y9.out.lt)
  have U9 := Lib.hid (U8.out.below hb)
  have W36 := Lib.hid (W35.out.below hb)
  have W46 := Lib.hid (W45.out.below hb)
  have P5 := Lib.hid (P4.out.below hb P4.out.lt)
  have Q5 := Lib.hid (Q4.out.below hb Q4.out.lt)
  clear HB11 W10 Z10 X9 Y9 U8 W35 W45 P4 Q4
  clear hb
  obtain ⟨xa0, xb0, _, _⟩ := P5.out.two
  obtain ⟨xa1, xb1, _, _⟩ := Q5.out.two
  go_wp2_with fail
  refine (C6.out B3 d3 B4 d4 _ W36.out hcL3.1 hcL3.2 W46.out hcM4.1 hcM4.2).mono ?_
  rintro e w11 ⟨rfl, hb⟩
  clear xa0 xb0 xa1 xb1
  have HB13 := Lib.hid (HB12.out.trans ((hb).mono HB12.out.size))
  have W12 := Lib.hid (W11.out.below hb)
  have Z12 := Lib.hid (Z11.out.below hb)
  have X11 := Lib.hid (X10.out.below hb X10.out.lt)
  have Y11 := Lib.hid (Y10.out.below hb Y10.out.lt)
  have U10 := Lib.hid (U9.out.below hb)
  have W37 := Lib.hid (W36.out.below hb)
  have W47 := Lib.hid (W46.out.below hb)
  have P6 := Lib.hid (P5.out.below hb P5.out.lt)
  have Q6 := Lib.hid (Q5.out.below hb Q5.out.lt)
  clear HB12 W11 Z11 X10 Y10 U9 W36 W46 P5 Q5
  clear hb
  obtain ⟨xa0, xb0, _, _⟩ := P6.out.two
  obtain ⟨xa1, xb1, _, _⟩ := Q6.out.two
  go_wp2_with fail
  refine (C7.out B3 d3 B4 d4 _ W37.out hcL3.1 hcL3.2 W47.out hcM4.1 hcM4.2).mono ?_
  rintro e w12 ⟨rfl, hb⟩
  clear xa0 xb0 xa1 xb1
  have HB14 := Lib.hid (HB13.out.trans ((hb).mono HB13.out.size))
  have W13 := Lib.hid (W12.out.below hb)
  have Z13 := Lib.hid (Z12.out.below hb)
  have X12 := Lib.hid (X11.out.below hb X11.out.lt)
  have Y12 := Lib.hid (Y11.out.below hb Y11.out.lt)
  have U11 := Lib.hid (U10.out.below hb)
  have W38 := Lib.hid (W37.out.below hb)
  have W48 := Lib.hid (W47.out.below hb)
  have P7 := Lib.hid (P6.out.below hb P6.out.lt)
  have Q7 := Lib.hid (Q6.out.below hb Q6.out.lt)
  clear HB13 W12 Z12 X11 Y11 U10 W37 W47 P6 Q6
  clear hb
  obtain ⟨xa0, xb0, _, _⟩ := P7.out.two
  obtain ⟨xa1, xb1, _, _⟩ := Q7.out.two
  go_wp2_with fail
  refine (C8.out B3 d3 B4 d4 _ W38.out hcL3.1 hcL3.2 W48.out hcM4.1 hcM4.2).mono ?_
  rintro e w13 ⟨rfl, hb⟩
  clear xa0 xb0 xa1 xb1
  have HB15 := Lib.hid (HB14.out.trans ((hb).mono HB14.out.size))
  have W14 := Lib.hid (W13.out.below hb)
  have Z14 := Lib.hid (Z13.out.below hb)
  have X13 := Lib.hid (X12.out.below hb X12.out.lt)
  have Y13 := Lib.hid (Y12.out.below hb Y12.out.lt)
  have U12 := Lib.hid (U11.out.below hb)
  have W39 := Lib.hid (W38.out.below hb)
  have W49 := Lib.hid (W48.out.below hb)
  have P8 := Lib.hid (P7.out.below hb P7.out.lt)
  have Q8 := Lib.hid (Q7.out.below hb Q7.out.lt)
  clear HB14 W13 Z13 X12 Y12 U11 W38 W48 P7 Q7
  clear hb
  clear C1 C2 C3 C4 C5 C6 C7 C8
  go_upto_if 147 with (fail)
  go_cut [] from 33 (fun wc => Below w13.heap.size w13 wc)
  case first =>
    as_aux_lemma =>
      have LB0 := Lib.hid (Below.refl w13.heap.size w13)
      rcases HG2.out with hE | ⟨rfl, g1, hC, hrest⟩
      · have hd : (E2 == 0) = false := by simpa using hE
        go_wp2
        go_meet
        case rel => exact LB0.out
      · have T1 := Lib.hid g1
        have HR := Lib.hid hrest
        clear g1 hrest
        clear HG2
        obtain ⟨xa0, xb0, _, _⟩ := Q8.out.two
        obtain ⟨xa1, xb1, _, _⟩ := P8.out.two
        go_wp2_with fail
        refine (T1.out B4 d4 B3 d3 _ W49.out hcM4.1 hcM4.2 W39.out hcL3.1 hcL3.2).mono ?_
        rintro e w14 ⟨rfl, hb⟩
        clear xa0 xb0 xa1 xb1
        have HB16 := Lib.hid (HB15.out.trans ((hb).mono HB15.out.size))
        have W15 := Lib.hid (W14.out.below hb)
        have Z15 := Lib.hid (Z14.out.below hb)
        have X14 := Lib.hid (X13.out.below hb X13.out.lt)
        have Y14 := Lib.hid (Y13.out.below hb Y13.out.lt)
        have U13 := Lib.hid (U12.out.below hb)
        have W310 := Lib.hid (W39.out.below hb)
        have W410 := Lib.hid (W49.out.below hb)
        have P9 := Lib.hid (P8.out.below hb P8.out.lt)
        have Q9 := Lib.hid (Q8.out.below hb Q8.out.lt)
        have LB1 := Lib.hid (LB0.out.trans ((hb).mono LB0.out.size))
        clear HB15 W14 Z14 X13 Y13 U12 W39 W49 P8 Q8 LB0
        clear hb
        clear T1
        have hc1 : ¬ C < 1 := by omega
        have hc2 : ¬ 2 < C := by omega
        have hc3 : decide (C < 1) = false := by simp; omega
        have hc4 : decide (2 < C) = false := by simp; omega
        have hdd : (D != D) = false := by simp
        rcases HR.out with hE | ⟨rfl, hD, hiff⟩
        · have hd : (E3 == 0) = false := by simpa using hE
          go_wp2
          go_meet
          case rel => exact LB1.out
        · by_cases hF : F1 = F2
          · obtain rfl := hiff.2 hF
            subst hF
            rw [if_neg (by omega)] at hD
            subst hD
            clear hiff HR
            go_wp2
            go_meet
            case rel => exact LB1.out
          · have hC2 : (C == 2) = false := by (have h : ¬ C = 2 := fun h => hF (hiff.1 h)); simpa using h
            have hF2 : (F1 == F2) = false := by simpa using hF
            clear hiff HR
            by_cases hlt : F2 < F1
            · rw [if_pos hlt] at hD
              subst hD
              go_wp2
              go_meet
              case rel => exact LB1.out
            · rw [if_neg hlt] at hD
              subst hD
              go_wp2
              go_meet
              case rel => exact LB1.out
  case rest =>
    as_aux_lemma =>
      obtain ⟨w14, hwc⟩ : ∃ x, x = wc := ⟨wc, rfl⟩
      subst hwc
      have HB16 := Lib.hid (HB15.out.trans ((hcut).mono HB15.out.size))
      have W15 := Lib.hid (W14.out.below hcut)
      have Z15 := Lib.hid (Z14.out.below hcut)
      have X14 := Lib.hid (X13.out.below hcut X13.out.lt)
      have Y14 := Lib.hid (Y13.out.below hcut Y13.out.lt)
      have U13 := Lib.hid (U12.out.below hcut)
      have W310 := Lib.hid (W39.out.below hcut)
      have W410 := Lib.hid (W49.out.below hcut)
      have P9 := Lib.hid (P8.out.below hcut P8.out.lt)
      have Q9 := Lib.hid (Q8.out.below hcut Q8.out.lt)
      clear HB15 W14 Z14 X13 Y13 U12 W39 W49 P8 Q8
      clear hcut
      clear HG2 HL3 HM4
      clear P9
      clear Q9
      clear W310
      clear W410
      rcases HG1.out with ⟨hE, rfl⟩ | ⟨rfl, rfl, g1, g2⟩
      · have hd : (E != 0) = true := by simpa using hE
        go_wp2
        go_ret
        exact ⟨rfl, HB16.out⟩
      · have T1 := Lib.hid g1
        have T2 := Lib.hid g2
        clear g1 g2
        clear HG1
        obtain ⟨xa0, xb0, _, _⟩ := X14.out.two
        obtain ⟨xa1, xb1, _, _⟩ := Y14.out.two
        go_wp2_with fail
        refine (T1.out B d B2 d2 _ W15.out hcL.1 hcL.2 Z15.out hcM.1 hcM.2).mono ?_
        rintro e w15 ⟨rfl, hb⟩
        clear xa0 xb0 xa1 xb1
        have HB17 := Lib.hid (HB16.out.trans ((hb).mono HB16.out.size))
        have W16 := Lib.hid (W15.out.below hb)
        have Z16 := Lib.hid (Z15.out.below hb)
        have X15 := Lib.hid (X14.out.below hb X14.out.lt)
        have Y15 := Lib.hid (Y14.out.below hb Y14.out.lt)
        have U14 := Lib.hid (U13.out.below hb)
        clear HB16 W15 Z15 X14 Y14 U13
        clear hb
        obtain ⟨xa0, xb0, _, _⟩ := X15.out.two
        go_wp2_with fail
        refine (T2.out B d A1 c1 _ W16.out U14.out).mono ?_
        rintro e w16 ⟨A8, c8, rfl, hO, hb⟩
        clear xa0 xb0
        have HB18 := Lib.hid (HB17.out.trans ((hb).mono HB17.out.size))
        have W17 := Lib.hid (W16.out.below hb)
        have Z17 := Lib.hid (Z16.out.below hb)
        have X16 := Lib.hid (X15.out.below hb X15.out.lt)
        have Y16 := Lib.hid (Y15.out.below hb Y15.out.lt)
        have U15 := Lib.hid (U14.out.below hb)
        clear HB17 W16 Z16 X15 Y15 U14
        have W80 := Lib.hid (hO.ints)
        clear hb
        have hal : Below w16.heap.size w16 (w16.alloc (.cells #[.int .i64 3, .slice A8 k c8] 30)) := (Below.refl _ _).alloc (Nat.le_refl _) _
        have hbx := Box.new w16 30 #[.int .i64 3, .slice A8 k c8]
        have HB19 := Lib.hid (HB18.out.trans ((hal).mono HB18.out.size))
        have W18 := Lib.hid (W17.out.below hal)
        have Z18 := Lib.hid (Z17.out.below hal)
        have X17 := Lib.hid (X16.out.below hal X16.out.lt)
        have Y17 := Lib.hid (Y16.out.below hal Y16.out.lt)
        have U16 := Lib.hid (U15.out.below hal)
        have W81 := Lib.hid (W80.out.below hal)
        clear HB18 W17 Z17 X16 Y16 U15 W80
        have N80 := Lib.hid (hbx)
        clear hal hbx
        clear hO
        obtain ⟨xa0, xb0, _, _⟩ := N80.out.two
        obtain ⟨xa1, xb1, _, _⟩ := Y17.out.two
        go_wp2_with fail
        refine (state9_same A8 B2 k c8 d2 3 M _ HM.out (by omega) W81.out Z18.out).mono ?_
        rintro e w17 ⟨rfl, hb⟩
        clear xa0 xb0 xa1 xb1
        have HB20 := Lib.hid (HB19.out.trans ((hb).mono HB19.out.size))
        have W19 := Lib.hid (W18.out.below hb)
        have Z19 := Lib.hid (Z18.out.below hb)
        have X18 := Lib.hid (X17.out.below hb X17.out.lt)
        have Y18 := Lib.hid (Y17.out.below hb Y17.out.lt)
        have U17 := Lib.hid (U16.out.below hb)
        have W82 := Lib.hid (W81.out.below hb)
        have N81 := Lib.hid (N80.out.below hb N80.out.lt)
        clear HB19 W18 Z18 X17 Y17 U16 W81 N80
        clear hb
        go_wp2
        go_ret
        exact ⟨rfl, HB20.out⟩

end Go.Proofs.Ytbcgomimfgggnaa
