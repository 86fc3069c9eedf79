/- Contracts: the walk of the great law FnRings, of a code of at most 4096 bytes. -/
import Derived.Test.YtfdjlgpdbgmdkabRgA
import Derived.Test.YtfdjlgpdbgmdkabDrawRg
import Derived.Test.YtfdjlgpdbgmdkabDrawCr
import Derived.Test.YtfdjlgpdbgmdkabDrawPr
import Derived.Test.YtfdjlgpdbgmdkabGreat
import Derived.BigQuiet
import Derived.IntWalk
namespace Go.Proofs.Ytfdjlgpdbgmdkab
open Go.RowKit
set_option linter.unusedVariables false

set_option maxRecDepth 100000 in
set_option maxHeartbeats 40000000 in
theorem fnRings_core (A : Option Addr) (n c : Nat) (w : World) (hn : n ≤ 4096) (hA : By w A n) (hl : ∀ ad, A = some ad → 0 < n → ad.block < w.heap.size) :
    Calls Try.prog 3 #[.slice A n c] w fun e w' => e = .returned (.bool true) ∧ Below w.heap.size w w' := by
  have HN := Lib.hid hn
  have HA0 := Lib.hid hA
  have HL := Lib.hid hl
  have HB0 := Lib.hid (Below.refl w.heap.size w)
  clear hn hA hl
  go_enter Try.func3, Try.ntmps3
  go_wp2_with fail
  refine (big_no A n c _ HN.out).mono ?_
  rintro e w0 ⟨rfl, rfl⟩
  go_wp2_with fail
  refine (DrawRingsThatChange_ret A n c _ HN.out HA0.out (fun ad e h => Nat.lt_of_lt_of_le (HL.out ad e h) HB0.out.size)).mono ?_
  rintro e w1 ⟨B0, m, d0, L, rfl, hO, hm, hb⟩
  have HB1 := Lib.hid (HB0.out.trans ((hb).mono HB0.out.size))
  have HA1 := Lib.hid (HA0.out.below hb)
  clear HB0 HA0
  have W0 := Lib.hid (hO.ints)
  clear hb
  have HLL := Lib.hid (Own.len hO)
  clear hO
  obtain ⟨R, q, E, b, hR, hq, g1, g2, g3, g4, hgood⟩ := rc_all L m HLL.out hm
  have HR := Lib.hid hR
  have C1 := Lib.hid g1
  have C2 := Lib.hid g2
  have C3 := Lib.hid g3
  have C4 := Lib.hid g4
  have HGD := Lib.hid hgood
  clear g1 g2 g3 g4 hgood hR
  go_wp2_with fail
  refine (C1.out B0 d0 _ W0.out).mono ?_
  rintro e w2 ⟨A0, c0, rfl, hO, hb⟩
  have HB2 := Lib.hid (HB1.out.trans ((hb).mono HB1.out.size))
  have HA2 := Lib.hid (HA1.out.below hb)
  have W1 := Lib.hid (W0.out.below hb)
  clear HB1 HA1 W0
  have X0 := Lib.hid (hO.ints)
  clear hb
  clear hO
  go_wp2_with fail
  refine (C2.out B0 d0 _ W1.out).mono ?_
  rintro e w3 ⟨Az, cz, rfl, hO, hb⟩
  have HB3 := Lib.hid (HB2.out.trans ((hb).mono HB2.out.size))
  have HA3 := Lib.hid (HA2.out.below hb)
  have W2 := Lib.hid (W1.out.below hb)
  have X1 := Lib.hid (X0.out.below hb)
  clear HB2 HA2 W1 X0
  have Y0 := Lib.hid (hO.ints)
  clear hb
  clear hO
  go_wp2_with fail
  refine (likeInts_calls A0 Az q c0 q cz R R _ HR.out HR.out (by omega) (by omega) X1.out Y0.out).mono ?_
  rintro e w4 ⟨rfl, dq, rfl⟩
  rw [show decide (R = R) = true by simp]
  have HB4 := Lib.hid (HB3.out.trans (((belowDraws (Below.refl _ _) dq)).mono HB3.out.size))
  have HA4 := Lib.hid (HA3.out.below (belowDraws (Below.refl _ _) dq))
  have W3 := Lib.hid (W2.out.below (belowDraws (Below.refl _ _) dq))
  have X2 := Lib.hid (X1.out.below (belowDraws (Below.refl _ _) dq))
  have Y1 := Lib.hid (Y0.out.below (belowDraws (Below.refl _ _) dq))
  clear HB3 HA3 W2 X1 Y0
  generalize w3.drewN dq = w4 at *
  clear Y1
  go_wp2_with fail
  refine (C3.out B0 d0 _ W3.out).mono ?_
  rintro e w5 ⟨rfl, hb⟩
  have HB5 := Lib.hid (HB4.out.trans ((hb).mono HB4.out.size))
  have HA5 := Lib.hid (HA4.out.below hb)
  have W4 := Lib.hid (W3.out.below hb)
  have X3 := Lib.hid (X2.out.below hb)
  clear HB4 HA4 W3 X2
  clear hb
  go_wp2_with fail
  refine (C4.out B0 d0 _ W4.out).mono ?_
  rintro e w6 ⟨rfl, hb⟩
  have HB6 := Lib.hid (HB5.out.trans ((hb).mono HB5.out.size))
  have HA6 := Lib.hid (HA5.out.below hb)
  have W5 := Lib.hid (W4.out.below hb)
  have X4 := Lib.hid (X3.out.below hb)
  clear HB5 HA5 W4 X3
  clear hb
  clear C1 C2 C3 C4
  generalize b = bb at *
  rcases HGD.out with hE | ⟨rfl, hg⟩
  · have hd : (E == 0) = false := by simpa using hE
    clear hE HGD
    clear X4
    clear W5
    go_wp2_with fail
    refine (DrawChangeRing_ret A n c _ HN.out HA6.out (fun ad e h => Nat.lt_of_lt_of_le (HL.out ad e h) HB6.out.size)).mono ?_
    rintro e w7 ⟨B1, m1, d1, L1, i1, rfl, hO, hm1, hb⟩
    have HB7 := Lib.hid (HB6.out.trans ((hb).mono HB6.out.size))
    have HA7 := Lib.hid (HA6.out.below hb)
    clear HB6 HA6
    have WA0 := Lib.hid (hO.ints)
    clear hb
    have HL1 := Lib.hid (Own.len hO)
    clear hO
    obtain ⟨R1, q1, E1, g1, g2, g3, g4⟩ := cr_all L1 m1 i1 HL1.out hm1
    have G1 := Lib.hid g1
    have G3 := Lib.hid g3
    have G4 := Lib.hid g4
    clear g1 g3 g4
    go_wp2_with fail
    refine (G3.out B1 d1 _ WA0.out).mono ?_
    rintro e w8 ⟨A1, c1, dd, rfl, hO, hb⟩
    have HB8 := Lib.hid (HB7.out.trans ((hb).mono HB7.out.size))
    have HA8 := Lib.hid (HA7.out.below hb)
    have WA1 := Lib.hid (WA0.out.below hb)
    clear HB7 HA7 WA0
    have XA0 := Lib.hid (hO.ints)
    clear hb
    clear hO
    go_wp2_with fail
    refine (G4.out B1 d1 _ WA1.out).mono ?_
    rintro e w9 ⟨A2, c2, rfl, hO, hb⟩
    have HB9 := Lib.hid (HB8.out.trans ((hb).mono HB8.out.size))
    have HA9 := Lib.hid (HA8.out.below hb)
    have WA2 := Lib.hid (WA1.out.below hb)
    have XA1 := Lib.hid (XA0.out.below hb)
    clear HB8 HA8 WA1 XA0
    have XB0 := Lib.hid (hO.ints)
    clear hb
    clear hO
    clear WA2
    clear G3 G4 HL1
    go_wp2_with fail
    refine (DrawRankOfRings_ret A n c _ HN.out HA9.out (fun ad e h => Nat.lt_of_lt_of_le (HL.out ad e h) HB9.out.size)).mono ?_
    rintro e w10 ⟨B2, m2, d2, L2, rfl, hO, hm2, hb⟩
    have HB10 := Lib.hid (HB9.out.trans ((hb).mono HB9.out.size))
    have HA10 := Lib.hid (HA9.out.below hb)
    have XA2 := Lib.hid (XA1.out.below hb)
    have XB1 := Lib.hid (XB0.out.below hb)
    clear HB9 HA9 XA1 XB0
    have WB0 := Lib.hid (hO.ints)
    clear hb
    have HL2 := Lib.hid (Own.len hO)
    clear hO
    obtain ⟨V2, E2, g3, g4⟩ := rk_all L2 m2 HL2.out hm2
    have G3 := Lib.hid g3
    have G4 := Lib.hid g4
    clear g3 g4
    go_wp2_with fail
    refine (G3.out B2 d2 _ WB0.out).mono ?_
    rintro e w11 ⟨rfl, hb⟩
    have HB11 := Lib.hid (HB10.out.trans ((hb).mono HB10.out.size))
    have HA11 := Lib.hid (HA10.out.below hb)
    have XA3 := Lib.hid (XA2.out.below hb)
    have XB2 := Lib.hid (XB1.out.below hb)
    have WB1 := Lib.hid (WB0.out.below hb)
    clear HB10 HA10 XA2 XB1 WB0
    clear hb
    go_wp2_with fail
    refine (G4.out B2 d2 _ WB1.out).mono ?_
    rintro e w12 ⟨rfl, hb⟩
    have HB12 := Lib.hid (HB11.out.trans ((hb).mono HB11.out.size))
    have HA12 := Lib.hid (HA11.out.below hb)
    have XA4 := Lib.hid (XA3.out.below hb)
    have XB3 := Lib.hid (XB2.out.below hb)
    have WB2 := Lib.hid (WB1.out.below hb)
    clear HB11 HA11 XA3 XB2 WB1
    clear hb
    clear WB2
    clear G3 G4 HL2
    go_wp2_with fail
    refine (DrawRingsOfRank_calls A n c _ HN.out HA12.out (fun ad e h => Nat.lt_of_lt_of_le (HL.out ad e h) HB12.out.size)).mono ?_
    rintro e w13 ⟨v1, v2, rfl, hb⟩
    have HB13 := Lib.hid (HB12.out.trans ((hb).mono HB12.out.size))
    have HA13 := Lib.hid (HA12.out.below hb)
    have XA5 := Lib.hid (XA4.out.below hb)
    have XB4 := Lib.hid (XB3.out.below hb)
    clear HB12 HA12 XA4 XB3
    clear hb
    obtain ⟨R3, q3, E3, g1, g5, g3, g4⟩ := ro_all v1 v2
    have G5 := Lib.hid g1
    have G3 := Lib.hid g3
    have G4 := Lib.hid g4
    clear g1 g3 g4
    go_wp2_with fail
    refine (G3.out _).mono ?_
    rintro e w14 ⟨A3, c3, rfl, hO, hb⟩
    have HB14 := Lib.hid (HB13.out.trans ((hb).mono HB13.out.size))
    have HA14 := Lib.hid (HA13.out.below hb)
    have XA6 := Lib.hid (XA5.out.below hb)
    have XB5 := Lib.hid (XB4.out.below hb)
    clear HB13 HA13 XA5 XB4
    have XC0 := Lib.hid (hO.ints)
    clear hb
    clear hO
    go_wp2_with fail
    refine (G4.out _).mono ?_
    rintro e w15 ⟨A4, c4, rfl, hO, hb⟩
    have HB15 := Lib.hid (HB14.out.trans ((hb).mono HB14.out.size))
    have HA15 := Lib.hid (HA14.out.below hb)
    have XA7 := Lib.hid (XA6.out.below hb)
    have XB6 := Lib.hid (XB5.out.below hb)
    have XC1 := Lib.hid (XC0.out.below hb)
    clear HB14 HA14 XA6 XB5 XC0
    have XD0 := Lib.hid (hO.ints)
    clear hb
    clear hO
    clear G3 G4
    go_wp2_with fail
    refine (DrawOppositeRings_ret A n c _ HN.out HA15.out (fun ad e h => Nat.lt_of_lt_of_le (HL.out ad e h) HB15.out.size)).mono ?_
    rintro e w16 ⟨B4, m4, d4, L4, rfl, hO, hm4, hb⟩
    have HB16 := Lib.hid (HB15.out.trans ((hb).mono HB15.out.size))
    have HA16 := Lib.hid (HA15.out.below hb)
    have XA8 := Lib.hid (XA7.out.below hb)
    have XB7 := Lib.hid (XB6.out.below hb)
    have XC2 := Lib.hid (XC1.out.below hb)
    have XD1 := Lib.hid (XD0.out.below hb)
    clear HB15 HA15 XA7 XB6 XC1 XD0
    have WC0 := Lib.hid (hO.ints)
    clear hb
    have HL4 := Lib.hid (Own.len hO)
    clear hO
    obtain ⟨R4, q4, E4, g1, g6, g3, g4⟩ := op_all L4 m4 HL4.out hm4
    have G6 := Lib.hid g1
    have G3 := Lib.hid g3
    have G4 := Lib.hid g4
    clear g1 g3 g4
    go_wp2_with fail
    refine (G3.out B4 d4 _ WC0.out).mono ?_
    rintro e w17 ⟨A5, c5, dd, rfl, hO, hb⟩
    have HB17 := Lib.hid (HB16.out.trans ((hb).mono HB16.out.size))
    have HA17 := Lib.hid (HA16.out.below hb)
    have XA9 := Lib.hid (XA8.out.below hb)
    have XB8 := Lib.hid (XB7.out.below hb)
    have XC3 := Lib.hid (XC2.out.below hb)
    have XD2 := Lib.hid (XD1.out.below hb)
    have WC1 := Lib.hid (WC0.out.below hb)
    clear HB16 HA16 XA8 XB7 XC2 XD1 WC0
    have XE0 := Lib.hid (hO.ints)
    clear hb
    clear hO
    go_wp2_with fail
    refine (G4.out B4 d4 _ WC1.out).mono ?_
    rintro e w18 ⟨A6, c6, rfl, hO, hb⟩
    have HB18 := Lib.hid (HB17.out.trans ((hb).mono HB17.out.size))
    have HA18 := Lib.hid (HA17.out.below hb)
    have XA10 := Lib.hid (XA9.out.below hb)
    have XB9 := Lib.hid (XB8.out.below hb)
    have XC4 := Lib.hid (XC3.out.below hb)
    have XD3 := Lib.hid (XD2.out.below hb)
    have WC2 := Lib.hid (WC1.out.below hb)
    have XE1 := Lib.hid (XE0.out.below hb)
    clear HB17 HA17 XA9 XB8 XC3 XD2 WC1 XE0
    have XF0 := Lib.hid (hO.ints)
    clear hb
    clear hO
    clear WC2
    clear G3 G4 HL4
    go_wp2_with fail
    refine (DrawParseRings_calls A n c _ HN.out HA18.out (fun ad e h => Nat.lt_of_lt_of_le (HL.out ad e h) HB18.out.size)).mono ?_
    rintro e w19 ⟨tx, rfl, htx, hb⟩
    have HB19 := Lib.hid (HB18.out.trans ((hb).mono HB18.out.size))
    have HA19 := Lib.hid (HA18.out.below hb)
    have XA11 := Lib.hid (XA10.out.below hb)
    have XB10 := Lib.hid (XB9.out.below hb)
    have XC5 := Lib.hid (XC4.out.below hb)
    have XD4 := Lib.hid (XD3.out.below hb)
    have XE2 := Lib.hid (XE1.out.below hb)
    have XF1 := Lib.hid (XF0.out.below hb)
    clear HB18 HA18 XA10 XB9 XC4 XD3 XE1 XF0
    clear hb
    obtain ⟨R5, q5, E5, g1, g7, g3, g4⟩ := pr_all tx htx
    have G7 := Lib.hid g1
    have G3 := Lib.hid g3
    have G4 := Lib.hid g4
    clear g1 g3 g4
    go_wp2_with fail
    refine (G3.out _).mono ?_
    rintro e w20 ⟨A7, c7, rfl, hO, hb⟩
    have HB20 := Lib.hid (HB19.out.trans ((hb).mono HB19.out.size))
    have HA20 := Lib.hid (HA19.out.below hb)
    have XA12 := Lib.hid (XA11.out.below hb)
    have XB11 := Lib.hid (XB10.out.below hb)
    have XC6 := Lib.hid (XC5.out.below hb)
    have XD5 := Lib.hid (XD4.out.below hb)
    have XE3 := Lib.hid (XE2.out.below hb)
    have XF2 := Lib.hid (XF1.out.below hb)
    clear HB19 HA19 XA11 XB10 XC5 XD4 XE2 XF1
    have XG0 := Lib.hid (hO.ints)
    clear hb
    clear hO
    go_wp2_with fail
    refine (G4.out _).mono ?_
    rintro e w21 ⟨A8, c8, rfl, hO, hb⟩
    have HB21 := Lib.hid (HB20.out.trans ((hb).mono HB20.out.size))
    have HA21 := Lib.hid (HA20.out.below hb)
    have XA13 := Lib.hid (XA12.out.below hb)
    have XB12 := Lib.hid (XB11.out.below hb)
    have XC7 := Lib.hid (XC6.out.below hb)
    have XD6 := Lib.hid (XD5.out.below hb)
    have XE4 := Lib.hid (XE3.out.below hb)
    have XF3 := Lib.hid (XF2.out.below hb)
    have XG1 := Lib.hid (XG0.out.below hb)
    clear HB20 HA20 XA12 XB11 XC6 XD5 XE3 XF2 XG0
    have XH0 := Lib.hid (hO.ints)
    clear hb
    clear hO
    clear G3 G4
    go_wp2_with fail
    refine (DrawRingsText_ret A n c _ HN.out HA21.out (fun ad e h => Nat.lt_of_lt_of_le (HL.out ad e h) HB21.out.size)).mono ?_
    rintro e w22 ⟨B6, m6, d6, L6, rfl, hO, hm6, hb⟩
    have HB22 := Lib.hid (HB21.out.trans ((hb).mono HB21.out.size))
    have HA22 := Lib.hid (HA21.out.below hb)
    have XA14 := Lib.hid (XA13.out.below hb)
    have XB13 := Lib.hid (XB12.out.below hb)
    have XC8 := Lib.hid (XC7.out.below hb)
    have XD7 := Lib.hid (XD6.out.below hb)
    have XE5 := Lib.hid (XE4.out.below hb)
    have XF4 := Lib.hid (XF3.out.below hb)
    have XG2 := Lib.hid (XG1.out.below hb)
    have XH1 := Lib.hid (XH0.out.below hb)
    clear HB21 HA21 XA13 XB12 XC7 XD6 XE4 XF3 XG1 XH0
    have WD0 := Lib.hid (hO.ints)
    clear hb
    have HL6 := Lib.hid (Own.len hO)
    clear hO
    clear HA22
    obtain ⟨V6, E6, g3, g4⟩ := tx_all L6 m6 HL6.out hm6
    have G3 := Lib.hid g3
    have G4 := Lib.hid g4
    clear g3 g4
    go_wp2_with fail
    refine (G3.out B6 d6 _ WD0.out).mono ?_
    rintro e w23 ⟨rfl, hb⟩
    have HB23 := Lib.hid (HB22.out.trans ((hb).mono HB22.out.size))
    have XA15 := Lib.hid (XA14.out.below hb)
    have XB14 := Lib.hid (XB13.out.below hb)
    have XC9 := Lib.hid (XC8.out.below hb)
    have XD8 := Lib.hid (XD7.out.below hb)
    have XE6 := Lib.hid (XE5.out.below hb)
    have XF5 := Lib.hid (XF4.out.below hb)
    have XG3 := Lib.hid (XG2.out.below hb)
    have XH2 := Lib.hid (XH1.out.below hb)
    have WD1 := Lib.hid (WD0.out.below hb)
    clear HB22 XA14 XB13 XC8 XD7 XE5 XF4 XG2 XH1 WD0
    clear hb
    go_wp2_with fail
    refine (G4.out B6 d6 _ WD1.out).mono ?_
    rintro e w24 ⟨rfl, hb⟩
    have HB24 := Lib.hid (HB23.out.trans ((hb).mono HB23.out.size))
    have XA16 := Lib.hid (XA15.out.below hb)
    have XB15 := Lib.hid (XB14.out.below hb)
    have XC10 := Lib.hid (XC9.out.below hb)
    have XD9 := Lib.hid (XD8.out.below hb)
    have XE7 := Lib.hid (XE6.out.below hb)
    have XF6 := Lib.hid (XF5.out.below hb)
    have XG4 := Lib.hid (XG3.out.below hb)
    have XH3 := Lib.hid (XH2.out.below hb)
    have WD2 := Lib.hid (WD1.out.below hb)
    clear HB23 XA15 XB14 XC9 XD8 XE6 XF5 XG3 XH2 WD1
    clear hb
    clear WD2
    clear G3 G4 HL6
    go_wp2_with fail
    refine (likeInts_calls A1 A2 q1 c1 q1 c2 R1 R1 _ G1.out G1.out g2 g2 XA16.out XB15.out).mono ?_
    rintro e w25 ⟨rfl, dq, rfl⟩
    rw [show decide (R1 = R1) = true by simp]
    have HB25 := Lib.hid (HB24.out.trans (((belowDraws (Below.refl _ _) dq)).mono HB24.out.size))
    have XA17 := Lib.hid (XA16.out.below (belowDraws (Below.refl _ _) dq))
    have XB16 := Lib.hid (XB15.out.below (belowDraws (Below.refl _ _) dq))
    have XC11 := Lib.hid (XC10.out.below (belowDraws (Below.refl _ _) dq))
    have XD10 := Lib.hid (XD9.out.below (belowDraws (Below.refl _ _) dq))
    have XE8 := Lib.hid (XE7.out.below (belowDraws (Below.refl _ _) dq))
    have XF7 := Lib.hid (XF6.out.below (belowDraws (Below.refl _ _) dq))
    have XG5 := Lib.hid (XG4.out.below (belowDraws (Below.refl _ _) dq))
    have XH4 := Lib.hid (XH3.out.below (belowDraws (Below.refl _ _) dq))
    clear HB24 XA16 XB15 XC10 XD9 XE7 XF6 XG4 XH3
    generalize w24.drewN dq = w25 at *
    clear XA17
    clear XB16
    go_wp2_with fail
    refine (likeInts_calls A3 A4 q3 c3 q3 c4 R3 R3 _ G5.out G5.out g5 g5 XC11.out XD10.out).mono ?_
    rintro e w26 ⟨rfl, dq, rfl⟩
    rw [show decide (R3 = R3) = true by simp]
    have HB26 := Lib.hid (HB25.out.trans (((belowDraws (Below.refl _ _) dq)).mono HB25.out.size))
    have XC12 := Lib.hid (XC11.out.below (belowDraws (Below.refl _ _) dq))
    have XD11 := Lib.hid (XD10.out.below (belowDraws (Below.refl _ _) dq))
    have XE9 := Lib.hid (XE8.out.below (belowDraws (Below.refl _ _) dq))
    have XF8 := Lib.hid (XF7.out.below (belowDraws (Below.refl _ _) dq))
    have XG6 := Lib.hid (XG5.out.below (belowDraws (Below.refl _ _) dq))
    have XH5 := Lib.hid (XH4.out.below (belowDraws (Below.refl _ _) dq))
    clear HB25 XC11 XD10 XE8 XF7 XG5 XH4
    generalize w25.drewN dq = w26 at *
    clear XC12
    clear XD11
    go_wp2_with fail
    refine (likeInts_calls A5 A6 q4 c5 q4 c6 R4 R4 _ G6.out G6.out g6 g6 XE9.out XF8.out).mono ?_
    rintro e w27 ⟨rfl, dq, rfl⟩
    rw [show decide (R4 = R4) = true by simp]
    have HB27 := Lib.hid (HB26.out.trans (((belowDraws (Below.refl _ _) dq)).mono HB26.out.size))
    have XE10 := Lib.hid (XE9.out.below (belowDraws (Below.refl _ _) dq))
    have XF9 := Lib.hid (XF8.out.below (belowDraws (Below.refl _ _) dq))
    have XG7 := Lib.hid (XG6.out.below (belowDraws (Below.refl _ _) dq))
    have XH6 := Lib.hid (XH5.out.below (belowDraws (Below.refl _ _) dq))
    clear HB26 XE9 XF8 XG6 XH5
    generalize w26.drewN dq = w27 at *
    clear XE10
    clear XF9
    go_wp2_with fail
    refine (likeInts_calls A7 A8 q5 c7 q5 c8 R5 R5 _ G7.out G7.out g7 g7 XG7.out XH6.out).mono ?_
    rintro e w28 ⟨rfl, dq, rfl⟩
    rw [show decide (R5 = R5) = true by simp]
    have HB28 := Lib.hid (HB27.out.trans (((belowDraws (Below.refl _ _) dq)).mono HB27.out.size))
    have XG8 := Lib.hid (XG7.out.below (belowDraws (Below.refl _ _) dq))
    have XH7 := Lib.hid (XH6.out.below (belowDraws (Below.refl _ _) dq))
    clear HB27 XG7 XH6
    generalize w27.drewN dq = w28 at *
    clear XG8
    clear XH7
    go_wp2
    go_ret
    exact ⟨rfl, HB28.out⟩
  · obtain ⟨rk, tx0, O, hOl, hrk, g1, g2, g3, g4, g5, g6, g7⟩ := hg
    have C1 := Lib.hid g1
    have C2 := Lib.hid g2
    have C3 := Lib.hid g3
    have C4 := Lib.hid g4
    have C5 := Lib.hid g5
    have C6 := Lib.hid g6
    have C7 := Lib.hid g7
    have HO := Lib.hid hOl
    clear g1 g2 g3 g4 g5 g6 g7 hOl HGD
    go_wp2_with fail
    refine (C1.out B0 d0 _ W5.out).mono ?_
    rintro e w7 ⟨rfl, hb⟩
    have HB7 := Lib.hid (HB6.out.trans ((hb).mono HB6.out.size))
    have HA7 := Lib.hid (HA6.out.below hb)
    have W6 := Lib.hid (W5.out.below hb)
    have X5 := Lib.hid (X4.out.below hb)
    clear HB6 HA6 W5 X4
    clear hb
    go_wp2_with fail
    refine (C2.out _).mono ?_
    rintro e w8 ⟨D1, k1, rfl, hO, hb⟩
    have HB8 := Lib.hid (HB7.out.trans ((hb).mono HB7.out.size))
    have HA8 := Lib.hid (HA7.out.below hb)
    have W7 := Lib.hid (W6.out.below hb)
    have X6 := Lib.hid (X5.out.below hb)
    clear HB7 HA7 W6 X5
    have U0 := Lib.hid (hO.ints)
    clear hb
    clear hO
    go_wp2_with fail
    refine (C3.out B0 d0 _ W7.out).mono ?_
    rintro e w9 ⟨rfl, hb⟩
    have HB9 := Lib.hid (HB8.out.trans ((hb).mono HB8.out.size))
    have HA9 := Lib.hid (HA8.out.below hb)
    have W8 := Lib.hid (W7.out.below hb)
    have X7 := Lib.hid (X6.out.below hb)
    have U1 := Lib.hid (U0.out.below hb)
    clear HB8 HA8 W7 X6 U0
    clear hb
    go_wp2_with fail
    refine (C4.out _).mono ?_
    rintro e w10 ⟨D2, k2, rfl, hO, hb⟩
    have HB10 := Lib.hid (HB9.out.trans ((hb).mono HB9.out.size))
    have HA10 := Lib.hid (HA9.out.below hb)
    have W9 := Lib.hid (W8.out.below hb)
    have X8 := Lib.hid (X7.out.below hb)
    have U2 := Lib.hid (U1.out.below hb)
    clear HB9 HA9 W8 X7 U1
    have V0 := Lib.hid (hO.ints)
    clear hb
    clear hO
    go_wp2_with fail
    refine (C5.out B0 d0 _ W9.out).mono ?_
    rintro e w11 ⟨D3, k3, dd, rfl, hO, hb⟩
    have HB11 := Lib.hid (HB10.out.trans ((hb).mono HB10.out.size))
    have HA11 := Lib.hid (HA10.out.below hb)
    have W10 := Lib.hid (W9.out.below hb)
    have X9 := Lib.hid (X8.out.below hb)
    have U3 := Lib.hid (U2.out.below hb)
    have V1 := Lib.hid (V0.out.below hb)
    clear HB10 HA10 W9 X8 U2 V0
    have OO0 := Lib.hid (hO.ints)
    clear hb
    clear hO
    go_wp2_with fail
    refine (C6.out D3 k3 _ OO0.out).mono ?_
    rintro e w12 ⟨D4, k4, dd, rfl, hO, hb⟩
    have HB12 := Lib.hid (HB11.out.trans ((hb).mono HB11.out.size))
    have HA12 := Lib.hid (HA11.out.below hb)
    have W11 := Lib.hid (W10.out.below hb)
    have X10 := Lib.hid (X9.out.below hb)
    have U4 := Lib.hid (U3.out.below hb)
    have V2 := Lib.hid (V1.out.below hb)
    have OO1 := Lib.hid (OO0.out.below hb)
    clear HB11 HA11 W10 X9 U3 V1 OO0
    have Z0 := Lib.hid (hO.ints)
    clear hb
    clear hO
    clear OO1
    go_wp2_with fail
    refine (likeInts_calls D1 B0 m k1 m d0 L L _ HLL.out HLL.out (by omega) (by omega) U4.out W11.out).mono ?_
    rintro e w13 ⟨rfl, dq, rfl⟩
    rw [show decide (L = L) = true by simp]
    have HB13 := Lib.hid (HB12.out.trans (((belowDraws (Below.refl _ _) dq)).mono HB12.out.size))
    have HA13 := Lib.hid (HA12.out.below (belowDraws (Below.refl _ _) dq))
    have W12 := Lib.hid (W11.out.below (belowDraws (Below.refl _ _) dq))
    have X11 := Lib.hid (X10.out.below (belowDraws (Below.refl _ _) dq))
    have U5 := Lib.hid (U4.out.below (belowDraws (Below.refl _ _) dq))
    have V3 := Lib.hid (V2.out.below (belowDraws (Below.refl _ _) dq))
    have Z1 := Lib.hid (Z0.out.below (belowDraws (Below.refl _ _) dq))
    clear HB12 HA12 W11 X10 U4 V2 Z0
    generalize w12.drewN dq = w13 at *
    clear U5
    go_wp2_with fail
    refine (likeInts_calls D2 B0 m k2 m d0 L L _ HLL.out HLL.out (by omega) (by omega) V3.out W12.out).mono ?_
    rintro e w14 ⟨rfl, dq, rfl⟩
    rw [show decide (L = L) = true by simp]
    have HB14 := Lib.hid (HB13.out.trans (((belowDraws (Below.refl _ _) dq)).mono HB13.out.size))
    have HA14 := Lib.hid (HA13.out.below (belowDraws (Below.refl _ _) dq))
    have W13 := Lib.hid (W12.out.below (belowDraws (Below.refl _ _) dq))
    have X12 := Lib.hid (X11.out.below (belowDraws (Below.refl _ _) dq))
    have V4 := Lib.hid (V3.out.below (belowDraws (Below.refl _ _) dq))
    have Z2 := Lib.hid (Z1.out.below (belowDraws (Below.refl _ _) dq))
    clear HB13 HA13 W12 X11 V3 Z1
    generalize w13.drewN dq = w14 at *
    clear V4
    go_wp2_with fail
    refine (likeInts_calls D4 B0 m k4 m d0 L L _ HLL.out HLL.out (by omega) (by omega) Z2.out W13.out).mono ?_
    rintro e w15 ⟨rfl, dq, rfl⟩
    rw [show decide (L = L) = true by simp]
    have HB15 := Lib.hid (HB14.out.trans (((belowDraws (Below.refl _ _) dq)).mono HB14.out.size))
    have HA15 := Lib.hid (HA14.out.below (belowDraws (Below.refl _ _) dq))
    have W14 := Lib.hid (W13.out.below (belowDraws (Below.refl _ _) dq))
    have X13 := Lib.hid (X12.out.below (belowDraws (Below.refl _ _) dq))
    have Z3 := Lib.hid (Z2.out.below (belowDraws (Below.refl _ _) dq))
    clear HB14 HA14 W13 X12 Z2
    generalize w14.drewN dq = w15 at *
    clear Z3
    clear C1 C2 C3 C4 C5 C6 HO
    have hq2 : ¬ (2 : Int) < (q : Int) := by omega
    go_wp2
    go_loopw [20] (fun i wr => ∃ j : Nat, j ≤ q ∧ i = .int .i64 j ∧ Below w15.heap.size w15 wr) (fun i _ => q - (intOf i).toNat)
    case atStart => exact ⟨0, Nat.zero_le _, rfl, Below.refl _ _⟩
    case round =>
      obtain ⟨j, hj, rfl, hbl⟩ := hrel
      have HB16 := Lib.hid (HB15.out.trans ((hbl).mono HB15.out.size))
      have HA16 := Lib.hid (HA15.out.below hbl)
      have W15 := Lib.hid (W14.out.below hbl)
      have X14 := Lib.hid (X13.out.below hbl)
      clear HB15 HA15 W14 X13
      have LB0 := Lib.hid (hbl)
      clear hbl
      by_cases hjl : j < q
      · have hi0 : (0 : Int) ≤ (j : Int) := by omega
        have hi1 : (j : Int) < (q : Int) := by omega
        obtain ⟨M, r2, hMl, g1, g2, g3⟩ := C7.out j hjl
        have HM := Lib.hid hMl
        have F1 := Lib.hid g1
        have F2 := Lib.hid g2
        have F3 := Lib.hid g3
        clear g1 g2 g3 hMl
        obtain ⟨ad, rfl, _, hcell⟩ := X14.out j (by rw [HR.out]; exact hjl)
        generalize R.getD j 0 = rj at *
        go_wp2_with fail
        refine (F1.out B0 d0 _ W15.out).mono ?_
        rintro e w16 ⟨D5, k5, dd, rfl, hO, hb⟩
        have HB17 := Lib.hid (HB16.out.trans ((hb).mono HB16.out.size))
        have HA17 := Lib.hid (HA16.out.below hb)
        have W16 := Lib.hid (W15.out.below hb)
        have X15 := Lib.hid (X14.out.below hb)
        have LB1 := Lib.hid (LB0.out.trans ((hb).mono LB0.out.size))
        clear HB16 HA16 W15 X14 LB0
        have N0 := Lib.hid (hO.ints)
        clear hb
        clear hO
        clear hcell
        go_wp2_with fail
        refine (F2.out D5 k5 _ N0.out).mono ?_
        rintro e w17 ⟨rfl, hb⟩
        have HB18 := Lib.hid (HB17.out.trans ((hb).mono HB17.out.size))
        have HA18 := Lib.hid (HA17.out.below hb)
        have W17 := Lib.hid (W16.out.below hb)
        have X16 := Lib.hid (X15.out.below hb)
        have LB2 := Lib.hid (LB1.out.trans ((hb).mono LB1.out.size))
        have N1 := Lib.hid (N0.out.below hb)
        clear HB17 HA17 W16 X15 LB1 N0
        clear hb
        clear N1
        rcases F3.out with rfl | rfl
        · have hw1 : IntKind.i64.wrap (rk + 1) = rk + 1 := IntWalk.i64_in _ (by omega)
          have hw2 : IntKind.i64.wrap (rk - 1) = rk - 1 := IntWalk.i64_in _ (by omega)
          have hne : ((rk - 1) != (rk + 1)) = true := by simp; omega
          clear F1 F2 F3
          go_wp2
          go_roundw
          case rel => exact ⟨j + 1, by omega, by go_num, LB2.out⟩
          case measure => simp [intOf]; omega
        · have hw1 : IntKind.i64.wrap (rk + 1) = rk + 1 := IntWalk.i64_in _ (by omega)
          have hw2 : IntKind.i64.wrap (rk - 1) = rk - 1 := IntWalk.i64_in _ (by omega)
          have hne : ((rk - 1) != (rk + 1)) = true := by simp; omega
          clear F1 F2 F3
          go_wp2
          go_roundw
          case rel => exact ⟨j + 1, by omega, by go_num, LB2.out⟩
          case measure => simp [intOf]; omega
      · obtain rfl : j = q := by omega
        clear C7
        clear LB0
        clear X14
        clear W15
        go_wp2_with fail
        refine (DrawChangeRing_ret A n c _ HN.out HA16.out (fun ad e h => Nat.lt_of_lt_of_le (HL.out ad e h) HB16.out.size)).mono ?_
        rintro e w16 ⟨B1, m1, d1, L1, i1, rfl, hO, hm1, hb⟩
        have HB17 := Lib.hid (HB16.out.trans ((hb).mono HB16.out.size))
        have HA17 := Lib.hid (HA16.out.below hb)
        clear HB16 HA16
        have WA0 := Lib.hid (hO.ints)
        clear hb
        have HL1 := Lib.hid (Own.len hO)
        clear hO
        obtain ⟨R1, q1, E1, g1, g2, g3, g4⟩ := cr_all L1 m1 i1 HL1.out hm1
        have G1 := Lib.hid g1
        have G3 := Lib.hid g3
        have G4 := Lib.hid g4
        clear g1 g3 g4
        go_wp2_with fail
        refine (G3.out B1 d1 _ WA0.out).mono ?_
        rintro e w17 ⟨A1, c1, dd, rfl, hO, hb⟩
        have HB18 := Lib.hid (HB17.out.trans ((hb).mono HB17.out.size))
        have HA18 := Lib.hid (HA17.out.below hb)
        have WA1 := Lib.hid (WA0.out.below hb)
        clear HB17 HA17 WA0
        have XA0 := Lib.hid (hO.ints)
        clear hb
        clear hO
        go_wp2_with fail
        refine (G4.out B1 d1 _ WA1.out).mono ?_
        rintro e w18 ⟨A2, c2, rfl, hO, hb⟩
        have HB19 := Lib.hid (HB18.out.trans ((hb).mono HB18.out.size))
        have HA19 := Lib.hid (HA18.out.below hb)
        have WA2 := Lib.hid (WA1.out.below hb)
        have XA1 := Lib.hid (XA0.out.below hb)
        clear HB18 HA18 WA1 XA0
        have XB0 := Lib.hid (hO.ints)
        clear hb
        clear hO
        clear WA2
        clear G3 G4 HL1
        go_wp2_with fail
        refine (DrawRankOfRings_ret A n c _ HN.out HA19.out (fun ad e h => Nat.lt_of_lt_of_le (HL.out ad e h) HB19.out.size)).mono ?_
        rintro e w19 ⟨B2, m2, d2, L2, rfl, hO, hm2, hb⟩
        have HB20 := Lib.hid (HB19.out.trans ((hb).mono HB19.out.size))
        have HA20 := Lib.hid (HA19.out.below hb)
        have XA2 := Lib.hid (XA1.out.below hb)
        have XB1 := Lib.hid (XB0.out.below hb)
        clear HB19 HA19 XA1 XB0
        have WB0 := Lib.hid (hO.ints)
        clear hb
        have HL2 := Lib.hid (Own.len hO)
        clear hO
        obtain ⟨V2, E2, g3, g4⟩ := rk_all L2 m2 HL2.out hm2
        have G3 := Lib.hid g3
        have G4 := Lib.hid g4
        clear g3 g4
        go_wp2_with fail
        refine (G3.out B2 d2 _ WB0.out).mono ?_
        rintro e w20 ⟨rfl, hb⟩
        have HB21 := Lib.hid (HB20.out.trans ((hb).mono HB20.out.size))
        have HA21 := Lib.hid (HA20.out.below hb)
        have XA3 := Lib.hid (XA2.out.below hb)
        have XB2 := Lib.hid (XB1.out.below hb)
        have WB1 := Lib.hid (WB0.out.below hb)
        clear HB20 HA20 XA2 XB1 WB0
        clear hb
        go_wp2_with fail
        refine (G4.out B2 d2 _ WB1.out).mono ?_
        rintro e w21 ⟨rfl, hb⟩
        have HB22 := Lib.hid (HB21.out.trans ((hb).mono HB21.out.size))
        have HA22 := Lib.hid (HA21.out.below hb)
        have XA4 := Lib.hid (XA3.out.below hb)
        have XB3 := Lib.hid (XB2.out.below hb)
        have WB2 := Lib.hid (WB1.out.below hb)
        clear HB21 HA21 XA3 XB2 WB1
        clear hb
        clear WB2
        clear G3 G4 HL2
        go_wp2_with fail
        refine (DrawRingsOfRank_calls A n c _ HN.out HA22.out (fun ad e h => Nat.lt_of_lt_of_le (HL.out ad e h) HB22.out.size)).mono ?_
        rintro e w22 ⟨v1, v2, rfl, hb⟩
        have HB23 := Lib.hid (HB22.out.trans ((hb).mono HB22.out.size))
        have HA23 := Lib.hid (HA22.out.below hb)
        have XA5 := Lib.hid (XA4.out.below hb)
        have XB4 := Lib.hid (XB3.out.below hb)
        clear HB22 HA22 XA4 XB3
        clear hb
        obtain ⟨R3, q3, E3, g1, g5, g3, g4⟩ := ro_all v1 v2
        have G5 := Lib.hid g1
        have G3 := Lib.hid g3
        have G4 := Lib.hid g4
        clear g1 g3 g4
        go_wp2_with fail
        refine (G3.out _).mono ?_
        rintro e w23 ⟨A3, c3, rfl, hO, hb⟩
        have HB24 := Lib.hid (HB23.out.trans ((hb).mono HB23.out.size))
        have HA24 := Lib.hid (HA23.out.below hb)
        have XA6 := Lib.hid (XA5.out.below hb)
        have XB5 := Lib.hid (XB4.out.below hb)
        clear HB23 HA23 XA5 XB4
        have XC0 := Lib.hid (hO.ints)
        clear hb
        clear hO
        go_wp2_with fail
        refine (G4.out _).mono ?_
        rintro e w24 ⟨A4, c4, rfl, hO, hb⟩
        have HB25 := Lib.hid (HB24.out.trans ((hb).mono HB24.out.size))
        have HA25 := Lib.hid (HA24.out.below hb)
        have XA7 := Lib.hid (XA6.out.below hb)
        have XB6 := Lib.hid (XB5.out.below hb)
        have XC1 := Lib.hid (XC0.out.below hb)
        clear HB24 HA24 XA6 XB5 XC0
        have XD0 := Lib.hid (hO.ints)
        clear hb
        clear hO
        clear G3 G4
        go_wp2_with fail
        refine (DrawOppositeRings_ret A n c _ HN.out HA25.out (fun ad e h => Nat.lt_of_lt_of_le (HL.out ad e h) HB25.out.size)).mono ?_
        rintro e w25 ⟨B4, m4, d4, L4, rfl, hO, hm4, hb⟩
        have HB26 := Lib.hid (HB25.out.trans ((hb).mono HB25.out.size))
        have HA26 := Lib.hid (HA25.out.below hb)
        have XA8 := Lib.hid (XA7.out.below hb)
        have XB7 := Lib.hid (XB6.out.below hb)
        have XC2 := Lib.hid (XC1.out.below hb)
        have XD1 := Lib.hid (XD0.out.below hb)
        clear HB25 HA25 XA7 XB6 XC1 XD0
        have WC0 := Lib.hid (hO.ints)
        clear hb
        have HL4 := Lib.hid (Own.len hO)
        clear hO
        obtain ⟨R4, q4, E4, g1, g6, g3, g4⟩ := op_all L4 m4 HL4.out hm4
        have G6 := Lib.hid g1
        have G3 := Lib.hid g3
        have G4 := Lib.hid g4
        clear g1 g3 g4
        go_wp2_with fail
        refine (G3.out B4 d4 _ WC0.out).mono ?_
        rintro e w26 ⟨A5, c5, dd, rfl, hO, hb⟩
        have HB27 := Lib.hid (HB26.out.trans ((hb).mono HB26.out.size))
        have HA27 := Lib.hid (HA26.out.below hb)
        have XA9 := Lib.hid (XA8.out.below hb)
        have XB8 := Lib.hid (XB7.out.below hb)
        have XC3 := Lib.hid (XC2.out.below hb)
        have XD2 := Lib.hid (XD1.out.below hb)
        have WC1 := Lib.hid (WC0.out.below hb)
        clear HB26 HA26 XA8 XB7 XC2 XD1 WC0
        have XE0 := Lib.hid (hO.ints)
        clear hb
        clear hO
        go_wp2_with fail
        refine (G4.out B4 d4 _ WC1.out).mono ?_
        rintro e w27 ⟨A6, c6, rfl, hO, hb⟩
        have HB28 := Lib.hid (HB27.out.trans ((hb).mono HB27.out.size))
        have HA28 := Lib.hid (HA27.out.below hb)
        have XA10 := Lib.hid (XA9.out.below hb)
        have XB9 := Lib.hid (XB8.out.below hb)
        have XC4 := Lib.hid (XC3.out.below hb)
        have XD3 := Lib.hid (XD2.out.below hb)
        have WC2 := Lib.hid (WC1.out.below hb)
        have XE1 := Lib.hid (XE0.out.below hb)
        clear HB27 HA27 XA9 XB8 XC3 XD2 WC1 XE0
        have XF0 := Lib.hid (hO.ints)
        clear hb
        clear hO
        clear WC2
        clear G3 G4 HL4
        go_wp2_with fail
        refine (DrawParseRings_calls A n c _ HN.out HA28.out (fun ad e h => Nat.lt_of_lt_of_le (HL.out ad e h) HB28.out.size)).mono ?_
        rintro e w28 ⟨tx, rfl, htx, hb⟩
        have HB29 := Lib.hid (HB28.out.trans ((hb).mono HB28.out.size))
        have HA29 := Lib.hid (HA28.out.below hb)
        have XA11 := Lib.hid (XA10.out.below hb)
        have XB10 := Lib.hid (XB9.out.below hb)
        have XC5 := Lib.hid (XC4.out.below hb)
        have XD4 := Lib.hid (XD3.out.below hb)
        have XE2 := Lib.hid (XE1.out.below hb)
        have XF1 := Lib.hid (XF0.out.below hb)
        clear HB28 HA28 XA10 XB9 XC4 XD3 XE1 XF0
        clear hb
        obtain ⟨R5, q5, E5, g1, g7, g3, g4⟩ := pr_all tx htx
        have G7 := Lib.hid g1
        have G3 := Lib.hid g3
        have G4 := Lib.hid g4
        clear g1 g3 g4
        go_wp2_with fail
        refine (G3.out _).mono ?_
        rintro e w29 ⟨A7, c7, rfl, hO, hb⟩
        have HB30 := Lib.hid (HB29.out.trans ((hb).mono HB29.out.size))
        have HA30 := Lib.hid (HA29.out.below hb)
        have XA12 := Lib.hid (XA11.out.below hb)
        have XB11 := Lib.hid (XB10.out.below hb)
        have XC6 := Lib.hid (XC5.out.below hb)
        have XD5 := Lib.hid (XD4.out.below hb)
        have XE3 := Lib.hid (XE2.out.below hb)
        have XF2 := Lib.hid (XF1.out.below hb)
        clear HB29 HA29 XA11 XB10 XC5 XD4 XE2 XF1
        have XG0 := Lib.hid (hO.ints)
        clear hb
        clear hO
        go_wp2_with fail
        refine (G4.out _).mono ?_
        rintro e w30 ⟨A8, c8, rfl, hO, hb⟩
        have HB31 := Lib.hid (HB30.out.trans ((hb).mono HB30.out.size))
        have HA31 := Lib.hid (HA30.out.below hb)
        have XA13 := Lib.hid (XA12.out.below hb)
        have XB12 := Lib.hid (XB11.out.below hb)
        have XC7 := Lib.hid (XC6.out.below hb)
        have XD6 := Lib.hid (XD5.out.below hb)
        have XE4 := Lib.hid (XE3.out.below hb)
        have XF3 := Lib.hid (XF2.out.below hb)
        have XG1 := Lib.hid (XG0.out.below hb)
        clear HB30 HA30 XA12 XB11 XC6 XD5 XE3 XF2 XG0
        have XH0 := Lib.hid (hO.ints)
        clear hb
        clear hO
        clear G3 G4
        go_wp2_with fail
        refine (DrawRingsText_ret A n c _ HN.out HA31.out (fun ad e h => Nat.lt_of_lt_of_le (HL.out ad e h) HB31.out.size)).mono ?_
        rintro e w31 ⟨B6, m6, d6, L6, rfl, hO, hm6, hb⟩
        have HB32 := Lib.hid (HB31.out.trans ((hb).mono HB31.out.size))
        have HA32 := Lib.hid (HA31.out.below hb)
        have XA14 := Lib.hid (XA13.out.below hb)
        have XB13 := Lib.hid (XB12.out.below hb)
        have XC8 := Lib.hid (XC7.out.below hb)
        have XD7 := Lib.hid (XD6.out.below hb)
        have XE5 := Lib.hid (XE4.out.below hb)
        have XF4 := Lib.hid (XF3.out.below hb)
        have XG2 := Lib.hid (XG1.out.below hb)
        have XH1 := Lib.hid (XH0.out.below hb)
        clear HB31 HA31 XA13 XB12 XC7 XD6 XE4 XF3 XG1 XH0
        have WD0 := Lib.hid (hO.ints)
        clear hb
        have HL6 := Lib.hid (Own.len hO)
        clear hO
        clear HA32
        obtain ⟨V6, E6, g3, g4⟩ := tx_all L6 m6 HL6.out hm6
        have G3 := Lib.hid g3
        have G4 := Lib.hid g4
        clear g3 g4
        go_wp2_with fail
        refine (G3.out B6 d6 _ WD0.out).mono ?_
        rintro e w32 ⟨rfl, hb⟩
        have HB33 := Lib.hid (HB32.out.trans ((hb).mono HB32.out.size))
        have XA15 := Lib.hid (XA14.out.below hb)
        have XB14 := Lib.hid (XB13.out.below hb)
        have XC9 := Lib.hid (XC8.out.below hb)
        have XD8 := Lib.hid (XD7.out.below hb)
        have XE6 := Lib.hid (XE5.out.below hb)
        have XF5 := Lib.hid (XF4.out.below hb)
        have XG3 := Lib.hid (XG2.out.below hb)
        have XH2 := Lib.hid (XH1.out.below hb)
        have WD1 := Lib.hid (WD0.out.below hb)
        clear HB32 XA14 XB13 XC8 XD7 XE5 XF4 XG2 XH1 WD0
        clear hb
        go_wp2_with fail
        refine (G4.out B6 d6 _ WD1.out).mono ?_
        rintro e w33 ⟨rfl, hb⟩
        have HB34 := Lib.hid (HB33.out.trans ((hb).mono HB33.out.size))
        have XA16 := Lib.hid (XA15.out.below hb)
        have XB15 := Lib.hid (XB14.out.below hb)
        have XC10 := Lib.hid (XC9.out.below hb)
        have XD9 := Lib.hid (XD8.out.below hb)
        have XE7 := Lib.hid (XE6.out.below hb)
        have XF6 := Lib.hid (XF5.out.below hb)
        have XG4 := Lib.hid (XG3.out.below hb)
        have XH3 := Lib.hid (XH2.out.below hb)
        have WD2 := Lib.hid (WD1.out.below hb)
        clear HB33 XA15 XB14 XC9 XD8 XE6 XF5 XG3 XH2 WD1
        clear hb
        clear WD2
        clear G3 G4 HL6
        go_wp2_with fail
        refine (likeInts_calls A1 A2 q1 c1 q1 c2 R1 R1 _ G1.out G1.out g2 g2 XA16.out XB15.out).mono ?_
        rintro e w34 ⟨rfl, dq, rfl⟩
        rw [show decide (R1 = R1) = true by simp]
        have HB35 := Lib.hid (HB34.out.trans (((belowDraws (Below.refl _ _) dq)).mono HB34.out.size))
        have XA17 := Lib.hid (XA16.out.below (belowDraws (Below.refl _ _) dq))
        have XB16 := Lib.hid (XB15.out.below (belowDraws (Below.refl _ _) dq))
        have XC11 := Lib.hid (XC10.out.below (belowDraws (Below.refl _ _) dq))
        have XD10 := Lib.hid (XD9.out.below (belowDraws (Below.refl _ _) dq))
        have XE8 := Lib.hid (XE7.out.below (belowDraws (Below.refl _ _) dq))
        have XF7 := Lib.hid (XF6.out.below (belowDraws (Below.refl _ _) dq))
        have XG5 := Lib.hid (XG4.out.below (belowDraws (Below.refl _ _) dq))
        have XH4 := Lib.hid (XH3.out.below (belowDraws (Below.refl _ _) dq))
        clear HB34 XA16 XB15 XC10 XD9 XE7 XF6 XG4 XH3
        generalize w33.drewN dq = w34 at *
        clear XA17
        clear XB16
        go_wp2_with fail
        refine (likeInts_calls A3 A4 q3 c3 q3 c4 R3 R3 _ G5.out G5.out g5 g5 XC11.out XD10.out).mono ?_
        rintro e w35 ⟨rfl, dq, rfl⟩
        rw [show decide (R3 = R3) = true by simp]
        have HB36 := Lib.hid (HB35.out.trans (((belowDraws (Below.refl _ _) dq)).mono HB35.out.size))
        have XC12 := Lib.hid (XC11.out.below (belowDraws (Below.refl _ _) dq))
        have XD11 := Lib.hid (XD10.out.below (belowDraws (Below.refl _ _) dq))
        have XE9 := Lib.hid (XE8.out.below (belowDraws (Below.refl _ _) dq))
        have XF8 := Lib.hid (XF7.out.below (belowDraws (Below.refl _ _) dq))
        have XG6 := Lib.hid (XG5.out.below (belowDraws (Below.refl _ _) dq))
        have XH5 := Lib.hid (XH4.out.below (belowDraws (Below.refl _ _) dq))
        clear HB35 XC11 XD10 XE8 XF7 XG5 XH4
        generalize w34.drewN dq = w35 at *
        clear XC12
        clear XD11
        go_wp2_with fail
        refine (likeInts_calls A5 A6 q4 c5 q4 c6 R4 R4 _ G6.out G6.out g6 g6 XE9.out XF8.out).mono ?_
        rintro e w36 ⟨rfl, dq, rfl⟩
        rw [show decide (R4 = R4) = true by simp]
        have HB37 := Lib.hid (HB36.out.trans (((belowDraws (Below.refl _ _) dq)).mono HB36.out.size))
        have XE10 := Lib.hid (XE9.out.below (belowDraws (Below.refl _ _) dq))
        have XF9 := Lib.hid (XF8.out.below (belowDraws (Below.refl _ _) dq))
        have XG7 := Lib.hid (XG6.out.below (belowDraws (Below.refl _ _) dq))
        have XH6 := Lib.hid (XH5.out.below (belowDraws (Below.refl _ _) dq))
        clear HB36 XE9 XF8 XG6 XH5
        generalize w35.drewN dq = w36 at *
        clear XE10
        clear XF9
        go_wp2_with fail
        refine (likeInts_calls A7 A8 q5 c7 q5 c8 R5 R5 _ G7.out G7.out g7 g7 XG7.out XH6.out).mono ?_
        rintro e w37 ⟨rfl, dq, rfl⟩
        rw [show decide (R5 = R5) = true by simp]
        have HB38 := Lib.hid (HB37.out.trans (((belowDraws (Below.refl _ _) dq)).mono HB37.out.size))
        have XG8 := Lib.hid (XG7.out.below (belowDraws (Below.refl _ _) dq))
        have XH7 := Lib.hid (XH6.out.below (belowDraws (Below.refl _ _) dq))
        clear HB37 XG7 XH6
        generalize w36.drewN dq = w37 at *
        clear XG8
        clear XH7
        go_wp2
        go_ret
        exact ⟨rfl, HB38.out⟩

end Go.Proofs.Ytfdjlgpdbgmdkab
