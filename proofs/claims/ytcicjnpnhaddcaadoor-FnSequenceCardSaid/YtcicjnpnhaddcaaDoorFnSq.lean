/- Contracts: the walk of the great law FnSequence, of a code of at most 4096 bytes. -/
import Derived.Test.YtcicjnpnhaddcaaDoorSqA
import Derived.Test.YtcicjnpnhaddcaaDoorDrawSq
import Derived.Test.YtcicjnpnhaddcaaDoorGreatM
import Derived.BigQuiet
namespace Go.Proofs.YtcicjnpnhaddcaaDoor
open Go.RowKit
set_option linter.unusedVariables false

set_option maxRecDepth 100000 in
set_option maxHeartbeats 40000000 in
theorem fnSequence_core (A : Option Addr) (n c : Nat) (w : World) (hn : n ≤ 4096) (hA : By w A n) (hl : ∀ ad, A = some ad → 0 < n → ad.block < w.heap.size) (hT : Tab w) :
    Calls Tryd.prog 3 #[.slice A n c] w fun e w' => e = .returned (.bool true) ∧ Below w.heap.size w w' := by
  have HN := Lib.hid hn
  have HA0 := Lib.hid hA
  have HL := Lib.hid hl
  have HT0 := Lib.hid hT
  have HB0 := Lib.hid (Below.refl w.heap.size w)
  clear hn hA hl hT
  go_enter Tryd.func3, Tryd.ntmps3
  go_wp2_with fail
  refine (big_no A n c _ HN.out).mono ?_
  rintro e w0 ⟨rfl, rfl⟩
  go_wp2_with fail
  refine (DrawStateAt_calls A n c _ HN.out HA0.out HL.out).mono ?_
  rintro e w1 ⟨t, nn, rfl, hb⟩
  have HB1 := Lib.hid (HB0.out.trans ((hb).mono HB0.out.size))
  have HA1 := Lib.hid (HA0.out.below hb)
  have HT1 := Lib.hid (HT0.out.below hb)
  clear HB0 HA0 HT0
  clear hb
  obtain ⟨P, E, L, d1, d2, hl8, hst⟩ := st_all t nn
  obtain ⟨ln, hln⟩ : ∃ k, Hid (L.length = k) := ⟨_, Lib.hid rfl⟩
  rw [hln.out] at d1 d2 hl8 hst
  have C1 := Lib.hid d1
  have C2 := Lib.hid d2
  have HST := Lib.hid hst
  clear d1 d2 hst
  go_wp2_with fail
  refine (C1.out _).mono ?_
  rintro e w2 ⟨A5, c5, rfl, hO, hb⟩
  have HB2 := Lib.hid (HB1.out.trans ((hb).mono HB1.out.size))
  have HA2 := Lib.hid (HA1.out.below hb)
  have HT2 := Lib.hid (HT1.out.below hb)
  clear HB1 HA1 HT1
  have O0 := Lib.hid (hO.ints)
  clear hb
  clear hO
  have hal : Below w2.heap.size w2 (w2.alloc (.cells #[.int .i64 P, .slice A5 ln c5] 28)) := (Below.refl _ _).alloc (Nat.le_refl _) _
  have hbx := Box.new w2 28 #[.int .i64 P, .slice A5 ln c5]
  have HB3 := Lib.hid (HB2.out.trans ((hal).mono HB2.out.size))
  have HA3 := Lib.hid (HA2.out.below hal)
  have HT3 := Lib.hid (HT2.out.below hal)
  have O1 := Lib.hid (O0.out.below hal)
  clear HB2 HA2 HT2 O0
  have X0 := Lib.hid (hbx)
  clear hal hbx
  go_wp2_with fail
  generalize hWx : w2.alloc (.cells #[.int .i64 P, .slice A5 ln c5] 28) = WX at *
  clear hWx
  generalize w2.heap.size = bX at *
  refine (C2.out _).mono ?_
  rintro e w3 ⟨A7, c7, rfl, hO, hb⟩
  have HB4 := Lib.hid (HB3.out.trans ((hb).mono HB3.out.size))
  have HA4 := Lib.hid (HA3.out.below hb)
  have HT4 := Lib.hid (HT3.out.below hb)
  have O2 := Lib.hid (O1.out.below hb)
  have X1 := Lib.hid (X0.out.below hb X0.out.lt)
  clear HB3 HA3 HT3 O1 X0
  have Q0 := Lib.hid (hO.ints)
  clear hb
  clear hO
  have hal : Below w3.heap.size w3 (w3.alloc (.cells #[.int .i64 P, .slice A7 ln c7] 28)) := (Below.refl _ _).alloc (Nat.le_refl _) _
  have hbx := Box.new w3 28 #[.int .i64 P, .slice A7 ln c7]
  have HB5 := Lib.hid (HB4.out.trans ((hal).mono HB4.out.size))
  have HA5 := Lib.hid (HA4.out.below hal)
  have HT5 := Lib.hid (HT4.out.below hal)
  have O3 := Lib.hid (O2.out.below hal)
  have X2 := Lib.hid (X1.out.below hal X1.out.lt)
  have Q1 := Lib.hid (Q0.out.below hal)
  clear HB4 HA4 HT4 O2 X1 Q0
  have Y0 := Lib.hid (hbx)
  clear hal hbx
  obtain ⟨x0, x1, _, _⟩ := X2.out.two
  obtain ⟨y0, y1, _, _⟩ := Y0.out.two
  go_wp2_with fail
  generalize hWx : w3.alloc (.cells #[.int .i64 P, .slice A7 ln c7] 28) = WY at *
  clear hWx
  generalize w3.heap.size = bY at *
  refine (state9_same A5 A7 ln c5 c7 P L _ hln.out (by omega) O3.out Q1.out).mono ?_
  rintro e w4 ⟨rfl, hb⟩
  have HB6 := Lib.hid (HB5.out.trans ((hb).mono HB5.out.size))
  have HA6 := Lib.hid (HA5.out.below hb)
  have HT6 := Lib.hid (HT5.out.below hb)
  have O4 := Lib.hid (O3.out.below hb)
  have X3 := Lib.hid (X2.out.below hb X2.out.lt)
  have Q2 := Lib.hid (Q1.out.below hb)
  have Y1 := Lib.hid (Y0.out.below hb Y0.out.lt)
  clear HB5 HA5 HT5 O3 X2 Q1 Y0
  clear hb
  clear x0 x1 y0 y1 C1 C2
  clear Q2
  clear Y1
  go_wp2_with fail
  refine (DrawTimeOf_ret A n c _ HN.out HA6.out (fun ad e h => Nat.lt_of_lt_of_le (HL.out ad e h) HB6.out.size)).mono ?_
  rintro e w5 ⟨p, A9, m9, c9, Lx, rfl, hO, hm9, hb⟩
  have HB7 := Lib.hid (HB6.out.trans ((hb).mono HB6.out.size))
  have HA7 := Lib.hid (HA6.out.below hb)
  have HT7 := Lib.hid (HT6.out.below hb)
  have O5 := Lib.hid (O4.out.below hb)
  have X4 := Lib.hid (X3.out.below hb X3.out.lt)
  clear HB6 HA6 HT6 O4 X3
  have R0 := Lib.hid (hO.ints)
  clear hb
  have hlx := Own.len hO
  subst hlx
  clear hO
  have hal : Below w5.heap.size w5 (w5.alloc (.cells #[.int .i64 p, .slice A9 Lx.length c9] 28)) := (Below.refl _ _).alloc (Nat.le_refl _) _
  have hbx := Box.new w5 28 #[.int .i64 p, .slice A9 Lx.length c9]
  have HB8 := Lib.hid (HB7.out.trans ((hal).mono HB7.out.size))
  have HA8 := Lib.hid (HA7.out.below hal)
  have HT8 := Lib.hid (HT7.out.below hal)
  have O6 := Lib.hid (O5.out.below hal)
  have X5 := Lib.hid (X4.out.below hal X4.out.lt)
  have R1 := Lib.hid (R0.out.below hal)
  clear HB7 HA7 HT7 O5 X4 R0
  have Z0 := Lib.hid (hbx)
  clear hal hbx
  obtain ⟨V, E2, d1, d2, htm⟩ := tm_all p Lx (by omega)
  have C1 := Lib.hid d1
  have C2 := Lib.hid d2
  have HTM := Lib.hid htm
  clear d1 d2 htm
  obtain ⟨z0, z1, _, _⟩ := Z0.out.two
  go_wp2_with fail
  generalize hWx : w5.alloc (.cells #[.int .i64 p, .slice A9 Lx.length c9] 28) = WZ at *
  clear hWx
  generalize w5.heap.size = bZ at *
  refine (C1.out A9 c9 _ R1.out).mono ?_
  rintro e w6 ⟨rfl, hb⟩
  have HB9 := Lib.hid (HB8.out.trans ((hb).mono HB8.out.size))
  have HA9 := Lib.hid (HA8.out.below hb)
  have HT9 := Lib.hid (HT8.out.below hb)
  have O7 := Lib.hid (O6.out.below hb)
  have X6 := Lib.hid (X5.out.below hb X5.out.lt)
  have R2 := Lib.hid (R1.out.below hb)
  have Z1 := Lib.hid (Z0.out.below hb Z0.out.lt)
  clear HB8 HA8 HT8 O6 X5 R1 Z0
  clear hb
  clear z0 z1
  obtain ⟨z0, z1, _, _⟩ := Z1.out.two
  go_wp2_with fail
  refine (C2.out A9 c9 _ R2.out).mono ?_
  rintro e w7 ⟨rfl, hb⟩
  have HB10 := Lib.hid (HB9.out.trans ((hb).mono HB9.out.size))
  have HA10 := Lib.hid (HA9.out.below hb)
  have HT10 := Lib.hid (HT9.out.below hb)
  have O8 := Lib.hid (O7.out.below hb)
  have X7 := Lib.hid (X6.out.below hb X6.out.lt)
  have R3 := Lib.hid (R2.out.below hb)
  have Z2 := Lib.hid (Z1.out.below hb Z1.out.lt)
  clear HB9 HA9 HT9 O7 X6 R2 Z1
  clear hb
  clear z0 z1 C1 C2
  go_wp2_with fail
  refine (DrawMoveAt_calls A n c _ HN.out HA10.out (fun ad e h => Nat.lt_of_lt_of_le (HL.out ad e h) HB10.out.size)).mono ?_
  rintro e w8 ⟨u, rfl, hb⟩
  have HB11 := Lib.hid (HB10.out.trans ((hb).mono HB10.out.size))
  have HA11 := Lib.hid (HA10.out.below hb)
  have HT11 := Lib.hid (HT10.out.below hb)
  have O9 := Lib.hid (O8.out.below hb)
  have X8 := Lib.hid (X7.out.below hb X7.out.lt)
  have R4 := Lib.hid (R3.out.below hb)
  have Z3 := Lib.hid (Z2.out.below hb Z2.out.lt)
  clear HB10 HA10 HT10 O8 X7 R3 Z2
  clear hb
  obtain ⟨m1, m2, m3, d, E3, E4, d1, d2, d3, d4, hmv⟩ := mv_all u
  have C1 := Lib.hid d1
  have C2 := Lib.hid d2
  have C3 := Lib.hid d3
  have C4 := Lib.hid d4
  have HMV := Lib.hid hmv
  clear d1 d2 d3 d4 hmv
  go_wp2_with fail
  refine (C1.out _ HT11.out).mono ?_
  rintro e w9 ⟨rfl, hb⟩
  have HB12 := Lib.hid (HB11.out.trans ((hb).mono HB11.out.size))
  have HA12 := Lib.hid (HA11.out.below hb)
  have HT12 := Lib.hid (HT11.out.below hb)
  have O10 := Lib.hid (O9.out.below hb)
  have X9 := Lib.hid (X8.out.below hb X8.out.lt)
  have R5 := Lib.hid (R4.out.below hb)
  have Z4 := Lib.hid (Z3.out.below hb Z3.out.lt)
  clear HB11 HA11 HT11 O9 X8 R4 Z3
  clear hb
  have hal : Below w9.heap.size w9 (w9.alloc (.cells #[.int .i64 m1, .int .i64 m2, .int .i64 m3] 36)) := (Below.refl _ _).alloc (Nat.le_refl _) _
  have hbx := Box.new w9 36 #[.int .i64 m1, .int .i64 m2, .int .i64 m3]
  have HB13 := Lib.hid (HB12.out.trans ((hal).mono HB12.out.size))
  have HA13 := Lib.hid (HA12.out.below hal)
  have HT13 := Lib.hid (HT12.out.below hal)
  have O11 := Lib.hid (O10.out.below hal)
  have X10 := Lib.hid (X9.out.below hal X9.out.lt)
  have R6 := Lib.hid (R5.out.below hal)
  have Z5 := Lib.hid (Z4.out.below hal Z4.out.lt)
  clear HB12 HA12 HT12 O10 X9 R5 Z4
  have M0 := Lib.hid (hbx)
  clear hal hbx
  go_wp2_with fail
  generalize hWx : w9.alloc (.cells #[.int .i64 m1, .int .i64 m2, .int .i64 m3] 36) = WM at *
  clear hWx
  generalize w9.heap.size = bM at *
  refine (C2.out _).mono ?_
  rintro e w10 ⟨rfl, hb⟩
  have HB14 := Lib.hid (HB13.out.trans ((hb).mono HB13.out.size))
  have HA14 := Lib.hid (HA13.out.below hb)
  have HT14 := Lib.hid (HT13.out.below hb)
  have O12 := Lib.hid (O11.out.below hb)
  have X11 := Lib.hid (X10.out.below hb X10.out.lt)
  have R7 := Lib.hid (R6.out.below hb)
  have Z6 := Lib.hid (Z5.out.below hb Z5.out.lt)
  have M1 := Lib.hid (M0.out.below hb M0.out.lt)
  clear HB13 HA13 HT13 O11 X10 R6 Z5 M0
  clear hb
  have hal : Below w10.heap.size w10 (w10.alloc (.cells #[.int .i64 m1, .int .i64 m2, .int .i64 m3] 36)) := (Below.refl _ _).alloc (Nat.le_refl _) _
  have hbx := Box.new w10 36 #[.int .i64 m1, .int .i64 m2, .int .i64 m3]
  have HB15 := Lib.hid (HB14.out.trans ((hal).mono HB14.out.size))
  have HA15 := Lib.hid (HA14.out.below hal)
  have HT15 := Lib.hid (HT14.out.below hal)
  have O13 := Lib.hid (O12.out.below hal)
  have X12 := Lib.hid (X11.out.below hal X11.out.lt)
  have R8 := Lib.hid (R7.out.below hal)
  have Z7 := Lib.hid (Z6.out.below hal Z6.out.lt)
  have M2 := Lib.hid (M1.out.below hal M1.out.lt)
  clear HB14 HA14 HT14 O12 X11 R7 Z6 M1
  have N0 := Lib.hid (hbx)
  clear hal hbx
  obtain ⟨x0, x1, x2⟩ := M2.out.three
  obtain ⟨y0, y1, y2⟩ := N0.out.three
  have heq := move_same m1 m2 m3
  go_wp2_with fail
  generalize hWx : w10.alloc (.cells #[.int .i64 m1, .int .i64 m2, .int .i64 m3] 36) = WN at *
  clear hWx
  generalize w10.heap.size = bN at *
  refine (C3.out _ HT15.out).mono ?_
  rintro e w11 ⟨rfl, hb⟩
  have HB16 := Lib.hid (HB15.out.trans ((hb).mono HB15.out.size))
  have HA16 := Lib.hid (HA15.out.below hb)
  have HT16 := Lib.hid (HT15.out.below hb)
  have O14 := Lib.hid (O13.out.below hb)
  have X13 := Lib.hid (X12.out.below hb X12.out.lt)
  have R9 := Lib.hid (R8.out.below hb)
  have Z8 := Lib.hid (Z7.out.below hb Z7.out.lt)
  have M3 := Lib.hid (M2.out.below hb M2.out.lt)
  have N1 := Lib.hid (N0.out.below hb N0.out.lt)
  clear HB15 HA15 HT15 O13 X12 R8 Z7 M2 N0
  clear hb
  clear x0 x1 x2 y0 y1 y2 heq
  clear N1
  go_wp2_with fail
  refine (C4.out _).mono ?_
  rintro e w12 ⟨rfl, hb⟩
  have HB17 := Lib.hid (HB16.out.trans ((hb).mono HB16.out.size))
  have HA17 := Lib.hid (HA16.out.below hb)
  have HT17 := Lib.hid (HT16.out.below hb)
  have O15 := Lib.hid (O14.out.below hb)
  have X14 := Lib.hid (X13.out.below hb X13.out.lt)
  have R10 := Lib.hid (R9.out.below hb)
  have Z9 := Lib.hid (Z8.out.below hb Z8.out.lt)
  have M4 := Lib.hid (M3.out.below hb M3.out.lt)
  clear HB16 HA16 HT16 O14 X13 R9 Z8 M3
  clear hb
  clear C1 C2 C3 C4
  go_wp2_with fail
  refine (DrawMovesByTurns_calls A n c _ HN.out HA17.out (fun ad e h => Nat.lt_of_lt_of_le (HL.out ad e h) HB17.out.size)).mono ?_
  rintro e w13 ⟨m, rfl, hb⟩
  have HB18 := Lib.hid (HB17.out.trans ((hb).mono HB17.out.size))
  have HA18 := Lib.hid (HA17.out.below hb)
  have HT18 := Lib.hid (HT17.out.below hb)
  have O16 := Lib.hid (O15.out.below hb)
  have X15 := Lib.hid (X14.out.below hb X14.out.lt)
  have R11 := Lib.hid (R10.out.below hb)
  have Z10 := Lib.hid (Z9.out.below hb Z9.out.lt)
  have M5 := Lib.hid (M4.out.below hb M4.out.lt)
  clear HB17 HA17 HT17 O15 X14 R10 Z9 M4
  clear hb
  obtain ⟨MM, E5, d1, d2, hmm, htu⟩ := tu_all m
  obtain ⟨lm, hlm⟩ : ∃ k, Hid (MM.length = k) := ⟨_, Lib.hid rfl⟩
  rw [hlm.out] at d1 d2 hmm htu
  have C1 := Lib.hid d1
  have C2 := Lib.hid d2
  have HTU := Lib.hid htu
  clear d1 d2 htu
  go_wp2_with fail
  refine (C1.out _).mono ?_
  rintro e w14 ⟨A6, c6, rfl, hO, hb⟩
  have HB19 := Lib.hid (HB18.out.trans ((hb).mono HB18.out.size))
  have HA19 := Lib.hid (HA18.out.below hb)
  have HT19 := Lib.hid (HT18.out.below hb)
  have O17 := Lib.hid (O16.out.below hb)
  have X16 := Lib.hid (X15.out.below hb X15.out.lt)
  have R12 := Lib.hid (R11.out.below hb)
  have Z11 := Lib.hid (Z10.out.below hb Z10.out.lt)
  have M6 := Lib.hid (M5.out.below hb M5.out.lt)
  clear HB18 HA18 HT18 O16 X15 R11 Z10 M5
  have U0 := Lib.hid (hO.mvs)
  clear hb
  clear hO
  go_wp2_with fail
  refine (C2.out _).mono ?_
  rintro e w15 ⟨A8, c8, rfl, hO, hb⟩
  have HB20 := Lib.hid (HB19.out.trans ((hb).mono HB19.out.size))
  have HA20 := Lib.hid (HA19.out.below hb)
  have HT20 := Lib.hid (HT19.out.below hb)
  have O18 := Lib.hid (O17.out.below hb)
  have X17 := Lib.hid (X16.out.below hb X16.out.lt)
  have R13 := Lib.hid (R12.out.below hb)
  have Z12 := Lib.hid (Z11.out.below hb Z11.out.lt)
  have M7 := Lib.hid (M6.out.below hb M6.out.lt)
  have U1 := Lib.hid (U0.out.below hb)
  clear HB19 HA19 HT19 O17 X16 R12 Z11 M6 U0
  have UU0 := Lib.hid (hO.mvs)
  clear hb
  clear hO
  go_wp2_with fail
  refine (moves9_same A6 A8 lm c6 c8 MM _ hlm.out (by omega) U1.out UU0.out).mono ?_
  rintro e w16 ⟨rfl, dd, rfl⟩
  have HB21 := Lib.hid (HB20.out.trans (((belowDraws (Below.refl _ _) dd)).mono HB20.out.size))
  have HA21 := Lib.hid (HA20.out.below (belowDraws (Below.refl _ _) dd))
  have HT21 := Lib.hid (HT20.out.below (belowDraws (Below.refl _ _) dd))
  have O19 := Lib.hid (O18.out.below (belowDraws (Below.refl _ _) dd))
  have X18 := Lib.hid (X17.out.below (belowDraws (Below.refl _ _) dd) X17.out.lt)
  have R14 := Lib.hid (R13.out.below (belowDraws (Below.refl _ _) dd))
  have Z13 := Lib.hid (Z12.out.below (belowDraws (Below.refl _ _) dd) Z12.out.lt)
  have M8 := Lib.hid (M7.out.below (belowDraws (Below.refl _ _) dd) M7.out.lt)
  have U2 := Lib.hid (U1.out.below (belowDraws (Below.refl _ _) dd))
  have UU1 := Lib.hid (UU0.out.below (belowDraws (Below.refl _ _) dd))
  clear HB20 HA20 HT20 O18 X17 R13 Z12 M7 U1 UU0
  clear UU1
  clear C1 C2
  generalize w15.drewN dd = w16 at *
  go_wp2_with fail
  refine (DrawCountOfDisc_calls A n c _ HN.out HA21.out (fun ad e h => Nat.lt_of_lt_of_le (HL.out ad e h) HB21.out.size)).mono ?_
  rintro e w17 ⟨v1, v2, rfl, hb⟩
  have HB22 := Lib.hid (HB21.out.trans ((hb).mono HB21.out.size))
  have HA22 := Lib.hid (HA21.out.below hb)
  have HT22 := Lib.hid (HT21.out.below hb)
  have O20 := Lib.hid (O19.out.below hb)
  have X19 := Lib.hid (X18.out.below hb X18.out.lt)
  have R15 := Lib.hid (R14.out.below hb)
  have Z14 := Lib.hid (Z13.out.below hb Z13.out.lt)
  have M9 := Lib.hid (M8.out.below hb M8.out.lt)
  have U3 := Lib.hid (U2.out.below hb)
  clear HB21 HA21 HT21 O19 X18 R14 Z13 M8 U2
  clear hb
  clear HA22
  go_wp2_with fail
  refine (implCountOfDisc_calls v1 v2 _).mono ?_
  rintro e wc ⟨rfl, rfl⟩
  go_wp2_with fail
  refine (specCountOfDisc_calls v1 v2 _).mono ?_
  rintro e wc ⟨rfl, rfl⟩
  generalize cdV v1 v2 = cv
  generalize cdE v1 v2 = ce
  rcases HTU.out with hE5 | ⟨rfl, hat⟩
  · have hd5 : (E5 == 0) = false := by simpa using hE5
    clear hE5 HTU
    clear U3
    rcases HMV.out with ⟨rfl, rfl⟩ | ⟨rfl, rfl, rfl⟩
    · clear HMV
      clear M9
      rcases HTM.out with hE2 | ⟨rfl, hback⟩
      · have hd : (E2 == 0) = false := by simpa using hE2
        clear hE2 HTM
        clear R15
        clear Z14
        rcases HST.out with ⟨rfl, hL0⟩ | ⟨rfl, ht01, ht256, htime, hrest⟩
        · have h0 : ln = 0 := by rw [← hln.out, hL0]; rfl
          subst h0
          obtain ⟨x0, x1, _, _⟩ := X19.out.two
          go_wp2
          go_ret
          exact ⟨rfl, HB22.out⟩
        · have HTI := Lib.hid htime
          have HRS := Lib.hid hrest
          clear htime hrest HST
          obtain ⟨x0, x1, _, _⟩ := X19.out.two
          go_wp2_with fail
          refine (HTI.out A5 c5 _ O20.out).mono ?_
          rintro e w18 ⟨rfl, hb⟩
          have HB23 := Lib.hid (HB22.out.trans ((hb).mono HB22.out.size))
          have HT23 := Lib.hid (HT22.out.below hb)
          have O21 := Lib.hid (O20.out.below hb)
          have X20 := Lib.hid (X19.out.below hb X19.out.lt)
          clear HB22 HT22 O20 X19
          clear hb
          clear x0 x1 HTI
          rcases HRS.out with rfl | ⟨P0, d0, f0, t0, L0, hl0, h1, h2, h3⟩
          · go_wp2
            go_ret
            exact ⟨rfl, HB23.out⟩
          · have G1 := Lib.hid h1
            have G2 := Lib.hid h2
            have G3 := Lib.hid h3
            clear h1 h2 h3 HRS
            by_cases ht0 : t = 0
            · subst ht0
              go_wp2
              go_ret
              exact ⟨rfl, HB23.out⟩
            · have ht1 : (t == 0) = false := by simpa using ht0
              have ht2 : 1 ≤ t := by omega
              go_wp2_with fail
              refine (G1.out _).mono ?_
              rintro e w19 ⟨A10, c10, rfl, hO, hb⟩
              have HB24 := Lib.hid (HB23.out.trans ((hb).mono HB23.out.size))
              have HT24 := Lib.hid (HT23.out.below hb)
              have O22 := Lib.hid (O21.out.below hb)
              have X21 := Lib.hid (X20.out.below hb X20.out.lt)
              clear HB23 HT23 O21 X20
              have J0 := Lib.hid (hO.ints)
              clear hb
              have hcap := OwnG.cap hO
              clear hO
              have hal : Below w19.heap.size w19 (w19.alloc (.cells #[.int .i64 P0, .slice A10 L0.length c10] 28)) := (Below.refl _ _).alloc (Nat.le_refl _) _
              have hbx := Box.new w19 28 #[.int .i64 P0, .slice A10 L0.length c10]
              have HB25 := Lib.hid (HB24.out.trans ((hal).mono HB24.out.size))
              have HT25 := Lib.hid (HT24.out.below hal)
              have O23 := Lib.hid (O22.out.below hal)
              have X22 := Lib.hid (X21.out.below hal X21.out.lt)
              have J1 := Lib.hid (J0.out.below hal)
              clear HB24 HT24 O22 X21 J0
              have K0 := Lib.hid (hbx)
              clear hal hbx
              go_wp2_with fail
              generalize hWx : w19.alloc (.cells #[.int .i64 P0, .slice A10 L0.length c10] 28) = WK at *
              clear hWx
              generalize w19.heap.size = bK at *
              refine (G2.out _ HT25.out).mono ?_
              rintro e w20 ⟨rfl, hb⟩
              have HB26 := Lib.hid (HB25.out.trans ((hb).mono HB25.out.size))
              have HT26 := Lib.hid (HT25.out.below hb)
              have O24 := Lib.hid (O23.out.below hb)
              have X23 := Lib.hid (X22.out.below hb X22.out.lt)
              have J2 := Lib.hid (J1.out.below hb)
              have K1 := Lib.hid (K0.out.below hb K0.out.lt)
              clear HB25 HT25 O23 X22 J1 K0
              clear hb
              have hal : Below w20.heap.size w20 (w20.alloc (.cells #[.int .i64 d0, .int .i64 f0, .int .i64 t0] 36)) := (Below.refl _ _).alloc (Nat.le_refl _) _
              have hbx := Box.new w20 36 #[.int .i64 d0, .int .i64 f0, .int .i64 t0]
              have HB27 := Lib.hid (HB26.out.trans ((hal).mono HB26.out.size))
              have HT27 := Lib.hid (HT26.out.below hal)
              have O25 := Lib.hid (O24.out.below hal)
              have X24 := Lib.hid (X23.out.below hal X23.out.lt)
              have J3 := Lib.hid (J2.out.below hal)
              have K2 := Lib.hid (K1.out.below hal K1.out.lt)
              clear HB26 HT26 O24 X23 J2 K1
              have I0 := Lib.hid (hbx)
              clear hal hbx
              obtain ⟨k0, k1, _, _⟩ := K2.out.two
              obtain ⟨i0, i1, i2⟩ := I0.out.three
              go_wp2_with fail
              generalize hWx : w20.alloc (.cells #[.int .i64 d0, .int .i64 f0, .int .i64 t0] 36) = WI at *
              clear hWx
              generalize w20.heap.size = bI at *
              refine (G3.out A10 c10 _ J3.out hcap.1 (by have := hcap.2; unfold maxLen at this; omega)).mono ?_
              rintro e w21 ⟨A11, c11, rfl, hO, hb⟩
              have HB28 := Lib.hid (HB27.out.trans ((hb).mono HB27.out.size))
              have HT28 := Lib.hid (HT27.out.below hb)
              have O26 := Lib.hid (O25.out.below hb)
              have X25 := Lib.hid (X24.out.below hb X24.out.lt)
              have J4 := Lib.hid (J3.out.below hb)
              have K3 := Lib.hid (K2.out.below hb K2.out.lt)
              have I1 := Lib.hid (I0.out.below hb I0.out.lt)
              clear HB27 HT27 O25 X24 J3 K2 I0
              have F0 := Lib.hid (hO.ints)
              clear hb
              clear hO k0 k1 i0 i1 i2
              have hal : Below w21.heap.size w21 (w21.alloc (.cells #[.int .i64 P, .slice A11 ln c11] 28)) := (Below.refl _ _).alloc (Nat.le_refl _) _
              have hbx := Box.new w21 28 #[.int .i64 P, .slice A11 ln c11]
              have HB29 := Lib.hid (HB28.out.trans ((hal).mono HB28.out.size))
              have HT29 := Lib.hid (HT28.out.below hal)
              have O27 := Lib.hid (O26.out.below hal)
              have X26 := Lib.hid (X25.out.below hal X25.out.lt)
              have J5 := Lib.hid (J4.out.below hal)
              have K4 := Lib.hid (K3.out.below hal K3.out.lt)
              have I2 := Lib.hid (I1.out.below hal I1.out.lt)
              have F1 := Lib.hid (F0.out.below hal)
              clear HB28 HT28 O26 X25 J4 K3 I1 F0
              have G0 := Lib.hid (hbx)
              clear hal hbx
              obtain ⟨g0, g1, _, _⟩ := G0.out.two
              obtain ⟨x0, x1, _, _⟩ := X26.out.two
              go_wp2_with fail
              generalize hWx : w21.alloc (.cells #[.int .i64 P, .slice A11 ln c11] 28) = WG at *
              clear hWx
              generalize w21.heap.size = bG at *
              refine (state9_same A11 A5 ln c11 c5 P L _ hln.out (by omega) F1.out O27.out).mono ?_
              rintro e w22 ⟨rfl, hb⟩
              have HB30 := Lib.hid (HB29.out.trans ((hb).mono HB29.out.size))
              have HT30 := Lib.hid (HT29.out.below hb)
              have O28 := Lib.hid (O27.out.below hb)
              have X27 := Lib.hid (X26.out.below hb X26.out.lt)
              have J6 := Lib.hid (J5.out.below hb)
              have K5 := Lib.hid (K4.out.below hb K4.out.lt)
              have I3 := Lib.hid (I2.out.below hb I2.out.lt)
              have F2 := Lib.hid (F1.out.below hb)
              have G1 := Lib.hid (G0.out.below hb G0.out.lt)
              clear HB29 HT29 O27 X26 J5 K4 I2 F1 G0
              clear hb
              go_wp2
              go_ret
              exact ⟨rfl, HB30.out⟩
      · have HBK := Lib.hid hback
        clear hback HTM
        obtain ⟨z0, z1, _, _⟩ := Z14.out.two
        go_wp2_with fail
        refine (HBK.out _).mono ?_
        rintro e w18 ⟨A12, c12, rfl, hO, hb⟩
        have HB23 := Lib.hid (HB22.out.trans ((hb).mono HB22.out.size))
        have HT23 := Lib.hid (HT22.out.below hb)
        have O21 := Lib.hid (O20.out.below hb)
        have X20 := Lib.hid (X19.out.below hb X19.out.lt)
        have R16 := Lib.hid (R15.out.below hb)
        have Z15 := Lib.hid (Z14.out.below hb Z14.out.lt)
        clear HB22 HT22 O20 X19 R15 Z14
        have D0 := Lib.hid (hO.ints)
        clear hb
        clear hO z0 z1 HBK
        have hal : Below w18.heap.size w18 (w18.alloc (.cells #[.int .i64 p, .slice A12 Lx.length c12] 28)) := (Below.refl _ _).alloc (Nat.le_refl _) _
        have hbx := Box.new w18 28 #[.int .i64 p, .slice A12 Lx.length c12]
        have HB24 := Lib.hid (HB23.out.trans ((hal).mono HB23.out.size))
        have HT24 := Lib.hid (HT23.out.below hal)
        have O22 := Lib.hid (O21.out.below hal)
        have X21 := Lib.hid (X20.out.below hal X20.out.lt)
        have R17 := Lib.hid (R16.out.below hal)
        have Z16 := Lib.hid (Z15.out.below hal Z15.out.lt)
        have D1 := Lib.hid (D0.out.below hal)
        clear HB23 HT23 O21 X20 R16 Z15 D0
        have B0 := Lib.hid (hbx)
        clear hal hbx
        obtain ⟨q0, q1, _, _⟩ := B0.out.two
        obtain ⟨z0, z1, _, _⟩ := Z16.out.two
        go_wp2_with fail
        generalize hWx : w18.alloc (.cells #[.int .i64 p, .slice A12 Lx.length c12] 28) = WB at *
        clear hWx
        generalize w18.heap.size = bB at *
        refine (state9_same A12 A9 Lx.length c12 c9 p Lx _ rfl (by omega) D1.out R17.out).mono ?_
        rintro e w19 ⟨rfl, hb⟩
        have HB25 := Lib.hid (HB24.out.trans ((hb).mono HB24.out.size))
        have HT25 := Lib.hid (HT24.out.below hb)
        have O23 := Lib.hid (O22.out.below hb)
        have X22 := Lib.hid (X21.out.below hb X21.out.lt)
        have R18 := Lib.hid (R17.out.below hb)
        have Z17 := Lib.hid (Z16.out.below hb Z16.out.lt)
        have D2 := Lib.hid (D1.out.below hb)
        have B1 := Lib.hid (B0.out.below hb B0.out.lt)
        clear HB24 HT24 O22 X21 R17 Z16 D1 B0
        clear hb
        clear q0 q1 z0 z1
        clear R18
        clear Z17
        clear D2
        clear B1
        rcases HST.out with ⟨rfl, hL0⟩ | ⟨rfl, ht01, ht256, htime, hrest⟩
        · have h0 : ln = 0 := by rw [← hln.out, hL0]; rfl
          subst h0
          obtain ⟨x0, x1, _, _⟩ := X22.out.two
          go_wp2
          go_ret
          exact ⟨rfl, HB25.out⟩
        · have HTI := Lib.hid htime
          have HRS := Lib.hid hrest
          clear htime hrest HST
          obtain ⟨x0, x1, _, _⟩ := X22.out.two
          go_wp2_with fail
          refine (HTI.out A5 c5 _ O23.out).mono ?_
          rintro e w20 ⟨rfl, hb⟩
          have HB26 := Lib.hid (HB25.out.trans ((hb).mono HB25.out.size))
          have HT26 := Lib.hid (HT25.out.below hb)
          have O24 := Lib.hid (O23.out.below hb)
          have X23 := Lib.hid (X22.out.below hb X22.out.lt)
          clear HB25 HT25 O23 X22
          clear hb
          clear x0 x1 HTI
          rcases HRS.out with rfl | ⟨P0, d0, f0, t0, L0, hl0, h1, h2, h3⟩
          · go_wp2
            go_ret
            exact ⟨rfl, HB26.out⟩
          · have G1 := Lib.hid h1
            have G2 := Lib.hid h2
            have G3 := Lib.hid h3
            clear h1 h2 h3 HRS
            by_cases ht0 : t = 0
            · subst ht0
              go_wp2
              go_ret
              exact ⟨rfl, HB26.out⟩
            · have ht1 : (t == 0) = false := by simpa using ht0
              have ht2 : 1 ≤ t := by omega
              go_wp2_with fail
              refine (G1.out _).mono ?_
              rintro e w21 ⟨A10, c10, rfl, hO, hb⟩
              have HB27 := Lib.hid (HB26.out.trans ((hb).mono HB26.out.size))
              have HT27 := Lib.hid (HT26.out.below hb)
              have O25 := Lib.hid (O24.out.below hb)
              have X24 := Lib.hid (X23.out.below hb X23.out.lt)
              clear HB26 HT26 O24 X23
              have J0 := Lib.hid (hO.ints)
              clear hb
              have hcap := OwnG.cap hO
              clear hO
              have hal : Below w21.heap.size w21 (w21.alloc (.cells #[.int .i64 P0, .slice A10 L0.length c10] 28)) := (Below.refl _ _).alloc (Nat.le_refl _) _
              have hbx := Box.new w21 28 #[.int .i64 P0, .slice A10 L0.length c10]
              have HB28 := Lib.hid (HB27.out.trans ((hal).mono HB27.out.size))
              have HT28 := Lib.hid (HT27.out.below hal)
              have O26 := Lib.hid (O25.out.below hal)
              have X25 := Lib.hid (X24.out.below hal X24.out.lt)
              have J1 := Lib.hid (J0.out.below hal)
              clear HB27 HT27 O25 X24 J0
              have K0 := Lib.hid (hbx)
              clear hal hbx
              go_wp2_with fail
              generalize hWx : w21.alloc (.cells #[.int .i64 P0, .slice A10 L0.length c10] 28) = WK at *
              clear hWx
              generalize w21.heap.size = bK at *
              refine (G2.out _ HT28.out).mono ?_
              rintro e w22 ⟨rfl, hb⟩
              have HB29 := Lib.hid (HB28.out.trans ((hb).mono HB28.out.size))
              have HT29 := Lib.hid (HT28.out.below hb)
              have O27 := Lib.hid (O26.out.below hb)
              have X26 := Lib.hid (X25.out.below hb X25.out.lt)
              have J2 := Lib.hid (J1.out.below hb)
              have K1 := Lib.hid (K0.out.below hb K0.out.lt)
              clear HB28 HT28 O26 X25 J1 K0
              clear hb
              have hal : Below w22.heap.size w22 (w22.alloc (.cells #[.int .i64 d0, .int .i64 f0, .int .i64 t0] 36)) := (Below.refl _ _).alloc (Nat.le_refl _) _
              have hbx := Box.new w22 36 #[.int .i64 d0, .int .i64 f0, .int .i64 t0]
              have HB30 := Lib.hid (HB29.out.trans ((hal).mono HB29.out.size))
              have HT30 := Lib.hid (HT29.out.below hal)
              have O28 := Lib.hid (O27.out.below hal)
              have X27 := Lib.hid (X26.out.below hal X26.out.lt)
              have J3 := Lib.hid (J2.out.below hal)
              have K2 := Lib.hid (K1.out.below hal K1.out.lt)
              clear HB29 HT29 O27 X26 J2 K1
              have I0 := Lib.hid (hbx)
              clear hal hbx
              obtain ⟨k0, k1, _, _⟩ := K2.out.two
              obtain ⟨i0, i1, i2⟩ := I0.out.three
              go_wp2_with fail
              generalize hWx : w22.alloc (.cells #[.int .i64 d0, .int .i64 f0, .int .i64 t0] 36) = WI at *
              clear hWx
              generalize w22.heap.size = bI at *
              refine (G3.out A10 c10 _ J3.out hcap.1 (by have := hcap.2; unfold maxLen at this; omega)).mono ?_
              rintro e w23 ⟨A11, c11, rfl, hO, hb⟩
              have HB31 := Lib.hid (HB30.out.trans ((hb).mono HB30.out.size))
              have HT31 := Lib.hid (HT30.out.below hb)
              have O29 := Lib.hid (O28.out.below hb)
              have X28 := Lib.hid (X27.out.below hb X27.out.lt)
              have J4 := Lib.hid (J3.out.below hb)
              have K3 := Lib.hid (K2.out.below hb K2.out.lt)
              have I1 := Lib.hid (I0.out.below hb I0.out.lt)
              clear HB30 HT30 O28 X27 J3 K2 I0
              have F0 := Lib.hid (hO.ints)
              clear hb
              clear hO k0 k1 i0 i1 i2
              have hal : Below w23.heap.size w23 (w23.alloc (.cells #[.int .i64 P, .slice A11 ln c11] 28)) := (Below.refl _ _).alloc (Nat.le_refl _) _
              have hbx := Box.new w23 28 #[.int .i64 P, .slice A11 ln c11]
              have HB32 := Lib.hid (HB31.out.trans ((hal).mono HB31.out.size))
              have HT32 := Lib.hid (HT31.out.below hal)
              have O30 := Lib.hid (O29.out.below hal)
              have X29 := Lib.hid (X28.out.below hal X28.out.lt)
              have J5 := Lib.hid (J4.out.below hal)
              have K4 := Lib.hid (K3.out.below hal K3.out.lt)
              have I2 := Lib.hid (I1.out.below hal I1.out.lt)
              have F1 := Lib.hid (F0.out.below hal)
              clear HB31 HT31 O29 X28 J4 K3 I1 F0
              have G0 := Lib.hid (hbx)
              clear hal hbx
              obtain ⟨g0, g1, _, _⟩ := G0.out.two
              obtain ⟨x0, x1, _, _⟩ := X29.out.two
              go_wp2_with fail
              generalize hWx : w23.alloc (.cells #[.int .i64 P, .slice A11 ln c11] 28) = WG at *
              clear hWx
              generalize w23.heap.size = bG at *
              refine (state9_same A11 A5 ln c11 c5 P L _ hln.out (by omega) F1.out O30.out).mono ?_
              rintro e w24 ⟨rfl, hb⟩
              have HB33 := Lib.hid (HB32.out.trans ((hb).mono HB32.out.size))
              have HT33 := Lib.hid (HT32.out.below hb)
              have O31 := Lib.hid (O30.out.below hb)
              have X30 := Lib.hid (X29.out.below hb X29.out.lt)
              have J6 := Lib.hid (J5.out.below hb)
              have K5 := Lib.hid (K4.out.below hb K4.out.lt)
              have I3 := Lib.hid (I2.out.below hb I2.out.lt)
              have F2 := Lib.hid (F1.out.below hb)
              have G1 := Lib.hid (G0.out.below hb G0.out.lt)
              clear HB32 HT32 O30 X29 J5 K4 I2 F1 G0
              clear hb
              go_wp2
              go_ret
              exact ⟨rfl, HB33.out⟩
    · clear HMV
      obtain ⟨x0, x1, x2⟩ := M9.out.three
      clear M9
      rcases HTM.out with hE2 | ⟨rfl, hback⟩
      · have hd : (E2 == 0) = false := by simpa using hE2
        clear hE2 HTM
        clear R15
        clear Z14
        rcases HST.out with ⟨rfl, hL0⟩ | ⟨rfl, ht01, ht256, htime, hrest⟩
        · have h0 : ln = 0 := by rw [← hln.out, hL0]; rfl
          subst h0
          obtain ⟨x0, x1, _, _⟩ := X19.out.two
          go_wp2
          go_ret
          exact ⟨rfl, HB22.out⟩
        · have HTI := Lib.hid htime
          have HRS := Lib.hid hrest
          clear htime hrest HST
          obtain ⟨x0, x1, _, _⟩ := X19.out.two
          go_wp2_with fail
          refine (HTI.out A5 c5 _ O20.out).mono ?_
          rintro e w18 ⟨rfl, hb⟩
          have HB23 := Lib.hid (HB22.out.trans ((hb).mono HB22.out.size))
          have HT23 := Lib.hid (HT22.out.below hb)
          have O21 := Lib.hid (O20.out.below hb)
          have X20 := Lib.hid (X19.out.below hb X19.out.lt)
          clear HB22 HT22 O20 X19
          clear hb
          clear x0 x1 HTI
          rcases HRS.out with rfl | ⟨P0, d0, f0, t0, L0, hl0, h1, h2, h3⟩
          · go_wp2
            go_ret
            exact ⟨rfl, HB23.out⟩
          · have G1 := Lib.hid h1
            have G2 := Lib.hid h2
            have G3 := Lib.hid h3
            clear h1 h2 h3 HRS
            by_cases ht0 : t = 0
            · subst ht0
              go_wp2
              go_ret
              exact ⟨rfl, HB23.out⟩
            · have ht1 : (t == 0) = false := by simpa using ht0
              have ht2 : 1 ≤ t := by omega
              go_wp2_with fail
              refine (G1.out _).mono ?_
              rintro e w19 ⟨A10, c10, rfl, hO, hb⟩
              have HB24 := Lib.hid (HB23.out.trans ((hb).mono HB23.out.size))
              have HT24 := Lib.hid (HT23.out.below hb)
              have O22 := Lib.hid (O21.out.below hb)
              have X21 := Lib.hid (X20.out.below hb X20.out.lt)
              clear HB23 HT23 O21 X20
              have J0 := Lib.hid (hO.ints)
              clear hb
              have hcap := OwnG.cap hO
              clear hO
              have hal : Below w19.heap.size w19 (w19.alloc (.cells #[.int .i64 P0, .slice A10 L0.length c10] 28)) := (Below.refl _ _).alloc (Nat.le_refl _) _
              have hbx := Box.new w19 28 #[.int .i64 P0, .slice A10 L0.length c10]
              have HB25 := Lib.hid (HB24.out.trans ((hal).mono HB24.out.size))
              have HT25 := Lib.hid (HT24.out.below hal)
              have O23 := Lib.hid (O22.out.below hal)
              have X22 := Lib.hid (X21.out.below hal X21.out.lt)
              have J1 := Lib.hid (J0.out.below hal)
              clear HB24 HT24 O22 X21 J0
              have K0 := Lib.hid (hbx)
              clear hal hbx
              go_wp2_with fail
              generalize hWx : w19.alloc (.cells #[.int .i64 P0, .slice A10 L0.length c10] 28) = WK at *
              clear hWx
              generalize w19.heap.size = bK at *
              refine (G2.out _ HT25.out).mono ?_
              rintro e w20 ⟨rfl, hb⟩
              have HB26 := Lib.hid (HB25.out.trans ((hb).mono HB25.out.size))
              have HT26 := Lib.hid (HT25.out.below hb)
              have O24 := Lib.hid (O23.out.below hb)
              have X23 := Lib.hid (X22.out.below hb X22.out.lt)
              have J2 := Lib.hid (J1.out.below hb)
              have K1 := Lib.hid (K0.out.below hb K0.out.lt)
              clear HB25 HT25 O23 X22 J1 K0
              clear hb
              have hal : Below w20.heap.size w20 (w20.alloc (.cells #[.int .i64 d0, .int .i64 f0, .int .i64 t0] 36)) := (Below.refl _ _).alloc (Nat.le_refl _) _
              have hbx := Box.new w20 36 #[.int .i64 d0, .int .i64 f0, .int .i64 t0]
              have HB27 := Lib.hid (HB26.out.trans ((hal).mono HB26.out.size))
              have HT27 := Lib.hid (HT26.out.below hal)
              have O25 := Lib.hid (O24.out.below hal)
              have X24 := Lib.hid (X23.out.below hal X23.out.lt)
              have J3 := Lib.hid (J2.out.below hal)
              have K2 := Lib.hid (K1.out.below hal K1.out.lt)
              clear HB26 HT26 O24 X23 J2 K1
              have I0 := Lib.hid (hbx)
              clear hal hbx
              obtain ⟨k0, k1, _, _⟩ := K2.out.two
              obtain ⟨i0, i1, i2⟩ := I0.out.three
              go_wp2_with fail
              generalize hWx : w20.alloc (.cells #[.int .i64 d0, .int .i64 f0, .int .i64 t0] 36) = WI at *
              clear hWx
              generalize w20.heap.size = bI at *
              refine (G3.out A10 c10 _ J3.out hcap.1 (by have := hcap.2; unfold maxLen at this; omega)).mono ?_
              rintro e w21 ⟨A11, c11, rfl, hO, hb⟩
              have HB28 := Lib.hid (HB27.out.trans ((hb).mono HB27.out.size))
              have HT28 := Lib.hid (HT27.out.below hb)
              have O26 := Lib.hid (O25.out.below hb)
              have X25 := Lib.hid (X24.out.below hb X24.out.lt)
              have J4 := Lib.hid (J3.out.below hb)
              have K3 := Lib.hid (K2.out.below hb K2.out.lt)
              have I1 := Lib.hid (I0.out.below hb I0.out.lt)
              clear HB27 HT27 O25 X24 J3 K2 I0
              have F0 := Lib.hid (hO.ints)
              clear hb
              clear hO k0 k1 i0 i1 i2
              have hal : Below w21.heap.size w21 (w21.alloc (.cells #[.int .i64 P, .slice A11 ln c11] 28)) := (Below.refl _ _).alloc (Nat.le_refl _) _
              have hbx := Box.new w21 28 #[.int .i64 P, .slice A11 ln c11]
              have HB29 := Lib.hid (HB28.out.trans ((hal).mono HB28.out.size))
              have HT29 := Lib.hid (HT28.out.below hal)
              have O27 := Lib.hid (O26.out.below hal)
              have X26 := Lib.hid (X25.out.below hal X25.out.lt)
              have J5 := Lib.hid (J4.out.below hal)
              have K4 := Lib.hid (K3.out.below hal K3.out.lt)
              have I2 := Lib.hid (I1.out.below hal I1.out.lt)
              have F1 := Lib.hid (F0.out.below hal)
              clear HB28 HT28 O26 X25 J4 K3 I1 F0
              have G0 := Lib.hid (hbx)
              clear hal hbx
              obtain ⟨g0, g1, _, _⟩ := G0.out.two
              obtain ⟨x0, x1, _, _⟩ := X26.out.two
              go_wp2_with fail
              generalize hWx : w21.alloc (.cells #[.int .i64 P, .slice A11 ln c11] 28) = WG at *
              clear hWx
              generalize w21.heap.size = bG at *
              refine (state9_same A11 A5 ln c11 c5 P L _ hln.out (by omega) F1.out O27.out).mono ?_
              rintro e w22 ⟨rfl, hb⟩
              have HB30 := Lib.hid (HB29.out.trans ((hb).mono HB29.out.size))
              have HT30 := Lib.hid (HT29.out.below hb)
              have O28 := Lib.hid (O27.out.below hb)
              have X27 := Lib.hid (X26.out.below hb X26.out.lt)
              have J6 := Lib.hid (J5.out.below hb)
              have K5 := Lib.hid (K4.out.below hb K4.out.lt)
              have I3 := Lib.hid (I2.out.below hb I2.out.lt)
              have F2 := Lib.hid (F1.out.below hb)
              have G1 := Lib.hid (G0.out.below hb G0.out.lt)
              clear HB29 HT29 O27 X26 J5 K4 I2 F1 G0
              clear hb
              go_wp2
              go_ret
              exact ⟨rfl, HB30.out⟩
      · have HBK := Lib.hid hback
        clear hback HTM
        obtain ⟨z0, z1, _, _⟩ := Z14.out.two
        go_wp2_with fail
        refine (HBK.out _).mono ?_
        rintro e w18 ⟨A12, c12, rfl, hO, hb⟩
        have HB23 := Lib.hid (HB22.out.trans ((hb).mono HB22.out.size))
        have HT23 := Lib.hid (HT22.out.below hb)
        have O21 := Lib.hid (O20.out.below hb)
        have X20 := Lib.hid (X19.out.below hb X19.out.lt)
        have R16 := Lib.hid (R15.out.below hb)
        have Z15 := Lib.hid (Z14.out.below hb Z14.out.lt)
        clear HB22 HT22 O20 X19 R15 Z14
        have D0 := Lib.hid (hO.ints)
        clear hb
        clear hO z0 z1 HBK
        have hal : Below w18.heap.size w18 (w18.alloc (.cells #[.int .i64 p, .slice A12 Lx.length c12] 28)) := (Below.refl _ _).alloc (Nat.le_refl _) _
        have hbx := Box.new w18 28 #[.int .i64 p, .slice A12 Lx.length c12]
        have HB24 := Lib.hid (HB23.out.trans ((hal).mono HB23.out.size))
        have HT24 := Lib.hid (HT23.out.below hal)
        have O22 := Lib.hid (O21.out.below hal)
        have X21 := Lib.hid (X20.out.below hal X20.out.lt)
        have R17 := Lib.hid (R16.out.below hal)
        have Z16 := Lib.hid (Z15.out.below hal Z15.out.lt)
        have D1 := Lib.hid (D0.out.below hal)
        clear HB23 HT23 O21 X20 R16 Z15 D0
        have B0 := Lib.hid (hbx)
        clear hal hbx
        obtain ⟨q0, q1, _, _⟩ := B0.out.two
        obtain ⟨z0, z1, _, _⟩ := Z16.out.two
        go_wp2_with fail
        generalize hWx : w18.alloc (.cells #[.int .i64 p, .slice A12 Lx.length c12] 28) = WB at *
        clear hWx
        generalize w18.heap.size = bB at *
        refine (state9_same A12 A9 Lx.length c12 c9 p Lx _ rfl (by omega) D1.out R17.out).mono ?_
        rintro e w19 ⟨rfl, hb⟩
        have HB25 := Lib.hid (HB24.out.trans ((hb).mono HB24.out.size))
        have HT25 := Lib.hid (HT24.out.below hb)
        have O23 := Lib.hid (O22.out.below hb)
        have X22 := Lib.hid (X21.out.below hb X21.out.lt)
        have R18 := Lib.hid (R17.out.below hb)
        have Z17 := Lib.hid (Z16.out.below hb Z16.out.lt)
        have D2 := Lib.hid (D1.out.below hb)
        have B1 := Lib.hid (B0.out.below hb B0.out.lt)
        clear HB24 HT24 O22 X21 R17 Z16 D1 B0
        clear hb
        clear q0 q1 z0 z1
        clear R18
        clear Z17
        clear D2
        clear B1
        rcases HST.out with ⟨rfl, hL0⟩ | ⟨rfl, ht01, ht256, htime, hrest⟩
        · have h0 : ln = 0 := by rw [← hln.out, hL0]; rfl
          subst h0
          obtain ⟨x0, x1, _, _⟩ := X22.out.two
          go_wp2
          go_ret
          exact ⟨rfl, HB25.out⟩
        · have HTI := Lib.hid htime
          have HRS := Lib.hid hrest
          clear htime hrest HST
          obtain ⟨x0, x1, _, _⟩ := X22.out.two
          go_wp2_with fail
          refine (HTI.out A5 c5 _ O23.out).mono ?_
          rintro e w20 ⟨rfl, hb⟩
          have HB26 := Lib.hid (HB25.out.trans ((hb).mono HB25.out.size))
          have HT26 := Lib.hid (HT25.out.below hb)
          have O24 := Lib.hid (O23.out.below hb)
          have X23 := Lib.hid (X22.out.below hb X22.out.lt)
          clear HB25 HT25 O23 X22
          clear hb
          clear x0 x1 HTI
          rcases HRS.out with rfl | ⟨P0, d0, f0, t0, L0, hl0, h1, h2, h3⟩
          · go_wp2
            go_ret
            exact ⟨rfl, HB26.out⟩
          · have G1 := Lib.hid h1
            have G2 := Lib.hid h2
            have G3 := Lib.hid h3
            clear h1 h2 h3 HRS
            by_cases ht0 : t = 0
            · subst ht0
              go_wp2
              go_ret
              exact ⟨rfl, HB26.out⟩
            · have ht1 : (t == 0) = false := by simpa using ht0
              have ht2 : 1 ≤ t := by omega
              go_wp2_with fail
              refine (G1.out _).mono ?_
              rintro e w21 ⟨A10, c10, rfl, hO, hb⟩
              have HB27 := Lib.hid (HB26.out.trans ((hb).mono HB26.out.size))
              have HT27 := Lib.hid (HT26.out.below hb)
              have O25 := Lib.hid (O24.out.below hb)
              have X24 := Lib.hid (X23.out.below hb X23.out.lt)
              clear HB26 HT26 O24 X23
              have J0 := Lib.hid (hO.ints)
              clear hb
              have hcap := OwnG.cap hO
              clear hO
              have hal : Below w21.heap.size w21 (w21.alloc (.cells #[.int .i64 P0, .slice A10 L0.length c10] 28)) := (Below.refl _ _).alloc (Nat.le_refl _) _
              have hbx := Box.new w21 28 #[.int .i64 P0, .slice A10 L0.length c10]
              have HB28 := Lib.hid (HB27.out.trans ((hal).mono HB27.out.size))
              have HT28 := Lib.hid (HT27.out.below hal)
              have O26 := Lib.hid (O25.out.below hal)
              have X25 := Lib.hid (X24.out.below hal X24.out.lt)
              have J1 := Lib.hid (J0.out.below hal)
              clear HB27 HT27 O25 X24 J0
              have K0 := Lib.hid (hbx)
              clear hal hbx
              go_wp2_with fail
              generalize hWx : w21.alloc (.cells #[.int .i64 P0, .slice A10 L0.length c10] 28) = WK at *
              clear hWx
              generalize w21.heap.size = bK at *
              refine (G2.out _ HT28.out).mono ?_
              rintro e w22 ⟨rfl, hb⟩
              have HB29 := Lib.hid (HB28.out.trans ((hb).mono HB28.out.size))
              have HT29 := Lib.hid (HT28.out.below hb)
              have O27 := Lib.hid (O26.out.below hb)
              have X26 := Lib.hid (X25.out.below hb X25.out.lt)
              have J2 := Lib.hid (J1.out.below hb)
              have K1 := Lib.hid (K0.out.below hb K0.out.lt)
              clear HB28 HT28 O26 X25 J1 K0
              clear hb
              have hal : Below w22.heap.size w22 (w22.alloc (.cells #[.int .i64 d0, .int .i64 f0, .int .i64 t0] 36)) := (Below.refl _ _).alloc (Nat.le_refl _) _
              have hbx := Box.new w22 36 #[.int .i64 d0, .int .i64 f0, .int .i64 t0]
              have HB30 := Lib.hid (HB29.out.trans ((hal).mono HB29.out.size))
              have HT30 := Lib.hid (HT29.out.below hal)
              have O28 := Lib.hid (O27.out.below hal)
              have X27 := Lib.hid (X26.out.below hal X26.out.lt)
              have J3 := Lib.hid (J2.out.below hal)
              have K2 := Lib.hid (K1.out.below hal K1.out.lt)
              clear HB29 HT29 O27 X26 J2 K1
              have I0 := Lib.hid (hbx)
              clear hal hbx
              obtain ⟨k0, k1, _, _⟩ := K2.out.two
              obtain ⟨i0, i1, i2⟩ := I0.out.three
              go_wp2_with fail
              generalize hWx : w22.alloc (.cells #[.int .i64 d0, .int .i64 f0, .int .i64 t0] 36) = WI at *
              clear hWx
              generalize w22.heap.size = bI at *
              refine (G3.out A10 c10 _ J3.out hcap.1 (by have := hcap.2; unfold maxLen at this; omega)).mono ?_
              rintro e w23 ⟨A11, c11, rfl, hO, hb⟩
              have HB31 := Lib.hid (HB30.out.trans ((hb).mono HB30.out.size))
              have HT31 := Lib.hid (HT30.out.below hb)
              have O29 := Lib.hid (O28.out.below hb)
              have X28 := Lib.hid (X27.out.below hb X27.out.lt)
              have J4 := Lib.hid (J3.out.below hb)
              have K3 := Lib.hid (K2.out.below hb K2.out.lt)
              have I1 := Lib.hid (I0.out.below hb I0.out.lt)
              clear HB30 HT30 O28 X27 J3 K2 I0
              have F0 := Lib.hid (hO.ints)
              clear hb
              clear hO k0 k1 i0 i1 i2
              have hal : Below w23.heap.size w23 (w23.alloc (.cells #[.int .i64 P, .slice A11 ln c11] 28)) := (Below.refl _ _).alloc (Nat.le_refl _) _
              have hbx := Box.new w23 28 #[.int .i64 P, .slice A11 ln c11]
              have HB32 := Lib.hid (HB31.out.trans ((hal).mono HB31.out.size))
              have HT32 := Lib.hid (HT31.out.below hal)
              have O30 := Lib.hid (O29.out.below hal)
              have X29 := Lib.hid (X28.out.below hal X28.out.lt)
              have J5 := Lib.hid (J4.out.below hal)
              have K4 := Lib.hid (K3.out.below hal K3.out.lt)
              have I2 := Lib.hid (I1.out.below hal I1.out.lt)
              have F1 := Lib.hid (F0.out.below hal)
              clear HB31 HT31 O29 X28 J4 K3 I1 F0
              have G0 := Lib.hid (hbx)
              clear hal hbx
              obtain ⟨g0, g1, _, _⟩ := G0.out.two
              obtain ⟨x0, x1, _, _⟩ := X29.out.two
              go_wp2_with fail
              generalize hWx : w23.alloc (.cells #[.int .i64 P, .slice A11 ln c11] 28) = WG at *
              clear hWx
              generalize w23.heap.size = bG at *
              refine (state9_same A11 A5 ln c11 c5 P L _ hln.out (by omega) F1.out O30.out).mono ?_
              rintro e w24 ⟨rfl, hb⟩
              have HB33 := Lib.hid (HB32.out.trans ((hb).mono HB32.out.size))
              have HT33 := Lib.hid (HT32.out.below hb)
              have O31 := Lib.hid (O30.out.below hb)
              have X30 := Lib.hid (X29.out.below hb X29.out.lt)
              have J6 := Lib.hid (J5.out.below hb)
              have K5 := Lib.hid (K4.out.below hb K4.out.lt)
              have I3 := Lib.hid (I2.out.below hb I2.out.lt)
              have F2 := Lib.hid (F1.out.below hb)
              have G1 := Lib.hid (G0.out.below hb G0.out.lt)
              clear HB32 HT32 O30 X29 J5 K4 I2 F1 G0
              clear hb
              go_wp2
              go_ret
              exact ⟨rfl, HB33.out⟩
  · have HAT := Lib.hid hat
    clear hat HTU
    go_wp2
    go_loopw [34] (fun i wr => ∃ j : Nat, j ≤ lm ∧ i = .int .i64 j ∧ Below w17.heap.size w17 wr) (fun i _ => lm - (intOf i).toNat)
    case atStart => exact ⟨0, Nat.zero_le _, rfl, Below.refl _ _⟩
    case round =>
      obtain ⟨j, hj, rfl, hbl⟩ := hrel
      have HB23 := Lib.hid (HB22.out.trans ((hbl).mono HB22.out.size))
      have HT23 := Lib.hid (HT22.out.below hbl)
      have O21 := Lib.hid (O20.out.below hbl)
      have X20 := Lib.hid (X19.out.below hbl X19.out.lt)
      have R16 := Lib.hid (R15.out.below hbl)
      have Z15 := Lib.hid (Z14.out.below hbl Z14.out.lt)
      have M10 := Lib.hid (M9.out.below hbl M9.out.lt)
      have U4 := Lib.hid (U3.out.below hbl)
      clear HB22 HT22 O20 X19 R15 Z14 M9 U3
      have LB0 := Lib.hid (hbl)
      clear hbl
      by_cases hjl : j < lm
      · have hi0 : (0 : Int) ≤ (j : Int) := by omega
        have hi1 : (j : Int) < (lm : Int) := by omega
        have hmv := HAT.out j hjl
        obtain ⟨x, hx⟩ : ∃ x, Hid (MM[j]?.getD (0, 0, 0) = x) := ⟨_, Lib.hid rfl⟩
        rw [hx.out] at hmv
        obtain ⟨x1, x2, x3⟩ := x
        simp only at hmv
        have HMJ := Lib.hid hmv
        clear hmv
        go_wp2_with fail
        refine (HMJ.out _ HT23.out).mono ?_
        rintro e w18 ⟨rfl, hb⟩
        have HB24 := Lib.hid (HB23.out.trans ((hb).mono HB23.out.size))
        have HT24 := Lib.hid (HT23.out.below hb)
        have O22 := Lib.hid (O21.out.below hb)
        have X21 := Lib.hid (X20.out.below hb X20.out.lt)
        have R17 := Lib.hid (R16.out.below hb)
        have Z16 := Lib.hid (Z15.out.below hb Z15.out.lt)
        have M11 := Lib.hid (M10.out.below hb M10.out.lt)
        have U5 := Lib.hid (U4.out.below hb)
        have LB1 := Lib.hid (LB0.out.trans ((hb).mono LB0.out.size))
        clear HB23 HT23 O21 X20 R16 Z15 M10 U4 LB0
        clear hb
        clear HMJ
        have hal : Below w18.heap.size w18 (w18.alloc (.cells #[.int .i64 x1, .int .i64 x2, .int .i64 x3] 36)) := (Below.refl _ _).alloc (Nat.le_refl _) _
        have hbx := Box.new w18 36 #[.int .i64 x1, .int .i64 x2, .int .i64 x3]
        have HB25 := Lib.hid (HB24.out.trans ((hal).mono HB24.out.size))
        have HT25 := Lib.hid (HT24.out.below hal)
        have O23 := Lib.hid (O22.out.below hal)
        have X22 := Lib.hid (X21.out.below hal X21.out.lt)
        have R18 := Lib.hid (R17.out.below hal)
        have Z17 := Lib.hid (Z16.out.below hal Z16.out.lt)
        have M12 := Lib.hid (M11.out.below hal M11.out.lt)
        have U6 := Lib.hid (U5.out.below hal)
        have LB2 := Lib.hid (LB1.out.trans ((hal).mono LB1.out.size))
        clear HB24 HT24 O22 X21 R17 Z16 M11 U5 LB1
        have BB0 := Lib.hid (hbx)
        clear hal hbx
        obtain ⟨gM, rfl, hgM, q0, q1, q2⟩ := U6.out j (by rw [hlm.out]; exact hjl)
        rw [hx.out] at q0 q1 q2
        simp only at q0 q1 q2
        obtain ⟨v0, v1', v2'⟩ := BB0.out.three
        have heq := move_same x1 x2 x3
        go_wp2_with fail
        generalize hWx : w18.alloc (.cells #[.int .i64 x1, .int .i64 x2, .int .i64 x3] 36) = WBB at *
        clear hWx
        generalize w18.heap.size = bBB at *
        go_quiet (fail)
        go_wp2
        go_roundw
        case rel => exact ⟨j + 1, by omega, by go_num, by first | exact belowDraws LB2.out _ | exact LB2.out⟩
        case measure => simp [intOf]; omega
      · obtain rfl : j = lm := by omega
        clear HAT
        clear U4
        clear LB0
        rcases HMV.out with ⟨rfl, rfl⟩ | ⟨rfl, rfl, rfl⟩
        · clear HMV
          clear M10
          rcases HTM.out with hE2 | ⟨rfl, hback⟩
          · have hd : (E2 == 0) = false := by simpa using hE2
            clear hE2 HTM
            clear R16
            clear Z15
            rcases HST.out with ⟨rfl, hL0⟩ | ⟨rfl, ht01, ht256, htime, hrest⟩
            · have h0 : ln = 0 := by rw [← hln.out, hL0]; rfl
              subst h0
              obtain ⟨x0, x1, _, _⟩ := X20.out.two
              go_wp2
              go_ret
              exact ⟨rfl, HB23.out⟩
            · have HTI := Lib.hid htime
              have HRS := Lib.hid hrest
              clear htime hrest HST
              obtain ⟨x0, x1, _, _⟩ := X20.out.two
              go_wp2_with fail
              refine (HTI.out A5 c5 _ O21.out).mono ?_
              rintro e w18 ⟨rfl, hb⟩
              have HB24 := Lib.hid (HB23.out.trans ((hb).mono HB23.out.size))
              have HT24 := Lib.hid (HT23.out.below hb)
              have O22 := Lib.hid (O21.out.below hb)
              have X21 := Lib.hid (X20.out.below hb X20.out.lt)
              clear HB23 HT23 O21 X20
              clear hb
              clear x0 x1 HTI
              rcases HRS.out with rfl | ⟨P0, d0, f0, t0, L0, hl0, h1, h2, h3⟩
              · go_wp2
                go_ret
                exact ⟨rfl, HB24.out⟩
              · have G1 := Lib.hid h1
                have G2 := Lib.hid h2
                have G3 := Lib.hid h3
                clear h1 h2 h3 HRS
                by_cases ht0 : t = 0
                · subst ht0
                  go_wp2
                  go_ret
                  exact ⟨rfl, HB24.out⟩
                · have ht1 : (t == 0) = false := by simpa using ht0
                  have ht2 : 1 ≤ t := by omega
                  go_wp2_with fail
                  refine (G1.out _).mono ?_
                  rintro e w19 ⟨A10, c10, rfl, hO, hb⟩
                  have HB25 := Lib.hid (HB24.out.trans ((hb).mono HB24.out.size))
                  have HT25 := Lib.hid (HT24.out.below hb)
                  have O23 := Lib.hid (O22.out.below hb)
                  have X22 := Lib.hid (X21.out.below hb X21.out.lt)
                  clear HB24 HT24 O22 X21
                  have J0 := Lib.hid (hO.ints)
                  clear hb
                  have hcap := OwnG.cap hO
                  clear hO
                  have hal : Below w19.heap.size w19 (w19.alloc (.cells #[.int .i64 P0, .slice A10 L0.length c10] 28)) := (Below.refl _ _).alloc (Nat.le_refl _) _
                  have hbx := Box.new w19 28 #[.int .i64 P0, .slice A10 L0.length c10]
                  have HB26 := Lib.hid (HB25.out.trans ((hal).mono HB25.out.size))
                  have HT26 := Lib.hid (HT25.out.below hal)
                  have O24 := Lib.hid (O23.out.below hal)
                  have X23 := Lib.hid (X22.out.below hal X22.out.lt)
                  have J1 := Lib.hid (J0.out.below hal)
                  clear HB25 HT25 O23 X22 J0
                  have K0 := Lib.hid (hbx)
                  clear hal hbx
                  go_wp2_with fail
                  generalize hWx : w19.alloc (.cells #[.int .i64 P0, .slice A10 L0.length c10] 28) = WK at *
                  clear hWx
                  generalize w19.heap.size = bK at *
                  refine (G2.out _ HT26.out).mono ?_
                  rintro e w20 ⟨rfl, hb⟩
                  have HB27 := Lib.hid (HB26.out.trans ((hb).mono HB26.out.size))
                  have HT27 := Lib.hid (HT26.out.below hb)
                  have O25 := Lib.hid (O24.out.below hb)
                  have X24 := Lib.hid (X23.out.below hb X23.out.lt)
                  have J2 := Lib.hid (J1.out.below hb)
                  have K1 := Lib.hid (K0.out.below hb K0.out.lt)
                  clear HB26 HT26 O24 X23 J1 K0
                  clear hb
                  have hal : Below w20.heap.size w20 (w20.alloc (.cells #[.int .i64 d0, .int .i64 f0, .int .i64 t0] 36)) := (Below.refl _ _).alloc (Nat.le_refl _) _
                  have hbx := Box.new w20 36 #[.int .i64 d0, .int .i64 f0, .int .i64 t0]
                  have HB28 := Lib.hid (HB27.out.trans ((hal).mono HB27.out.size))
                  have HT28 := Lib.hid (HT27.out.below hal)
                  have O26 := Lib.hid (O25.out.below hal)
                  have X25 := Lib.hid (X24.out.below hal X24.out.lt)
                  have J3 := Lib.hid (J2.out.below hal)
                  have K2 := Lib.hid (K1.out.below hal K1.out.lt)
                  clear HB27 HT27 O25 X24 J2 K1
                  have I0 := Lib.hid (hbx)
                  clear hal hbx
                  obtain ⟨k0, k1, _, _⟩ := K2.out.two
                  obtain ⟨i0, i1, i2⟩ := I0.out.three
                  go_wp2_with fail
                  generalize hWx : w20.alloc (.cells #[.int .i64 d0, .int .i64 f0, .int .i64 t0] 36) = WI at *
                  clear hWx
                  generalize w20.heap.size = bI at *
                  refine (G3.out A10 c10 _ J3.out hcap.1 (by have := hcap.2; unfold maxLen at this; omega)).mono ?_
                  rintro e w21 ⟨A11, c11, rfl, hO, hb⟩
                  have HB29 := Lib.hid (HB28.out.trans ((hb).mono HB28.out.size))
                  have HT29 := Lib.hid (HT28.out.below hb)
                  have O27 := Lib.hid (O26.out.below hb)
                  have X26 := Lib.hid (X25.out.below hb X25.out.lt)
                  have J4 := Lib.hid (J3.out.below hb)
                  have K3 := Lib.hid (K2.out.below hb K2.out.lt)
                  have I1 := Lib.hid (I0.out.below hb I0.out.lt)
                  clear HB28 HT28 O26 X25 J3 K2 I0
                  have F0 := Lib.hid (hO.ints)
                  clear hb
                  clear hO k0 k1 i0 i1 i2
                  have hal : Below w21.heap.size w21 (w21.alloc (.cells #[.int .i64 P, .slice A11 ln c11] 28)) := (Below.refl _ _).alloc (Nat.le_refl _) _
                  have hbx := Box.new w21 28 #[.int .i64 P, .slice A11 ln c11]
                  have HB30 := Lib.hid (HB29.out.trans ((hal).mono HB29.out.size))
                  have HT30 := Lib.hid (HT29.out.below hal)
                  have O28 := Lib.hid (O27.out.below hal)
                  have X27 := Lib.hid (X26.out.below hal X26.out.lt)
                  have J5 := Lib.hid (J4.out.below hal)
                  have K4 := Lib.hid (K3.out.below hal K3.out.lt)
                  have I2 := Lib.hid (I1.out.below hal I1.out.lt)
                  have F1 := Lib.hid (F0.out.below hal)
                  clear HB29 HT29 O27 X26 J4 K3 I1 F0
                  have G0 := Lib.hid (hbx)
                  clear hal hbx
                  obtain ⟨g0, g1, _, _⟩ := G0.out.two
                  obtain ⟨x0, x1, _, _⟩ := X27.out.two
                  go_wp2_with fail
                  generalize hWx : w21.alloc (.cells #[.int .i64 P, .slice A11 ln c11] 28) = WG at *
                  clear hWx
                  generalize w21.heap.size = bG at *
                  refine (state9_same A11 A5 ln c11 c5 P L _ hln.out (by omega) F1.out O28.out).mono ?_
                  rintro e w22 ⟨rfl, hb⟩
                  have HB31 := Lib.hid (HB30.out.trans ((hb).mono HB30.out.size))
                  have HT31 := Lib.hid (HT30.out.below hb)
                  have O29 := Lib.hid (O28.out.below hb)
                  have X28 := Lib.hid (X27.out.below hb X27.out.lt)
                  have J6 := Lib.hid (J5.out.below hb)
                  have K5 := Lib.hid (K4.out.below hb K4.out.lt)
                  have I3 := Lib.hid (I2.out.below hb I2.out.lt)
                  have F2 := Lib.hid (F1.out.below hb)
                  have G1 := Lib.hid (G0.out.below hb G0.out.lt)
                  clear HB30 HT30 O28 X27 J5 K4 I2 F1 G0
                  clear hb
                  go_wp2
                  go_ret
                  exact ⟨rfl, HB31.out⟩
          · have HBK := Lib.hid hback
            clear hback HTM
            obtain ⟨z0, z1, _, _⟩ := Z15.out.two
            go_wp2_with fail
            refine (HBK.out _).mono ?_
            rintro e w18 ⟨A12, c12, rfl, hO, hb⟩
            have HB24 := Lib.hid (HB23.out.trans ((hb).mono HB23.out.size))
            have HT24 := Lib.hid (HT23.out.below hb)
            have O22 := Lib.hid (O21.out.below hb)
            have X21 := Lib.hid (X20.out.below hb X20.out.lt)
            have R17 := Lib.hid (R16.out.below hb)
            have Z16 := Lib.hid (Z15.out.below hb Z15.out.lt)
            clear HB23 HT23 O21 X20 R16 Z15
            have D0 := Lib.hid (hO.ints)
            clear hb
            clear hO z0 z1 HBK
            have hal : Below w18.heap.size w18 (w18.alloc (.cells #[.int .i64 p, .slice A12 Lx.length c12] 28)) := (Below.refl _ _).alloc (Nat.le_refl _) _
            have hbx := Box.new w18 28 #[.int .i64 p, .slice A12 Lx.length c12]
            have HB25 := Lib.hid (HB24.out.trans ((hal).mono HB24.out.size))
            have HT25 := Lib.hid (HT24.out.below hal)
            have O23 := Lib.hid (O22.out.below hal)
            have X22 := Lib.hid (X21.out.below hal X21.out.lt)
            have R18 := Lib.hid (R17.out.below hal)
            have Z17 := Lib.hid (Z16.out.below hal Z16.out.lt)
            have D1 := Lib.hid (D0.out.below hal)
            clear HB24 HT24 O22 X21 R17 Z16 D0
            have B0 := Lib.hid (hbx)
            clear hal hbx
            obtain ⟨q0, q1, _, _⟩ := B0.out.two
            obtain ⟨z0, z1, _, _⟩ := Z17.out.two
            go_wp2_with fail
            generalize hWx : w18.alloc (.cells #[.int .i64 p, .slice A12 Lx.length c12] 28) = WB at *
            clear hWx
            generalize w18.heap.size = bB at *
            refine (state9_same A12 A9 Lx.length c12 c9 p Lx _ rfl (by omega) D1.out R18.out).mono ?_
            rintro e w19 ⟨rfl, hb⟩
            have HB26 := Lib.hid (HB25.out.trans ((hb).mono HB25.out.size))
            have HT26 := Lib.hid (HT25.out.below hb)
            have O24 := Lib.hid (O23.out.below hb)
            have X23 := Lib.hid (X22.out.below hb X22.out.lt)
            have R19 := Lib.hid (R18.out.below hb)
            have Z18 := Lib.hid (Z17.out.below hb Z17.out.lt)
            have D2 := Lib.hid (D1.out.below hb)
            have B1 := Lib.hid (B0.out.below hb B0.out.lt)
            clear HB25 HT25 O23 X22 R18 Z17 D1 B0
            clear hb
            clear q0 q1 z0 z1
            clear R19
            clear Z18
            clear D2
            clear B1
            rcases HST.out with ⟨rfl, hL0⟩ | ⟨rfl, ht01, ht256, htime, hrest⟩
            · have h0 : ln = 0 := by rw [← hln.out, hL0]; rfl
              subst h0
              obtain ⟨x0, x1, _, _⟩ := X23.out.two
              go_wp2
              go_ret
              exact ⟨rfl, HB26.out⟩
            · have HTI := Lib.hid htime
              have HRS := Lib.hid hrest
              clear htime hrest HST
              obtain ⟨x0, x1, _, _⟩ := X23.out.two
              go_wp2_with fail
              refine (HTI.out A5 c5 _ O24.out).mono ?_
              rintro e w20 ⟨rfl, hb⟩
              have HB27 := Lib.hid (HB26.out.trans ((hb).mono HB26.out.size))
              have HT27 := Lib.hid (HT26.out.below hb)
              have O25 := Lib.hid (O24.out.below hb)
              have X24 := Lib.hid (X23.out.below hb X23.out.lt)
              clear HB26 HT26 O24 X23
              clear hb
              clear x0 x1 HTI
              rcases HRS.out with rfl | ⟨P0, d0, f0, t0, L0, hl0, h1, h2, h3⟩
              · go_wp2
                go_ret
                exact ⟨rfl, HB27.out⟩
              · have G1 := Lib.hid h1
                have G2 := Lib.hid h2
                have G3 := Lib.hid h3
                clear h1 h2 h3 HRS
                by_cases ht0 : t = 0
                · subst ht0
                  go_wp2
                  go_ret
                  exact ⟨rfl, HB27.out⟩
                · have ht1 : (t == 0) = false := by simpa using ht0
                  have ht2 : 1 ≤ t := by omega
                  go_wp2_with fail
                  refine (G1.out _).mono ?_
                  rintro e w21 ⟨A10, c10, rfl, hO, hb⟩
                  have HB28 := Lib.hid (HB27.out.trans ((hb).mono HB27.out.size))
                  have HT28 := Lib.hid (HT27.out.below hb)
                  have O26 := Lib.hid (O25.out.below hb)
                  have X25 := Lib.hid (X24.out.below hb X24.out.lt)
                  clear HB27 HT27 O25 X24
                  have J0 := Lib.hid (hO.ints)
                  clear hb
                  have hcap := OwnG.cap hO
                  clear hO
                  have hal : Below w21.heap.size w21 (w21.alloc (.cells #[.int .i64 P0, .slice A10 L0.length c10] 28)) := (Below.refl _ _).alloc (Nat.le_refl _) _
                  have hbx := Box.new w21 28 #[.int .i64 P0, .slice A10 L0.length c10]
                  have HB29 := Lib.hid (HB28.out.trans ((hal).mono HB28.out.size))
                  have HT29 := Lib.hid (HT28.out.below hal)
                  have O27 := Lib.hid (O26.out.below hal)
                  have X26 := Lib.hid (X25.out.below hal X25.out.lt)
                  have J1 := Lib.hid (J0.out.below hal)
                  clear HB28 HT28 O26 X25 J0
                  have K0 := Lib.hid (hbx)
                  clear hal hbx
                  go_wp2_with fail
                  generalize hWx : w21.alloc (.cells #[.int .i64 P0, .slice A10 L0.length c10] 28) = WK at *
                  clear hWx
                  generalize w21.heap.size = bK at *
                  refine (G2.out _ HT29.out).mono ?_
                  rintro e w22 ⟨rfl, hb⟩
                  have HB30 := Lib.hid (HB29.out.trans ((hb).mono HB29.out.size))
                  have HT30 := Lib.hid (HT29.out.below hb)
                  have O28 := Lib.hid (O27.out.below hb)
                  have X27 := Lib.hid (X26.out.below hb X26.out.lt)
                  have J2 := Lib.hid (J1.out.below hb)
                  have K1 := Lib.hid (K0.out.below hb K0.out.lt)
                  clear HB29 HT29 O27 X26 J1 K0
                  clear hb
                  have hal : Below w22.heap.size w22 (w22.alloc (.cells #[.int .i64 d0, .int .i64 f0, .int .i64 t0] 36)) := (Below.refl _ _).alloc (Nat.le_refl _) _
                  have hbx := Box.new w22 36 #[.int .i64 d0, .int .i64 f0, .int .i64 t0]
                  have HB31 := Lib.hid (HB30.out.trans ((hal).mono HB30.out.size))
                  have HT31 := Lib.hid (HT30.out.below hal)
                  have O29 := Lib.hid (O28.out.below hal)
                  have X28 := Lib.hid (X27.out.below hal X27.out.lt)
                  have J3 := Lib.hid (J2.out.below hal)
                  have K2 := Lib.hid (K1.out.below hal K1.out.lt)
                  clear HB30 HT30 O28 X27 J2 K1
                  have I0 := Lib.hid (hbx)
                  clear hal hbx
                  obtain ⟨k0, k1, _, _⟩ := K2.out.two
                  obtain ⟨i0, i1, i2⟩ := I0.out.three
                  go_wp2_with fail
                  generalize hWx : w22.alloc (.cells #[.int .i64 d0, .int .i64 f0, .int .i64 t0] 36) = WI at *
                  clear hWx
                  generalize w22.heap.size = bI at *
                  refine (G3.out A10 c10 _ J3.out hcap.1 (by have := hcap.2; unfold maxLen at this; omega)).mono ?_
                  rintro e w23 ⟨A11, c11, rfl, hO, hb⟩
                  have HB32 := Lib.hid (HB31.out.trans ((hb).mono HB31.out.size))
                  have HT32 := Lib.hid (HT31.out.below hb)
                  have O30 := Lib.hid (O29.out.below hb)
                  have X29 := Lib.hid (X28.out.below hb X28.out.lt)
                  have J4 := Lib.hid (J3.out.below hb)
                  have K3 := Lib.hid (K2.out.below hb K2.out.lt)
                  have I1 := Lib.hid (I0.out.below hb I0.out.lt)
                  clear HB31 HT31 O29 X28 J3 K2 I0
                  have F0 := Lib.hid (hO.ints)
                  clear hb
                  clear hO k0 k1 i0 i1 i2
                  have hal : Below w23.heap.size w23 (w23.alloc (.cells #[.int .i64 P, .slice A11 ln c11] 28)) := (Below.refl _ _).alloc (Nat.le_refl _) _
                  have hbx := Box.new w23 28 #[.int .i64 P, .slice A11 ln c11]
                  have HB33 := Lib.hid (HB32.out.trans ((hal).mono HB32.out.size))
                  have HT33 := Lib.hid (HT32.out.below hal)
                  have O31 := Lib.hid (O30.out.below hal)
                  have X30 := Lib.hid (X29.out.below hal X29.out.lt)
                  have J5 := Lib.hid (J4.out.below hal)
                  have K4 := Lib.hid (K3.out.below hal K3.out.lt)
                  have I2 := Lib.hid (I1.out.below hal I1.out.lt)
                  have F1 := Lib.hid (F0.out.below hal)
                  clear HB32 HT32 O30 X29 J4 K3 I1 F0
                  have G0 := Lib.hid (hbx)
                  clear hal hbx
                  obtain ⟨g0, g1, _, _⟩ := G0.out.two
                  obtain ⟨x0, x1, _, _⟩ := X30.out.two
                  go_wp2_with fail
                  generalize hWx : w23.alloc (.cells #[.int .i64 P, .slice A11 ln c11] 28) = WG at *
                  clear hWx
                  generalize w23.heap.size = bG at *
                  refine (state9_same A11 A5 ln c11 c5 P L _ hln.out (by omega) F1.out O31.out).mono ?_
                  rintro e w24 ⟨rfl, hb⟩
                  have HB34 := Lib.hid (HB33.out.trans ((hb).mono HB33.out.size))
                  have HT34 := Lib.hid (HT33.out.below hb)
                  have O32 := Lib.hid (O31.out.below hb)
                  have X31 := Lib.hid (X30.out.below hb X30.out.lt)
                  have J6 := Lib.hid (J5.out.below hb)
                  have K5 := Lib.hid (K4.out.below hb K4.out.lt)
                  have I3 := Lib.hid (I2.out.below hb I2.out.lt)
                  have F2 := Lib.hid (F1.out.below hb)
                  have G1 := Lib.hid (G0.out.below hb G0.out.lt)
                  clear HB33 HT33 O31 X30 J5 K4 I2 F1 G0
                  clear hb
                  go_wp2
                  go_ret
                  exact ⟨rfl, HB34.out⟩
        · clear HMV
          obtain ⟨x0, x1, x2⟩ := M10.out.three
          clear M10
          rcases HTM.out with hE2 | ⟨rfl, hback⟩
          · have hd : (E2 == 0) = false := by simpa using hE2
            clear hE2 HTM
            clear R16
            clear Z15
            rcases HST.out with ⟨rfl, hL0⟩ | ⟨rfl, ht01, ht256, htime, hrest⟩
            · have h0 : ln = 0 := by rw [← hln.out, hL0]; rfl
              subst h0
              obtain ⟨x0, x1, _, _⟩ := X20.out.two
              go_wp2
              go_ret
              exact ⟨rfl, HB23.out⟩
            · have HTI := Lib.hid htime
              have HRS := Lib.hid hrest
              clear htime hrest HST
              obtain ⟨x0, x1, _, _⟩ := X20.out.two
              go_wp2_with fail
              refine (HTI.out A5 c5 _ O21.out).mono ?_
              rintro e w18 ⟨rfl, hb⟩
              have HB24 := Lib.hid (HB23.out.trans ((hb).mono HB23.out.size))
              have HT24 := Lib.hid (HT23.out.below hb)
              have O22 := Lib.hid (O21.out.below hb)
              have X21 := Lib.hid (X20.out.below hb X20.out.lt)
              clear HB23 HT23 O21 X20
              clear hb
              clear x0 x1 HTI
              rcases HRS.out with rfl | ⟨P0, d0, f0, t0, L0, hl0, h1, h2, h3⟩
              · go_wp2
                go_ret
                exact ⟨rfl, HB24.out⟩
              · have G1 := Lib.hid h1
                have G2 := Lib.hid h2
                have G3 := Lib.hid h3
                clear h1 h2 h3 HRS
                by_cases ht0 : t = 0
                · subst ht0
                  go_wp2
                  go_ret
                  exact ⟨rfl, HB24.out⟩
                · have ht1 : (t == 0) = false := by simpa using ht0
                  have ht2 : 1 ≤ t := by omega
                  go_wp2_with fail
                  refine (G1.out _).mono ?_
                  rintro e w19 ⟨A10, c10, rfl, hO, hb⟩
                  have HB25 := Lib.hid (HB24.out.trans ((hb).mono HB24.out.size))
                  have HT25 := Lib.hid (HT24.out.below hb)
                  have O23 := Lib.hid (O22.out.below hb)
                  have X22 := Lib.hid (X21.out.below hb X21.out.lt)
                  clear HB24 HT24 O22 X21
                  have J0 := Lib.hid (hO.ints)
                  clear hb
                  have hcap := OwnG.cap hO
                  clear hO
                  have hal : Below w19.heap.size w19 (w19.alloc (.cells #[.int .i64 P0, .slice A10 L0.length c10] 28)) := (Below.refl _ _).alloc (Nat.le_refl _) _
                  have hbx := Box.new w19 28 #[.int .i64 P0, .slice A10 L0.length c10]
                  have HB26 := Lib.hid (HB25.out.trans ((hal).mono HB25.out.size))
                  have HT26 := Lib.hid (HT25.out.below hal)
                  have O24 := Lib.hid (O23.out.below hal)
                  have X23 := Lib.hid (X22.out.below hal X22.out.lt)
                  have J1 := Lib.hid (J0.out.below hal)
                  clear HB25 HT25 O23 X22 J0
                  have K0 := Lib.hid (hbx)
                  clear hal hbx
                  go_wp2_with fail
                  generalize hWx : w19.alloc (.cells #[.int .i64 P0, .slice A10 L0.length c10] 28) = WK at *
                  clear hWx
                  generalize w19.heap.size = bK at *
                  refine (G2.out _ HT26.out).mono ?_
                  rintro e w20 ⟨rfl, hb⟩
                  have HB27 := Lib.hid (HB26.out.trans ((hb).mono HB26.out.size))
                  have HT27 := Lib.hid (HT26.out.below hb)
                  have O25 := Lib.hid (O24.out.below hb)
                  have X24 := Lib.hid (X23.out.below hb X23.out.lt)
                  have J2 := Lib.hid (J1.out.below hb)
                  have K1 := Lib.hid (K0.out.below hb K0.out.lt)
                  clear HB26 HT26 O24 X23 J1 K0
                  clear hb
                  have hal : Below w20.heap.size w20 (w20.alloc (.cells #[.int .i64 d0, .int .i64 f0, .int .i64 t0] 36)) := (Below.refl _ _).alloc (Nat.le_refl _) _
                  have hbx := Box.new w20 36 #[.int .i64 d0, .int .i64 f0, .int .i64 t0]
                  have HB28 := Lib.hid (HB27.out.trans ((hal).mono HB27.out.size))
                  have HT28 := Lib.hid (HT27.out.below hal)
                  have O26 := Lib.hid (O25.out.below hal)
                  have X25 := Lib.hid (X24.out.below hal X24.out.lt)
                  have J3 := Lib.hid (J2.out.below hal)
                  have K2 := Lib.hid (K1.out.below hal K1.out.lt)
                  clear HB27 HT27 O25 X24 J2 K1
                  have I0 := Lib.hid (hbx)
                  clear hal hbx
                  obtain ⟨k0, k1, _, _⟩ := K2.out.two
                  obtain ⟨i0, i1, i2⟩ := I0.out.three
                  go_wp2_with fail
                  generalize hWx : w20.alloc (.cells #[.int .i64 d0, .int .i64 f0, .int .i64 t0] 36) = WI at *
                  clear hWx
                  generalize w20.heap.size = bI at *
                  refine (G3.out A10 c10 _ J3.out hcap.1 (by have := hcap.2; unfold maxLen at this; omega)).mono ?_
                  rintro e w21 ⟨A11, c11, rfl, hO, hb⟩
                  have HB29 := Lib.hid (HB28.out.trans ((hb).mono HB28.out.size))
                  have HT29 := Lib.hid (HT28.out.below hb)
                  have O27 := Lib.hid (O26.out.below hb)
                  have X26 := Lib.hid (X25.out.below hb X25.out.lt)
                  have J4 := Lib.hid (J3.out.below hb)
                  have K3 := Lib.hid (K2.out.below hb K2.out.lt)
                  have I1 := Lib.hid (I0.out.below hb I0.out.lt)
                  clear HB28 HT28 O26 X25 J3 K2 I0
                  have F0 := Lib.hid (hO.ints)
                  clear hb
                  clear hO k0 k1 i0 i1 i2
                  have hal : Below w21.heap.size w21 (w21.alloc (.cells #[.int .i64 P, .slice A11 ln c11] 28)) := (Below.refl _ _).alloc (Nat.le_refl _) _
                  have hbx := Box.new w21 28 #[.int .i64 P, .slice A11 ln c11]
                  have HB30 := Lib.hid (HB29.out.trans ((hal).mono HB29.out.size))
                  have HT30 := Lib.hid (HT29.out.below hal)
                  have O28 := Lib.hid (O27.out.below hal)
                  have X27 := Lib.hid (X26.out.below hal X26.out.lt)
                  have J5 := Lib.hid (J4.out.below hal)
                  have K4 := Lib.hid (K3.out.below hal K3.out.lt)
                  have I2 := Lib.hid (I1.out.below hal I1.out.lt)
                  have F1 := Lib.hid (F0.out.below hal)
                  clear HB29 HT29 O27 X26 J4 K3 I1 F0
                  have G0 := Lib.hid (hbx)
                  clear hal hbx
                  obtain ⟨g0, g1, _, _⟩ := G0.out.two
                  obtain ⟨x0, x1, _, _⟩ := X27.out.two
                  go_wp2_with fail
                  generalize hWx : w21.alloc (.cells #[.int .i64 P, .slice A11 ln c11] 28) = WG at *
                  clear hWx
                  generalize w21.heap.size = bG at *
                  refine (state9_same A11 A5 ln c11 c5 P L _ hln.out (by omega) F1.out O28.out).mono ?_
                  rintro e w22 ⟨rfl, hb⟩
                  have HB31 := Lib.hid (HB30.out.trans ((hb).mono HB30.out.size))
                  have HT31 := Lib.hid (HT30.out.below hb)
                  have O29 := Lib.hid (O28.out.below hb)
                  have X28 := Lib.hid (X27.out.below hb X27.out.lt)
                  have J6 := Lib.hid (J5.out.below hb)
                  have K5 := Lib.hid (K4.out.below hb K4.out.lt)
                  have I3 := Lib.hid (I2.out.below hb I2.out.lt)
                  have F2 := Lib.hid (F1.out.below hb)
                  have G1 := Lib.hid (G0.out.below hb G0.out.lt)
                  clear HB30 HT30 O28 X27 J5 K4 I2 F1 G0
                  clear hb
                  go_wp2
                  go_ret
                  exact ⟨rfl, HB31.out⟩
          · have HBK := Lib.hid hback
            clear hback HTM
            obtain ⟨z0, z1, _, _⟩ := Z15.out.two
            go_wp2_with fail
            refine (HBK.out _).mono ?_
            rintro e w18 ⟨A12, c12, rfl, hO, hb⟩
            have HB24 := Lib.hid (HB23.out.trans ((hb).mono HB23.out.size))
            have HT24 := Lib.hid (HT23.out.below hb)
            have O22 := Lib.hid (O21.out.below hb)
            have X21 := Lib.hid (X20.out.below hb X20.out.lt)
            have R17 := Lib.hid (R16.out.below hb)
            have Z16 := Lib.hid (Z15.out.below hb Z15.out.lt)
            clear HB23 HT23 O21 X20 R16 Z15
            have D0 := Lib.hid (hO.ints)
            clear hb
            clear hO z0 z1 HBK
            have hal : Below w18.heap.size w18 (w18.alloc (.cells #[.int .i64 p, .slice A12 Lx.length c12] 28)) := (Below.refl _ _).alloc (Nat.le_refl _) _
            have hbx := Box.new w18 28 #[.int .i64 p, .slice A12 Lx.length c12]
            have HB25 := Lib.hid (HB24.out.trans ((hal).mono HB24.out.size))
            have HT25 := Lib.hid (HT24.out.below hal)
            have O23 := Lib.hid (O22.out.below hal)
            have X22 := Lib.hid (X21.out.below hal X21.out.lt)
            have R18 := Lib.hid (R17.out.below hal)
            have Z17 := Lib.hid (Z16.out.below hal Z16.out.lt)
            have D1 := Lib.hid (D0.out.below hal)
            clear HB24 HT24 O22 X21 R17 Z16 D0
            have B0 := Lib.hid (hbx)
            clear hal hbx
            obtain ⟨q0, q1, _, _⟩ := B0.out.two
            obtain ⟨z0, z1, _, _⟩ := Z17.out.two
            go_wp2_with fail
            generalize hWx : w18.alloc (.cells #[.int .i64 p, .slice A12 Lx.length c12] 28) = WB at *
            clear hWx
            generalize w18.heap.size = bB at *
            refine (state9_same A12 A9 Lx.length c12 c9 p Lx _ rfl (by omega) D1.out R18.out).mono ?_
            rintro e w19 ⟨rfl, hb⟩
            have HB26 := Lib.hid (HB25.out.trans ((hb).mono HB25.out.size))
            have HT26 := Lib.hid (HT25.out.below hb)
            have O24 := Lib.hid (O23.out.below hb)
            have X23 := Lib.hid (X22.out.below hb X22.out.lt)
            have R19 := Lib.hid (R18.out.below hb)
            have Z18 := Lib.hid (Z17.out.below hb Z17.out.lt)
            have D2 := Lib.hid (D1.out.below hb)
            have B1 := Lib.hid (B0.out.below hb B0.out.lt)
            clear HB25 HT25 O23 X22 R18 Z17 D1 B0
            clear hb
            clear q0 q1 z0 z1
            clear R19
            clear Z18
            clear D2
            clear B1
            rcases HST.out with ⟨rfl, hL0⟩ | ⟨rfl, ht01, ht256, htime, hrest⟩
            · have h0 : ln = 0 := by rw [← hln.out, hL0]; rfl
              subst h0
              obtain ⟨x0, x1, _, _⟩ := X23.out.two
              go_wp2
              go_ret
              exact ⟨rfl, HB26.out⟩
            · have HTI := Lib.hid htime
              have HRS := Lib.hid hrest
              clear htime hrest HST
              obtain ⟨x0, x1, _, _⟩ := X23.out.two
              go_wp2_with fail
              refine (HTI.out A5 c5 _ O24.out).mono ?_
              rintro e w20 ⟨rfl, hb⟩
              have HB27 := Lib.hid (HB26.out.trans ((hb).mono HB26.out.size))
              have HT27 := Lib.hid (HT26.out.below hb)
              have O25 := Lib.hid (O24.out.below hb)
              have X24 := Lib.hid (X23.out.below hb X23.out.lt)
              clear HB26 HT26 O24 X23
              clear hb
              clear x0 x1 HTI
              rcases HRS.out with rfl | ⟨P0, d0, f0, t0, L0, hl0, h1, h2, h3⟩
              · go_wp2
                go_ret
                exact ⟨rfl, HB27.out⟩
              · have G1 := Lib.hid h1
                have G2 := Lib.hid h2
                have G3 := Lib.hid h3
                clear h1 h2 h3 HRS
                by_cases ht0 : t = 0
                · subst ht0
                  go_wp2
                  go_ret
                  exact ⟨rfl, HB27.out⟩
                · have ht1 : (t == 0) = false := by simpa using ht0
                  have ht2 : 1 ≤ t := by omega
                  go_wp2_with fail
                  refine (G1.out _).mono ?_
                  rintro e w21 ⟨A10, c10, rfl, hO, hb⟩
                  have HB28 := Lib.hid (HB27.out.trans ((hb).mono HB27.out.size))
                  have HT28 := Lib.hid (HT27.out.below hb)
                  have O26 := Lib.hid (O25.out.below hb)
                  have X25 := Lib.hid (X24.out.below hb X24.out.lt)
                  clear HB27 HT27 O25 X24
                  have J0 := Lib.hid (hO.ints)
                  clear hb
                  have hcap := OwnG.cap hO
                  clear hO
                  have hal : Below w21.heap.size w21 (w21.alloc (.cells #[.int .i64 P0, .slice A10 L0.length c10] 28)) := (Below.refl _ _).alloc (Nat.le_refl _) _
                  have hbx := Box.new w21 28 #[.int .i64 P0, .slice A10 L0.length c10]
                  have HB29 := Lib.hid (HB28.out.trans ((hal).mono HB28.out.size))
                  have HT29 := Lib.hid (HT28.out.below hal)
                  have O27 := Lib.hid (O26.out.below hal)
                  have X26 := Lib.hid (X25.out.below hal X25.out.lt)
                  have J1 := Lib.hid (J0.out.below hal)
                  clear HB28 HT28 O26 X25 J0
                  have K0 := Lib.hid (hbx)
                  clear hal hbx
                  go_wp2_with fail
                  generalize hWx : w21.alloc (.cells #[.int .i64 P0, .slice A10 L0.length c10] 28) = WK at *
                  clear hWx
                  generalize w21.heap.size = bK at *
                  refine (G2.out _ HT29.out).mono ?_
                  rintro e w22 ⟨rfl, hb⟩
                  have HB30 := Lib.hid (HB29.out.trans ((hb).mono HB29.out.size))
                  have HT30 := Lib.hid (HT29.out.below hb)
                  have O28 := Lib.hid (O27.out.below hb)
                  have X27 := Lib.hid (X26.out.below hb X26.out.lt)
                  have J2 := Lib.hid (J1.out.below hb)
                  have K1 := Lib.hid (K0.out.below hb K0.out.lt)
                  clear HB29 HT29 O27 X26 J1 K0
                  clear hb
                  have hal : Below w22.heap.size w22 (w22.alloc (.cells #[.int .i64 d0, .int .i64 f0, .int .i64 t0] 36)) := (Below.refl _ _).alloc (Nat.le_refl _) _
                  have hbx := Box.new w22 36 #[.int .i64 d0, .int .i64 f0, .int .i64 t0]
                  have HB31 := Lib.hid (HB30.out.trans ((hal).mono HB30.out.size))
                  have HT31 := Lib.hid (HT30.out.below hal)
                  have O29 := Lib.hid (O28.out.below hal)
                  have X28 := Lib.hid (X27.out.below hal X27.out.lt)
                  have J3 := Lib.hid (J2.out.below hal)
                  have K2 := Lib.hid (K1.out.below hal K1.out.lt)
                  clear HB30 HT30 O28 X27 J2 K1
                  have I0 := Lib.hid (hbx)
                  clear hal hbx
                  obtain ⟨k0, k1, _, _⟩ := K2.out.two
                  obtain ⟨i0, i1, i2⟩ := I0.out.three
                  go_wp2_with fail
                  generalize hWx : w22.alloc (.cells #[.int .i64 d0, .int .i64 f0, .int .i64 t0] 36) = WI at *
                  clear hWx
                  generalize w22.heap.size = bI at *
                  refine (G3.out A10 c10 _ J3.out hcap.1 (by have := hcap.2; unfold maxLen at this; omega)).mono ?_
                  rintro e w23 ⟨A11, c11, rfl, hO, hb⟩
                  have HB32 := Lib.hid (HB31.out.trans ((hb).mono HB31.out.size))
                  have HT32 := Lib.hid (HT31.out.below hb)
                  have O30 := Lib.hid (O29.out.below hb)
                  have X29 := Lib.hid (X28.out.below hb X28.out.lt)
                  have J4 := Lib.hid (J3.out.below hb)
                  have K3 := Lib.hid (K2.out.below hb K2.out.lt)
                  have I1 := Lib.hid (I0.out.below hb I0.out.lt)
                  clear HB31 HT31 O29 X28 J3 K2 I0
                  have F0 := Lib.hid (hO.ints)
                  clear hb
                  clear hO k0 k1 i0 i1 i2
                  have hal : Below w23.heap.size w23 (w23.alloc (.cells #[.int .i64 P, .slice A11 ln c11] 28)) := (Below.refl _ _).alloc (Nat.le_refl _) _
                  have hbx := Box.new w23 28 #[.int .i64 P, .slice A11 ln c11]
                  have HB33 := Lib.hid (HB32.out.trans ((hal).mono HB32.out.size))
                  have HT33 := Lib.hid (HT32.out.below hal)
                  have O31 := Lib.hid (O30.out.below hal)
                  have X30 := Lib.hid (X29.out.below hal X29.out.lt)
                  have J5 := Lib.hid (J4.out.below hal)
                  have K4 := Lib.hid (K3.out.below hal K3.out.lt)
                  have I2 := Lib.hid (I1.out.below hal I1.out.lt)
                  have F1 := Lib.hid (F0.out.below hal)
                  clear HB32 HT32 O30 X29 J4 K3 I1 F0
                  have G0 := Lib.hid (hbx)
                  clear hal hbx
                  obtain ⟨g0, g1, _, _⟩ := G0.out.two
                  obtain ⟨x0, x1, _, _⟩ := X30.out.two
                  go_wp2_with fail
                  generalize hWx : w23.alloc (.cells #[.int .i64 P, .slice A11 ln c11] 28) = WG at *
                  clear hWx
                  generalize w23.heap.size = bG at *
                  refine (state9_same A11 A5 ln c11 c5 P L _ hln.out (by omega) F1.out O31.out).mono ?_
                  rintro e w24 ⟨rfl, hb⟩
                  have HB34 := Lib.hid (HB33.out.trans ((hb).mono HB33.out.size))
                  have HT34 := Lib.hid (HT33.out.below hb)
                  have O32 := Lib.hid (O31.out.below hb)
                  have X31 := Lib.hid (X30.out.below hb X30.out.lt)
                  have J6 := Lib.hid (J5.out.below hb)
                  have K5 := Lib.hid (K4.out.below hb K4.out.lt)
                  have I3 := Lib.hid (I2.out.below hb I2.out.lt)
                  have F2 := Lib.hid (F1.out.below hb)
                  have G1 := Lib.hid (G0.out.below hb G0.out.lt)
                  clear HB33 HT33 O31 X30 J5 K4 I2 F1 G0
                  clear hb
                  go_wp2
                  go_ret
                  exact ⟨rfl, HB34.out⟩

end Go.Proofs.YtcicjnpnhaddcaaDoor
