/- 'RenamePegs' of the program answers at every argument as the specification's model, and leaves its arguments as they were. Conditions: none. -/
import Derived.Test.YtppmclaejaoceaaOpen
import Derived.Test.YtppmclaejaoceaaOpenState
import Derived.Test.YtppmclaejaoceaaHeld
import Derived.Test.YtppmclaejaoceaaApart
import Derived.Test.YtppmclaejaoceaaRename
import Derived.Test.YtppmclaejaoceaaRenameI
import Derived.Deep.RegionHeld3
namespace Go.Proofs.Ytppmclaejaoceaa.fnExactRenamePegs
open Go.ChangeShapes Go.WideShapes Go.ChangeAt Go.RowKit Go.Joins
open Go.ChangeMaps (open_string)
set_option linter.unusedVariables false

theorem szI_no' {n : Nat} {l : Int} (h : l < n) : szI n l = -1 := by unfold szI; omega
theorem szI_yes' {n : Nat} {l : Int} (h : ¬ l < n) : szI n l = l - n := by unfold szI; omega

theorem szI_no {n : Nat} (h : ¬ n ≤ 1048576) : szI n 1048576 = -1 := by unfold szI; omega
theorem szI_yes {n : Nat} (h : n ≤ 1048576) : 0 ≤ szI n 1048576 := by unfold szI; omega

set_option maxRecDepth 100000 in
set_option maxHeartbeats 16000000 in
theorem core (p0 : Int) (A0 : Option Addr) (n0 c0 : Nat) (L0 : List Int) (A1 : Option Addr) (n1 c1 : Nat) (L1 : List Int) (P E : Int) (LL : List Int) (nn : Nat) (hnn : nn ≤ 1048576) (hLL : LL.length = nn) (w : World) (hL0 : L0.length = n0) (hn0 : n0 ≤ 1048576) (hI0 : Ints w A0 L0) (hL1 : L1.length = n1) (hn1 : n1 ≤ 1048576) (hI1 : Ints w A1 L1)
    (hspec : ∀ g0 g1 W, Ints W (some ⟨g0, 0, none⟩) L0 → Ints W (some ⟨g1, 0, none⟩) L1 → Calls Try.prog 10 #[.agg #[.int .i64 p0, .slice (some ⟨g0, 0, none⟩) n0 n0], .slice (some ⟨g1, 0, none⟩) n1 n1] W (RetState W P nn LL E))
    (himpl : ∀ g0 g1 W, Ints W (some ⟨g0, 0, none⟩) L0 → Ints W (some ⟨g1, 0, none⟩) L1 → Calls Try.prog 13 #[.agg #[.int .i64 p0, .slice (some ⟨g0, 0, none⟩) n0 n0], .slice (some ⟨g1, 0, none⟩) n1 n1] W (RetState W P nn LL E)) :
    Calls Try.prog 3 #[.agg #[.int .i64 p0, .slice A0 n0 c0], .slice A1 n1 c1] w fun e w' => e = .returned (.bool true) ∧ Below w.heap.size w w' := by
  have HS := Lib.hid hspec
  have HP := Lib.hid himpl
  have HLL := Lib.hid hLL
  have HL0 := Lib.hid hL0
  have HL1 := Lib.hid hL1
  have S0 := Lib.hid (Box.new w 24 #[.int .i64 p0, .slice A0 n0 c0])
  have HB0 := Lib.hid ((Below.refl w.heap.size w).alloc (Nat.le_refl _) (.cells #[.int .i64 p0, .slice A0 n0 c0] 24))
  have h0 := szI_yes hn0
  clear hspec himpl hLL hL0 hL1
  go_enter Try.func3, Try.ntmps3
  obtain ⟨sz0, sz1, _, _⟩ := S0.out.two
  go_wp2_with fail
  refine (szState_calls A0 n0 c0 p0 1048576 _ (by omega) (by omega) (by omega)).mono ?_
  rintro e w0 ⟨rfl, hb⟩
  have S1 := Lib.hid (S0.out.below hb S0.out.lt)
  have HB1 := Lib.hid (HB0.out.trans ((hb).mono HB0.out.size))
  clear S0 HB0
  clear hb
  clear sz0 sz1
  have hc := Lib.hid (hI0.below HB1.out)
  obtain ⟨sz0, sz1, _, _⟩ := S1.out.two
  go_wp2_with fail
  refine (toState_calls A0 n0 c0 p0 L0 _ HL0.out hn0 hc.out).mono ?_
  rintro e w1 ⟨g0, rfl, hg, hr, hb⟩
  clear sz0 sz1
  have S2 := Lib.hid (S1.out.below hb S1.out.lt)
  have HB2 := Lib.hid (HB1.out.trans ((hb).mono HB1.out.size))
  clear S1 HB1
  have T0_0 := Lib.hid (hr.ints)
  clear hb hg hr hc
  have hc := Lib.hid (hI1.below HB2.out)
  go_wp2_with fail
  refine (toInt64S_calls A1 n1 c1 L1 _ HL1.out hn1 hc.out).mono ?_
  rintro e w1 ⟨g1, rfl, hg, hr, hb⟩
  have S3 := Lib.hid (S2.out.below hb S2.out.lt)
  have T0_1 := Lib.hid (T0_0.out.below hb)
  have HB3 := Lib.hid (HB2.out.trans ((hb).mono HB2.out.size))
  clear S2 T0_0 HB2
  have T1_0 := Lib.hid (hr.ints)
  clear hb hg hr hc
  go_wp2_with fail
  refine (HS.out g0 g1 _ T0_1.out T1_0.out).mono ?_
  rintro e w3 ⟨AO, cO, rfl, hO, hb⟩
  have S4 := Lib.hid (S3.out.below hb S3.out.lt)
  have HB4 := Lib.hid (HB3.out.trans ((hb).mono HB3.out.size))
  clear S3 T0_1 T1_0 HB3
  have O0 := Lib.hid hO
  clear hO hb
  have hX := Box.new w3 26 #[.int .i64 P, .slice AO nn cO]
  have hba : Below w3.heap.size w3 (World.alloc w3 (.cells #[.int .i64 P, .slice AO nn cO] 26)) := (Below.refl _ w3).alloc (Nat.le_refl _) _
  have S5 := Lib.hid (S4.out.below hba S4.out.lt)
  have O1 := Lib.hid (O0.out.below hba)
  have HB5 := Lib.hid (HB4.out.trans ((hba).mono HB4.out.size))
  clear S4 O0 HB4
  have X0 := Lib.hid hX
  clear hX hba
  have hc := Lib.hid (hI0.below HB5.out)
  obtain ⟨sz0, sz1, _, _⟩ := S5.out.two
  go_wp2_with fail
  generalize hWW : World.alloc w3 (.cells #[.int .i64 P, .slice AO nn cO] 26) = WX at *
  clear hWW
  generalize w3.heap.size = bX at *
  refine (toState_calls A0 n0 c0 p0 L0 _ HL0.out hn0 hc.out).mono ?_
  rintro e w40 ⟨v0, rfl, hg, hr, hb⟩
  clear sz0 sz1
  have BV0 := HB5.out.size
  have hrow := hr.own hg (by rw [HL0.out]; exact hn0)
  rw [HL0.out] at hrow
  have AP1 := Lib.hid (own_apart O1.out hrow (Nat.le_refl _))
  have AB1 := Lib.hid (own_apart_back O1.out hrow (Nat.le_refl _))
  have S6 := Lib.hid (S5.out.below hb S5.out.lt)
  have O2 := Lib.hid (O1.out.below hb)
  have X1 := Lib.hid (X0.out.below hb X0.out.lt)
  have HB6 := Lib.hid (HB5.out.trans ((hb).mono HB5.out.size))
  clear S5 O1 X0 HB5
  have V0_0 := Lib.hid hrow
  clear hb hg hr hrow hc
  have hX := Box.new w40 26 #[.int .i64 p0, .slice (some ⟨v0, 0, none⟩) n0 n0]
  have hba : Below w40.heap.size w40 (World.alloc w40 (.cells #[.int .i64 p0, .slice (some ⟨v0, 0, none⟩) n0 n0] 26)) := (Below.refl _ w40).alloc (Nat.le_refl _) _
  have S7 := Lib.hid (S6.out.below hba S6.out.lt)
  have O3 := Lib.hid (O2.out.below hba)
  have X2 := Lib.hid (X1.out.below hba X1.out.lt)
  have V0_1 := Lib.hid (V0_0.out.below hba)
  have HB7 := Lib.hid (HB6.out.trans ((hba).mono HB6.out.size))
  clear S6 O2 X1 V0_0 HB6
  have U0 := Lib.hid hX
  clear hX hba
  have hc := Lib.hid (hI1.below HB7.out)
  go_wp2_with fail
  generalize hWW : World.alloc w40 (.cells #[.int .i64 p0, .slice (some ⟨v0, 0, none⟩) n0 n0] 26) = WU at *
  clear hWW
  generalize w40.heap.size = bU at *
  refine (toInt64S_calls A1 n1 c1 L1 _ HL1.out hn1 hc.out).mono ?_
  rintro e w41 ⟨v1, rfl, hg, hr, hb⟩
  have BV1 := HB7.out.size
  have hrow := hr.own hg (by rw [HL1.out]; exact hn1)
  rw [HL1.out] at hrow
  have AP2 := Lib.hid (own_apart O3.out hrow (Nat.le_refl _))
  have AB2 := Lib.hid (own_apart_back O3.out hrow (Nat.le_refl _))
  have AP3 := Lib.hid (own_apart V0_1.out hrow (Nat.le_refl _))
  have AB3 := Lib.hid (own_apart_back V0_1.out hrow (Nat.le_refl _))
  have S8 := Lib.hid (S7.out.below hb S7.out.lt)
  have O4 := Lib.hid (O3.out.below hb)
  have X3 := Lib.hid (X2.out.below hb X2.out.lt)
  have V0_2 := Lib.hid (V0_1.out.below hb)
  have U1 := Lib.hid (U0.out.below hb U0.out.lt)
  have HB8 := Lib.hid (HB7.out.trans ((hb).mono HB7.out.size))
  clear S7 O3 X2 V0_1 U0 HB7
  have V1_0 := Lib.hid hrow
  clear hb hg hr hrow hc
  obtain ⟨uz0, uz1, _, _⟩ := U1.out.two
  go_wp2_with fail
  refine (HP.out v0 v1 _ (Own.ints V0_2.out) (Own.ints V1_0.out)).mono ?_
  rintro e w6 ⟨A9, c9, rfl, hQ, hb⟩
  have BQ := HB8.out.size
  have AP4 := Lib.hid (own_apart O4.out hQ (Nat.le_refl _))
  have AB4 := Lib.hid (own_apart_back O4.out hQ (Nat.le_refl _))
  have AP5 := Lib.hid (own_apart V0_2.out hQ (Nat.le_refl _))
  have AB5 := Lib.hid (own_apart_back V0_2.out hQ (Nat.le_refl _))
  have AP6 := Lib.hid (own_apart V1_0.out hQ (Nat.le_refl _))
  have AB6 := Lib.hid (own_apart_back V1_0.out hQ (Nat.le_refl _))
  have S9 := Lib.hid (S8.out.below hb S8.out.lt)
  have O5 := Lib.hid (O4.out.below hb)
  have X4 := Lib.hid (X3.out.below hb X3.out.lt)
  have V0_3 := Lib.hid (V0_2.out.below hb)
  have U2 := Lib.hid (U1.out.below hb U1.out.lt)
  have V1_1 := Lib.hid (V1_0.out.below hb)
  have HB9 := Lib.hid (HB8.out.trans ((hb).mono HB8.out.size))
  clear S8 O4 X3 V0_2 U1 V1_0 HB8
  have Q0 := Lib.hid hQ
  clear hb hQ
  clear uz0 uz1
  have hX := Box.new w6 26 #[.int .i64 P, .slice A9 nn c9]
  have hba : Below w6.heap.size w6 (World.alloc w6 (.cells #[.int .i64 P, .slice A9 nn c9] 26)) := (Below.refl _ w6).alloc (Nat.le_refl _) _
  have S10 := Lib.hid (S9.out.below hba S9.out.lt)
  have O6 := Lib.hid (O5.out.below hba)
  have X5 := Lib.hid (X4.out.below hba X4.out.lt)
  have V0_4 := Lib.hid (V0_3.out.below hba)
  have U3 := Lib.hid (U2.out.below hba U2.out.lt)
  have V1_2 := Lib.hid (V1_1.out.below hba)
  have Q1 := Lib.hid (Q0.out.below hba)
  have HB10 := Lib.hid (HB9.out.trans ((hba).mono HB9.out.size))
  clear S9 O5 X4 V0_3 U2 V1_1 Q0 HB9
  have Y0 := Lib.hid hX
  clear hX hba
  obtain ⟨xz0, xz1, _, _⟩ := X5.out.two
  obtain ⟨yz0, yz1, _, _⟩ := Y0.out.two
  go_wp2_with fail
  generalize hWW : World.alloc w6 (.cells #[.int .i64 P, .slice A9 nn c9] 26) = WY at *
  clear hWW
  generalize w6.heap.size = bY at *
  refine (eqState_calls A9 AO nn c9 nn cO P P LL LL _ HLL.out HLL.out hnn hnn (Own.ints Q1.out) (Own.ints O6.out)).mono ?_
  rintro e w7 ⟨rfl, hb⟩
  have S11 := Lib.hid (S10.out.below hb S10.out.lt)
  have O7 := Lib.hid (O6.out.below hb)
  have X6 := Lib.hid (X5.out.below hb X5.out.lt)
  have V0_5 := Lib.hid (V0_4.out.below hb)
  have U4 := Lib.hid (U3.out.below hb U3.out.lt)
  have V1_3 := Lib.hid (V1_2.out.below hb)
  have Q2 := Lib.hid (Q1.out.below hb)
  have Y1 := Lib.hid (Y0.out.below hb Y0.out.lt)
  have HB11 := Lib.hid (HB10.out.trans ((hb).mono HB10.out.size))
  clear S10 O6 X5 V0_4 U3 V1_2 Q1 Y0 HB10
  clear hb
  clear xz0 xz1 yz0 yz1
  have hI7 := Lib.hid (hI0.below HB11.out)
  have U7 := U4
  have X7 := S11
  have V7 := V0_5
  obtain ⟨u0, u1, s0, s1⟩ := cells22 U7.out X7.out
  have zu := U7.out.lt
  have zx := X7.out.lt
  go_wp2_with fail
  go_region_held3 (fun w' => w'.cell? ⟨bU, 0, none⟩ = some (.int .i64 p0) ∧ w'.cell? ⟨bU, 1, none⟩ = some (.slice (some ⟨v0, 0, none⟩) n0 n0) ∧ w'.cell? ⟨w.heap.size, 0, none⟩ = some (.int .i64 p0) ∧ w'.cell? ⟨w.heap.size, 1, none⟩ = some (.slice A0 n0 c0))
    (first | exact cells22 U7.out X7.out | exact cells22 U8.out X8.out | exact cells22 U9.out X9.out | go_keep)
    (first
    | (go_at_call 11; refine (toState_calls A0 n0 c0 p0 L0 _ HL0.out hn0 ?_).mono ?_; (exact hI7.out); rintro e w8 ⟨gr, rfl, hgr, hr8, hb8⟩; have U8 := Lib.hid (Box.below U7.out (undrew hb8) zu); have X8 := Lib.hid (Box.below X7.out (undrew hb8) zx))
    | (go_at_call 14; refine (eqState_calls (some ⟨v0, 0, none⟩) (some ⟨gr, 0, none⟩) n0 n0 n0 n0 p0 p0 L0 L0 _ HL0.out HL0.out hn0 hn0 ?_ ?_).mono ?_; (exact (Own.ints V7.out).below (undrew hb8)); (exact hr8.ints); rintro e w9 ⟨rfl, hb9⟩; have U9 := Lib.hid (Box.below U8.out hb9 (Box.lt U8.out)); have X9 := Lib.hid (Box.below X8.out hb9 (Box.lt X8.out))))
  clear U8 X8 U9 X9 u0 u1 s0 s1 zu zx hr8 hgr U7 X7 V7
  have S12 := Lib.hid (S11.out.below (undrew hb8) S11.out.lt)
  have O8 := Lib.hid (O7.out.below (undrew hb8))
  have X7 := Lib.hid (X6.out.below (undrew hb8) X6.out.lt)
  have V0_6 := Lib.hid (V0_5.out.below (undrew hb8))
  have U5 := Lib.hid (U4.out.below (undrew hb8) U4.out.lt)
  have V1_4 := Lib.hid (V1_3.out.below (undrew hb8))
  have Q3 := Lib.hid (Q2.out.below (undrew hb8))
  have Y2 := Lib.hid (Y1.out.below (undrew hb8) Y1.out.lt)
  have HB12 := Lib.hid (HB11.out.trans (((undrew hb8)).mono HB11.out.size))
  clear S11 O7 X6 V0_5 U4 V1_3 Q2 Y1 HB11
  have S13 := Lib.hid (S12.out.below hb9 S12.out.lt)
  have O9 := Lib.hid (O8.out.below hb9)
  have X8 := Lib.hid (X7.out.below hb9 X7.out.lt)
  have V0_7 := Lib.hid (V0_6.out.below hb9)
  have U6 := Lib.hid (U5.out.below hb9 U5.out.lt)
  have V1_5 := Lib.hid (V1_4.out.below hb9)
  have Q4 := Lib.hid (Q3.out.below hb9)
  have Y3 := Lib.hid (Y2.out.below hb9 Y2.out.lt)
  have HB13 := Lib.hid (HB12.out.trans ((hb9).mono HB12.out.size))
  clear S12 O8 X7 V0_6 U5 V1_4 Q3 Y2 HB12
  clear hb8 hb9 hI7
  have hc := Lib.hid (hI1.below HB13.out)
  go_wp2_with fail
  refine (toInt64S_calls A1 n1 c1 L1 _ HL1.out hn1 hc.out).mono ?_
  rintro e w8 ⟨gr, rfl, hg, hr, hb⟩
  have S14 := Lib.hid (S13.out.below hb S13.out.lt)
  have O10 := Lib.hid (O9.out.below hb)
  have X9 := Lib.hid (X8.out.below hb X8.out.lt)
  have V0_8 := Lib.hid (V0_7.out.below hb)
  have U7 := Lib.hid (U6.out.below hb U6.out.lt)
  have V1_6 := Lib.hid (V1_5.out.below hb)
  have Q5 := Lib.hid (Q4.out.below hb)
  have Y4 := Lib.hid (Y3.out.below hb Y3.out.lt)
  have HB14 := Lib.hid (HB13.out.trans ((hb).mono HB13.out.size))
  clear S13 O9 X8 V0_7 U6 V1_5 Q4 Y3 HB13
  go_wp2_with fail
  refine (eqInt64S_calls (some ⟨v1, 0, none⟩) (some ⟨gr, 0, none⟩) n1 n1 n1 n1 L1 L1 _ HL1.out HL1.out hn1 hn1 (Own.ints V1_6.out) hr.ints).mono ?_
  rintro e w9 ⟨rfl, mq, rfl⟩
  clear hb hg hr hc
  have S15 := Lib.hid (S14.out.below (belowDraws (Below.refl _ _) mq) S14.out.lt)
  have O11 := Lib.hid (O10.out.below (belowDraws (Below.refl _ _) mq))
  have X10 := Lib.hid (X9.out.below (belowDraws (Below.refl _ _) mq) X9.out.lt)
  have V0_9 := Lib.hid (V0_8.out.below (belowDraws (Below.refl _ _) mq))
  have U8 := Lib.hid (U7.out.below (belowDraws (Below.refl _ _) mq) U7.out.lt)
  have V1_7 := Lib.hid (V1_6.out.below (belowDraws (Below.refl _ _) mq))
  have Q6 := Lib.hid (Q5.out.below (belowDraws (Below.refl _ _) mq))
  have Y5 := Lib.hid (Y4.out.below (belowDraws (Below.refl _ _) mq) Y4.out.lt)
  have HB15 := Lib.hid (HB14.out.trans (((belowDraws (Below.refl _ _) mq)).mono HB14.out.size))
  clear S14 O10 X9 V0_8 U7 V1_6 Q5 Y4 HB14
  obtain ⟨uz0, uz1, _, _⟩ := U8.out.two
  go_wp2_with fail
  refine (markState_calls _ (some ⟨v0, 0, none⟩) n0 n0 p0 L0 (1) _ V0_9.out hn0 (by omega) (by omega)).mono ?_
  rintro e w10 ⟨rfl, hO, hg⟩
  have S16 := Lib.hid (S15.out.grown hg (V0_9.out.box_ne S15.out (by decide)))
  have O12 := Lib.hid (O11.out.kept hg AP1.out)
  have X11 := Lib.hid (X10.out.grown hg (V0_9.out.box_ne X10.out (by decide)))
  have U9 := Lib.hid (U8.out.grown hg (V0_9.out.box_ne U8.out (by decide)))
  have V1_8 := Lib.hid (V1_7.out.kept hg AB3.out)
  have Q7 := Lib.hid (Q6.out.kept hg AB5.out)
  have Y6 := Lib.hid (Y5.out.grown hg (V0_9.out.box_ne Y5.out (by decide)))
  have V0_10 := Lib.hid hO
  have HB16 := Lib.hid (HB15.out.grown hg HB15.out.size (fun k hk => by have h1 := own_bk V0_9.out k hk; omega))
  clear S15 O11 X10 V0_9 U8 V1_7 Q6 Y5 HB15 hO hg
  clear uz0 uz1
  go_wp2_with fail
  refine (markInt64S_calls _ (some ⟨v1, 0, none⟩) n1 n1 L1 (1 + n0) _ V1_8.out hn1 (by omega) (by omega)).mono ?_
  rintro e w10 ⟨rfl, hO, hg⟩
  have S17 := Lib.hid (S16.out.grown hg (V1_8.out.box_ne S16.out (by decide)))
  have O13 := Lib.hid (O12.out.kept hg AP2.out)
  have X12 := Lib.hid (X11.out.grown hg (V1_8.out.box_ne X11.out (by decide)))
  have V0_11 := Lib.hid (V0_10.out.kept hg AP3.out)
  have U10 := Lib.hid (U9.out.grown hg (V1_8.out.box_ne U9.out (by decide)))
  have Q8 := Lib.hid (Q7.out.kept hg AB6.out)
  have Y7 := Lib.hid (Y6.out.grown hg (V1_8.out.box_ne Y6.out (by decide)))
  have V1_9 := Lib.hid hO
  have HB17 := Lib.hid (HB16.out.grown hg HB16.out.size (fun k hk => by have h1 := own_bk V1_8.out k hk; omega))
  clear S16 O12 X11 V0_10 U9 V1_8 Q7 Y6 HB16 hO hg
  obtain ⟨xz0, xz1, _, _⟩ := X12.out.two
  obtain ⟨yz0, yz1, _, _⟩ := Y7.out.two
  go_wp2_with fail
  refine (eqState_calls A9 AO nn c9 nn cO P P LL LL _ HLL.out HLL.out hnn hnn (Own.ints Q8.out) (Own.ints O13.out)).mono ?_
  rintro e w7 ⟨rfl, hb⟩
  have S18 := Lib.hid (S17.out.below hb S17.out.lt)
  have O14 := Lib.hid (O13.out.below hb)
  have X13 := Lib.hid (X12.out.below hb X12.out.lt)
  have Q9 := Lib.hid (Q8.out.below hb)
  have Y8 := Lib.hid (Y7.out.below hb Y7.out.lt)
  have HB18 := Lib.hid (HB17.out.trans ((hb).mono HB17.out.size))
  clear S17 O13 X12 Q8 Y7 HB17
  clear hb
  clear xz0 xz1 yz0 yz1
  obtain ⟨yz0, yz1, _, _⟩ := Y8.out.two
  go_wp2_with fail
  refine (markState_calls _ A9 nn c9 P LL 1 _ Q9.out hnn (by omega) (by omega)).mono ?_
  rintro e w12 ⟨rfl, hO, hg⟩
  have S19 := Lib.hid (S18.out.grown hg (Q9.out.box_ne S18.out (by decide)))
  have O15 := Lib.hid (O14.out.kept hg AP4.out)
  have X14 := Lib.hid (X13.out.grown hg (Q9.out.box_ne X13.out (by decide)))
  have Y9 := Lib.hid (Y8.out.grown hg (Q9.out.box_ne Y8.out (by decide)))
  have Q10 := Lib.hid hO
  have HB19 := Lib.hid (HB18.out.grown hg HB18.out.size (fun k hk => by have h1 := own_bk Q9.out k hk; omega))
  clear S18 O14 X13 Q9 Y8 HB18 hO hg
  clear yz0 yz1
  obtain ⟨yz0, yz1, _, _⟩ := Y9.out.two
  go_wp2_with fail
  refine (heldState_calls A9 nn c9 P 1 _ (Own.ints Q10.out) hnn (by omega) (by omega)).mono ?_
  rintro e w13 ⟨rfl, hb⟩
  have S20 := Lib.hid (S19.out.below hb S19.out.lt)
  have O16 := Lib.hid (O15.out.below hb)
  have X15 := Lib.hid (X14.out.below hb X14.out.lt)
  have Q11 := Lib.hid (Q10.out.below hb)
  have Y10 := Lib.hid (Y9.out.below hb Y9.out.lt)
  have HB20 := Lib.hid (HB19.out.trans ((hb).mono HB19.out.size))
  clear S19 O15 X14 Q10 Y9 HB19
  clear hb
  clear yz0 yz1
  have hc := Lib.hid (hI0.below HB20.out)
  obtain ⟨sz0, sz1, _, _⟩ := S20.out.two
  go_wp2_with fail
  refine (toState_calls A0 n0 c0 p0 L0 _ HL0.out hn0 hc.out).mono ?_
  rintro e w1 ⟨h0, rfl, hg, hr, hb⟩
  clear sz0 sz1
  have S21 := Lib.hid (S20.out.below hb S20.out.lt)
  have O17 := Lib.hid (O16.out.below hb)
  have X16 := Lib.hid (X15.out.below hb X15.out.lt)
  have Q12 := Lib.hid (Q11.out.below hb)
  have Y11 := Lib.hid (Y10.out.below hb Y10.out.lt)
  have HB21 := Lib.hid (HB20.out.trans ((hb).mono HB20.out.size))
  clear S20 O16 X15 Q11 Y10 HB20
  have T0_0 := Lib.hid (hr.ints)
  clear hb hg hr hc
  have hc := Lib.hid (hI1.below HB21.out)
  go_wp2_with fail
  refine (toInt64S_calls A1 n1 c1 L1 _ HL1.out hn1 hc.out).mono ?_
  rintro e w1 ⟨h1, rfl, hg, hr, hb⟩
  have S22 := Lib.hid (S21.out.below hb S21.out.lt)
  have O18 := Lib.hid (O17.out.below hb)
  have X17 := Lib.hid (X16.out.below hb X16.out.lt)
  have Q13 := Lib.hid (Q12.out.below hb)
  have Y12 := Lib.hid (Y11.out.below hb Y11.out.lt)
  have T0_1 := Lib.hid (T0_0.out.below hb)
  have HB22 := Lib.hid (HB21.out.trans ((hb).mono HB21.out.size))
  clear S21 O17 X16 Q12 Y11 T0_0 HB21
  have T1_0 := Lib.hid (hr.ints)
  clear hb hg hr hc
  go_wp2_with fail
  refine (HP.out h0 h1 _ T0_1.out T1_0.out).mono ?_
  rintro e w15 ⟨A14, c14, rfl, hK, hb⟩
  have O19 := Lib.hid (O18.out.below hb)
  have X18 := Lib.hid (X17.out.below hb X17.out.lt)
  have Q14 := Lib.hid (Q13.out.below hb)
  have Y13 := Lib.hid (Y12.out.below hb Y12.out.lt)
  have HB23 := Lib.hid (HB22.out.trans ((hb).mono HB22.out.size))
  clear S22 O18 X17 Q13 Y12 T0_1 T1_0 HB22
  have K0 := Lib.hid hK
  clear hK hb
  have hX := Box.new w15 26 #[.int .i64 P, .slice A14 nn c14]
  have hba : Below w15.heap.size w15 (World.alloc w15 (.cells #[.int .i64 P, .slice A14 nn c14] 26)) := (Below.refl _ w15).alloc (Nat.le_refl _) _
  have O20 := Lib.hid (O19.out.below hba)
  have X19 := Lib.hid (X18.out.below hba X18.out.lt)
  have Q15 := Lib.hid (Q14.out.below hba)
  have Y14 := Lib.hid (Y13.out.below hba Y13.out.lt)
  have K1 := Lib.hid (K0.out.below hba)
  have HB24 := Lib.hid (HB23.out.trans ((hba).mono HB23.out.size))
  clear O19 X18 Q14 Y13 K0 HB23
  have Z0 := Lib.hid hX
  clear hX hba
  obtain ⟨xz0, xz1, _, _⟩ := X19.out.two
  obtain ⟨zz0, zz1, _, _⟩ := Z0.out.two
  go_wp2_with fail
  generalize hWW : World.alloc w15 (.cells #[.int .i64 P, .slice A14 nn c14] 26) = WZ at *
  clear hWW
  generalize w15.heap.size = bZ at *
  refine (eqState_calls A14 AO nn c14 nn cO P P LL LL _ HLL.out HLL.out hnn hnn (Own.ints K1.out) (Own.ints O20.out)).mono ?_
  rintro e w7 ⟨rfl, hb⟩
  have O21 := Lib.hid (O20.out.below hb)
  have X20 := Lib.hid (X19.out.below hb X19.out.lt)
  have Q16 := Lib.hid (Q15.out.below hb)
  have Y15 := Lib.hid (Y14.out.below hb Y14.out.lt)
  have K2 := Lib.hid (K1.out.below hb)
  have Z1 := Lib.hid (Z0.out.below hb Z0.out.lt)
  have HB25 := Lib.hid (HB24.out.trans ((hb).mono HB24.out.size))
  clear O20 X19 Q15 Y14 K1 Z0 HB24
  clear hb
  clear xz0 xz1 zz0 zz1
  obtain ⟨yz0, yz1, _, _⟩ := Y15.out.two
  go_wp2_with fail
  refine (heldState_calls A9 nn c9 P 1 _ (Own.ints Q16.out) hnn (by omega) (by omega)).mono ?_
  rintro e w13 ⟨rfl, hb⟩
  have O22 := Lib.hid (O21.out.below hb)
  have X21 := Lib.hid (X20.out.below hb X20.out.lt)
  have Q17 := Lib.hid (Q16.out.below hb)
  have Y16 := Lib.hid (Y15.out.below hb Y15.out.lt)
  have K3 := Lib.hid (K2.out.below hb)
  have Z2 := Lib.hid (Z1.out.below hb Z1.out.lt)
  have HB26 := Lib.hid (HB25.out.trans ((hb).mono HB25.out.size))
  clear O21 X20 Q16 Y15 K2 Z1 HB25
  clear hb
  clear yz0 yz1
  go_wp2
  go_ret
  exact ⟨rfl, by first | exact HB26.out | (rw [← World.drewN_drewN]; exact HB26.out)⟩

theorem walk (p0 : Int) (A0 : Option Addr) (n0 c0 : Nat) (L0 : List Int) (A1 : Option Addr) (n1 c1 : Nat) (L1 : List Int) (w : World) (w0 : (Lit.int .i64 p0).wf = true) (hA0 : ArgInts w A0 n0 L0) (hA1 : ArgInts w A1 n1 L1) :
    Calls Try.prog 3 #[.agg #[.int .i64 p0, .slice A0 n0 c0], .slice A1 n1 c1] w fun e w' => e = .returned (.bool true) ∧ Below w.heap.size w w' := by
  obtain ⟨hL0, hm0, hI0⟩ := hA0
  obtain ⟨hL1, hm1, hI1⟩ := hA1
  by_cases hn1 : (1048576 : Int) < n1
  · go_enter Try.func3, Try.ntmps3
    go_wp2
    go_ret
    exact ⟨rfl, (Below.refl _ _).alloc (Nat.le_refl _) _⟩
  by_cases hn0 : n0 ≤ 1048576
  · exact core p0 A0 n0 c0 L0 A1 n1 c1 L1 (rpP p0 L0 L1) (rpE p0 L0 L1) (rpV p0 L0 L1) (rpV p0 L0 L1).length (by have := rpV_len p0 L0 L1; omega) rfl w hL0 (by omega) hI0 hL1 (by omega) hI1
      (fun g0 g1 W hW0 hW1 => specRenamePegs_ret p0 (some ⟨g0, 0, none⟩) n0 n0 L0 (some ⟨g1, 0, none⟩) n1 n1 L1 W hL0 (by omega) hW0 hL1 (by omega) hW1)
      (fun g0 g1 W hW0 hW1 => implRenamePegs_ret p0 (some ⟨g0, 0, none⟩) n0 n0 L0 (some ⟨g1, 0, none⟩) n1 n1 L1 W hL0 (by omega) hW0 hL1 (by omega) hW1)
  · have h0 := szI_no hn0
    go_enter Try.func3, Try.ntmps3
    go_wp2_with fail
    refine (szState_calls A0 n0 c0 p0 1048576 _ hm0 (by omega) (by omega)).mono ?_
    rintro e w1 ⟨rfl, hb1⟩
    have HB1 := Lib.hid (((Below.refl w.heap.size w).alloc (Nat.le_refl _) _).trans (hb1.mono (by simp)))
    clear hb1
    go_wp2
    go_ret
    exact ⟨rfl, HB1.out⟩

set_option maxRecDepth 100000 in
theorem lifted (os : Os) (started : os.Started) (H : Type) (enc : TypeId × Value → H) :
    ReturnsInHanded {} Try.checked os 3 .any (Rows.fnExactRenamePegsSpec.pre6 enc Try.prog Try.f3 Rows.fnExactRenamePegsRow.domain false) (Rows.fnExactRenamePegsSpec.post enc Try.prog Try.f3 false true false false) := by
  refine returnsInHanded_of_change (C := Try.checked) own started (by kernel_rfl) Try.func3
    (ChangeSpec.witness6 (enc := enc) (C := Try.checked) false ⟨#[], #[.agg #[.int .i64 0, .slice none 0 0], .slice none 0 0], []⟩ 8 (by kernel_rfl) (by kernel_rfl) (by kernel_rfl) (by kernel_rfl)) ?_
  intro W base args ds gs before hval0 hW hcnd _
  have hval : ∀ (j : Nat) t v, Try.f3.params[j]? = some t → args[j]? = some v → Value.okWide Try.prog W .any base t v := hval0
  have hW' := hW
  obtain ⟨p, q, hA0, hV, rfl, hfz, hnd⟩ := hW
  have hA : DataW.TrodAll enc Try.prog W 0 (fun _ => true) true Try.f3.params.toList args.toList ds p := hA0
  rw [Try.params3] at hA hval
  obtain ⟨v0, vs0, d0, ds0, p0, q0, hargs, rfl, rfl, h0, r0⟩ := trodAll_cons hA
  obtain ⟨v1, vs1, d1, ds1, p1, q1, rfl, rfl, rfl, h1, r1⟩ := trodAll_cons r0
  obtain ⟨rfl, rfl, rfl⟩ := trodAll_nil r1
  obtain rfl : args = #[v0, v1] := by cases args; simp_all
  obtain ⟨rfl, rfl⟩ := trodVars_none hV
  have lt0 : ∀ x ∈ p0, x.block < W.heap.size := by obtain ⟨m, hm⟩ := h0; exact DataW.trod_lt m _ _ _ hm
  have k0 := h0
  obtain ⟨a0, A0, n0, c0, L0, rfl, w0, hAI0⟩ := open_state (hval 0 24 v0 rfl rfl) h0
  have lt1 : ∀ x ∈ p1, x.block < W.heap.size := by obtain ⟨m, hm⟩ := h1; exact DataW.trod_lt m _ _ _ hm
  have k1 := h1
  obtain ⟨fu1, hf1⟩ := h1
  obtain ⟨A1, n1, c1, rfl⟩ := okWide_slice Try.underlying22 (hval 1 22 v1 rfl rfl)
  obtain ⟨A'1, n'1, c'1, L1, he1, hAI1⟩ := open_slice_ints (by simpa [Value.cells] using hf1)
  injection he1 with e1 e2 e3; subst e1 e2 e3
  clear hA0 hval0
  refine (walk a0 A0 n0 c0 L0 A1 n1 c1 L1 W w0 hAI0 hAI1).mono fun e W' ⟨he, bel⟩ => ?_
  subst he
  exact ⟨_, rfl, _, _, _, [], _, [], hW', trodAll_mk1 (shut_bool Try.underlying4 _), (trodAll_cons_mk (Below.trod laidOut (by kernel_rfl) (of_decide_eq_true (by kernel_rfl)) k0 bel lt0) (trodAll_cons_mk (Below.trod laidOut (by kernel_rfl) (of_decide_eq_true (by kernel_rfl)) k1 bel lt1) trodAll_mk0)), rfl, bel.frame _, fun h => by cases h⟩

theorem over : Rows.fnExactRenamePegsRow.holds Try.pinned (OpenSpec.ofChange Rows.fnExactRenamePegsSpec) :=
  OpenClaim.holds_of_wide 3 Try.f3 rfl rfl rfl rfl rfl rfl rfl ⟨rfl, rfl, rfl, rfl, rfl⟩ rfl rfl rfl rfl rfl (by kernel_rfl) Try.func3 (by kernel_rfl)
    (of_decide_eq_true (by kernel_rfl)) (by unfold Func.isWrapper; first | (rw [if_pos (by decide +kernel)]; kernel_rfl) | (rw [if_neg (by decide +kernel)]; exact ⟨rfl, rfl⟩))
    (fun os started H enc _ => lifted os started H enc)

theorem proved : Rows.FnExactRenamePegsSaid := over
#print axioms proved
end Go.Proofs.Ytppmclaejaoceaa.fnExactRenamePegs
