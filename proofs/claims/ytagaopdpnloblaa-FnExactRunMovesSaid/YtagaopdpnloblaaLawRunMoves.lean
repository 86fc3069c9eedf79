/- 'RunMoves' of the program answers at every argument as the specification's model, leaves its arguments as they were, and its answer is its own memory. Conditions: none. -/
import Derived.Test.YtagaopdpnloblaaOpen
import Derived.Test.YtagaopdpnloblaaOpenState
import Derived.Test.YtagaopdpnloblaaHeld
import Derived.Test.YtagaopdpnloblaaMvI
import Derived.Test.YtagaopdpnloblaaRunM
import Derived.Deep.RegionHeld3
namespace Go.Proofs.Ytagaopdpnloblaa.fnExactRunMoves
open Go.ChangeShapes Go.WideShapes Go.ChangeAt Go.RowKit Go.Joins
open Go.ChangeMaps (open_string)
set_option linter.unusedVariables false

theorem szI_no {n : Nat} (h : ¬ n ≤ 1048576) : szI n 1048576 = -1 := by unfold szI; omega
theorem szI_yes {n : Nat} (h : n ≤ 1048576) : 0 ≤ szI n 1048576 := by unfold szI; omega

theorem own_bkG {e s B : Nat} {w : World} {A : Option Addr} {n c : Nat} {xs : List Value} (h : OwnG e s B w A n c xs) : ∀ k, (Value.slice A n c).ownBlock = some k → B ≤ k := fun k hk => by
  rcases h.form with ⟨rfl, _⟩ | ⟨g, rfl, hB, _⟩
  · cases hk
  · have hk' : some g = some k := hk
    injection hk' with hk'
    omega
theorem block_of_own {e s B g g' : Nat} {w : World} {n c : Nat} {xs : List Value} (h : OwnG e s B w (some ⟨g, 0, none⟩) n c xs) (hk : (Value.slice (some ⟨g, 0, none⟩) n c).ownBlock = some g') : (some (some g) : Option (Option Nat)) = some (some g') := by
  have hk' : some g = some g' := hk
  rw [hk']

theorem block_of_ownG {e s B g k : Nat} {w : World} {n c : Nat} {xs : List Value} (h : OwnG e s B w (some ⟨g, 0, none⟩) n c xs) (hk : (Value.slice (some ⟨g, 0, none⟩) n c).ownBlock = some k) : g = k := by
  have hk' : some g = some k := hk
  injection hk' with hk'
theorem ownG_ge {e s B g : Nat} {w : World} {A : Option Addr} {n c : Nat} {xs : List Value} (h : OwnG e s B w A n c xs) (hA : A = some ⟨g, 0, none⟩) : B ≤ g := by
  subst hA
  exact (ownG_lt h).1

set_option maxRecDepth 100000 in
set_option maxHeartbeats 8000000 in
theorem core (p : Int) (A : Option Addr) (n c : Nat) (L : List Int) (AM : Option Addr) (m cM : Nat) (M : List Mv) (P E : Int) (LL : List Int) (nn : Nat) (w : World) (hnn : nn ≤ 1048576) (hLL : LL.length = nn) (hL : L.length = n) (hn : n ≤ 1048576) (hI : Ints w A L) (hM : M.length = m) (hnm : n + m ≤ 1048576) (hMv : MvsA w AM M)
    (hspec : ∀ g h W, Ints W (some ⟨g, 0, none⟩) L → Mvs W (some ⟨h, 0, none⟩) M → Calls Try.prog 16 #[.agg #[.int .i64 p, .slice (some ⟨g, 0, none⟩) n n], .slice (some ⟨h, 0, none⟩) m m] W (RetState W P nn LL E))
    (himpl : ∀ g h W, Ints W (some ⟨g, 0, none⟩) L → Mvs W (some ⟨h, 0, none⟩) M → Calls Try.prog 18 #[.agg #[.int .i64 p, .slice (some ⟨g, 0, none⟩) n n], .slice (some ⟨h, 0, none⟩) m m] W (RetState W P nn LL E)) :
    Calls Try.prog 4 #[.agg #[.int .i64 p, .slice A n c], .slice AM m cM] w fun e w' => e = .returned (.bool true) ∧ Below w.heap.size w w' := by
  have HS := Lib.hid hspec
  have HP := Lib.hid himpl
  have HL := Lib.hid hL
  have HM := Lib.hid hM
  have HLL := Lib.hid hLL
  have X0 := Lib.hid (Box.new w 24 #[.int .i64 p, .slice A n c])
  have HB0 := Lib.hid ((Below.refl w.heap.size w).alloc (Nat.le_refl _) (.cells #[.int .i64 p, .slice A n c] 24))
  have h0 := szI_yes hn
  have h1 : szI n 1048576 ≤ 1048576 := by unfold szI; omega
  have h2 : 0 ≤ szI m (szI n 1048576) := by unfold szI; omega
  have hmb : m ≤ 1048576 := by omega
  clear hspec himpl hL hM hLL
  go_enter Try.func4, Try.ntmps4
  go_wp2_with fail
  refine (szState_calls A n c p 1048576 _ (by omega) (by omega) (by omega)).mono ?_
  rintro e w1 ⟨rfl, hb⟩
  have X1 := Lib.hid (X0.out.below hb X0.out.lt)
  have HB1 := Lib.hid (HB0.out.trans ((hb).mono HB0.out.size))
  clear X0 HB0
  clear hb
  go_wp2_with fail
  refine (szMoveS_calls AM m cM (szI n 1048576) _ (by omega) h0 h1).mono ?_
  rintro e wz ⟨rfl, rfl⟩
  have hIs := Lib.hid (hI.below HB1.out)
  obtain ⟨s0, s1, _, _⟩ := X1.out.two
  go_wp2_with fail
  refine (toState_calls A n c p L _ HL.out hn hIs.out).mono ?_
  rintro e w2 ⟨g2, rfl, hg2, hr2, hb⟩
  clear s0 s1 hIs
  have X2 := Lib.hid (X1.out.below hb X1.out.lt)
  have HB2 := Lib.hid (HB1.out.trans ((hb).mono HB1.out.size))
  clear X1 HB1
  have hI2 := Lib.hid hr2.ints
  clear hb hg2 hr2
  have hMs := Lib.hid (hMv.below HB2.out)
  go_wp2_with fail
  refine (toMoveS_calls AM m cM M _ HM.out hmb hMs.out).mono ?_
  rintro e w3 ⟨g3, rfl, hg3, hO3, hb⟩
  clear hMs
  have hI3 := Lib.hid (hI2.out.below hb)
  have X3 := Lib.hid (X2.out.below hb X2.out.lt)
  have HB3 := Lib.hid (HB2.out.trans ((hb).mono HB2.out.size))
  clear X2 HB2
  have hM3 := Lib.hid (OwnM.mvs hO3)
  clear hb hg3 hO3 hI2
  go_wp2_with fail
  refine (HS.out g2 g3 _ hI3.out hM3.out).mono ?_
  rintro e w4 ⟨AO, cO, rfl, hO, hb⟩
  have X4 := Lib.hid (X3.out.below hb X3.out.lt)
  have HB4 := Lib.hid (HB3.out.trans ((hb).mono HB3.out.size))
  clear X3 HB3
  have hOI := hO.ints
  have R0 := Lib.hid (Box.new w4 29 #[.int .i64 P, .slice AO nn cO])
  have hba : Below w4.heap.size w4 (w4.alloc (.cells #[.int .i64 P, .slice AO nn cO] 29)) := (Below.refl _ w4).alloc (Nat.le_refl _) (.cells #[.int .i64 P, .slice AO nn cO] 29)
  have OI := Lib.hid (hOI.below hba)
  have X5 := Lib.hid (X4.out.below hba X4.out.lt)
  have HB5 := Lib.hid (HB4.out.trans ((hba).mono HB4.out.size))
  clear X4 HB4
  clear hO hOI hb hba hI3 hM3
  have HO0 := Lib.hid (Below.refl (w4.alloc (.cells #[.int .i64 P, .slice AO nn cO] 29)).heap.size (w4.alloc (.cells #[.int .i64 P, .slice AO nn cO] 29)))
  have hwW : w.heap.size ≤ (w4.alloc (.cells #[.int .i64 P, .slice AO nn cO] 29)).heap.size := HB5.out.size
  have hIs := Lib.hid (hI.below HB5.out)
  obtain ⟨s0, s1, _, _⟩ := X5.out.two
  go_wp2_with fail
  generalize hWO : w4.alloc (.cells #[.int .i64 P, .slice AO nn cO] 29) = W4 at *
  clear hWO
  generalize w4.heap.size = gR at *
  refine (toState_calls A n c p L _ HL.out hn hIs.out).mono ?_
  rintro e w5 ⟨g5, rfl, hg5, hr5, hb⟩
  clear s0 s1 hIs
  have hrow := hr5.own (B := W4.heap.size) hg5 (by rw [HL.out]; exact hn)
  rw [HL.out] at hrow
  have hg5lt := (ownG_lt hrow).2
  have X6 := Lib.hid (X5.out.below hb X5.out.lt)
  have R1 := Lib.hid (R0.out.below hb R0.out.lt)
  have HB6 := Lib.hid (HB5.out.trans ((hb).mono HB5.out.size))
  clear X5 R0 HB5
  have HO1 := Lib.hid (HO0.out.trans ((hb).mono HO0.out.size))
  clear HO0
  have V0 := Lib.hid hrow
  clear hb hr5 hrow
  have U0 := Lib.hid (Box.new w5 29 #[.int .i64 p, .slice (some ⟨g5, 0, none⟩) n n])
  have hba : Below w5.heap.size w5 (w5.alloc (.cells #[.int .i64 p, .slice (some ⟨g5, 0, none⟩) n n] 29)) := (Below.refl _ w5).alloc (Nat.le_refl _) (.cells #[.int .i64 p, .slice (some ⟨g5, 0, none⟩) n n] 29)
  have X7 := Lib.hid (X6.out.below hba X6.out.lt)
  have R2 := Lib.hid (R1.out.below hba R1.out.lt)
  have V1 := Lib.hid (V0.out.below hba)
  have HB7 := Lib.hid (HB6.out.trans ((hba).mono HB6.out.size))
  clear X6 R1 V0 HB6
  have HO2 := Lib.hid (HO1.out.trans ((hba).mono HO1.out.size))
  clear HO1
  clear hba
  have hg5b : g5 < (w5.alloc (.cells #[.int .i64 p, .slice (some ⟨g5, 0, none⟩) n n] 29)).heap.size := by simp; omega
  have hsb : W4.heap.size ≤ (w5.alloc (.cells #[.int .i64 p, .slice (some ⟨g5, 0, none⟩) n n] 29)).heap.size := HO2.out.size
  have hg8b : w5.heap.size < (w5.alloc (.cells #[.int .i64 p, .slice (some ⟨g5, 0, none⟩) n n] 29)).heap.size := by simp
  have hg58 := hg5lt
  go_wp2_with fail
  generalize hW5 : w5.alloc (.cells #[.int .i64 p, .slice (some ⟨g5, 0, none⟩) n n] 29) = W5 at *
  clear hW5
  generalize w5.heap.size = g8 at *
  have hMs := Lib.hid (hMv.below HB7.out)
  refine (toMoveS_calls AM m cM M _ HM.out hmb hMs.out).mono ?_
  rintro e w6 ⟨g6, rfl, hg6, hO6, hb⟩
  clear hMs
  have hg6lt := (ownG_lt hO6).2
  have hW56 := hb.size
  have hO6' : OwnM W4.heap.size w6 (some ⟨g6, 0, none⟩) m m M := OwnG.mono hO6 hsb
  have X8 := Lib.hid (X7.out.below hb X7.out.lt)
  have R3 := Lib.hid (R2.out.below hb R2.out.lt)
  have V2 := Lib.hid (V1.out.below hb)
  have U1 := Lib.hid (U0.out.below hb U0.out.lt)
  have HB8 := Lib.hid (HB7.out.trans ((hb).mono HB7.out.size))
  clear X7 R2 V1 U0 HB7
  have HO3 := Lib.hid (HO2.out.trans ((hb).mono HO2.out.size))
  clear HO2
  have T0 := Lib.hid hO6'
  clear hb hO6 hO6'
  obtain ⟨u0, u1, _, _⟩ := U1.out.two
  have hsQ := HO3.out.size
  have hsW := HB8.out.size
  have hXQ := X8.out.lt
  go_wp2_with fail
  refine (HP.out g5 g6 _ V2.out.ints (OwnM.mvs T0.out)).mono ?_
  rintro e w7 ⟨A9, c9, rfl, hQ, hb⟩
  have BQ := HB8.out.size
  have hQW : W4.heap.size ≤ w6.heap.size := HO3.out.size
  have X9 := Lib.hid (X8.out.below hb X8.out.lt)
  have R4 := Lib.hid (R3.out.below hb R3.out.lt)
  have V3 := Lib.hid (V2.out.below hb)
  have U2 := Lib.hid (U1.out.below hb U1.out.lt)
  have T1 := Lib.hid (T0.out.below hb)
  have HB9 := Lib.hid (HB8.out.trans ((hb).mono HB8.out.size))
  clear X8 R3 V2 U1 T0 HB8
  have HO4 := Lib.hid (HO3.out.trans ((hb).mono HO3.out.size))
  clear HO3
  have hQ0 := Lib.hid hQ
  clear hb hQ u0 u1
  have Y0 := Lib.hid (Box.new w7 29 #[.int .i64 P, .slice A9 nn c9])
  have hba : Below w7.heap.size w7 (w7.alloc (.cells #[.int .i64 P, .slice A9 nn c9] 29)) := (Below.refl _ w7).alloc (Nat.le_refl _) (.cells #[.int .i64 P, .slice A9 nn c9] 29)
  have Q0 := Lib.hid (hQ0.out.below hba)
  clear hQ0
  have X10 := Lib.hid (X9.out.below hba X9.out.lt)
  have R5 := Lib.hid (R4.out.below hba R4.out.lt)
  have V4 := Lib.hid (V3.out.below hba)
  have U3 := Lib.hid (U2.out.below hba U2.out.lt)
  have T2 := Lib.hid (T1.out.below hba)
  have HB10 := Lib.hid (HB9.out.trans ((hba).mono HB9.out.size))
  clear X9 R4 V3 U2 T1 HB9
  have HO5 := Lib.hid (HO4.out.trans ((hba).mono HO4.out.size))
  clear HO4
  clear hba
  have hOI := Lib.hid (OI.out.below HO5.out)
  obtain ⟨y0, y1, _, _⟩ := Y0.out.two
  obtain ⟨r0, r1, _, _⟩ := R5.out.two
  go_wp2_with fail
  generalize hWQ : World.alloc w7 (.cells #[.int .i64 P, .slice A9 nn c9] 29) = W7 at *
  clear hWQ
  generalize w7.heap.size = gY at *
  refine (eqState_calls A9 AO nn c9 nn cO P P LL LL _ HLL.out HLL.out hnn hnn (Own.ints Q0.out) hOI.out).mono ?_
  rintro e wq ⟨rfl, hb⟩
  clear hOI y0 y1 r0 r1
  have X11 := Lib.hid (X10.out.below hb X10.out.lt)
  have R6 := Lib.hid (R5.out.below hb R5.out.lt)
  have V5 := Lib.hid (V4.out.below hb)
  have U4 := Lib.hid (U3.out.below hb U3.out.lt)
  have T3 := Lib.hid (T2.out.below hb)
  have Y1 := Lib.hid (Y0.out.below hb Y0.out.lt)
  have Q1 := Lib.hid (Q0.out.below hb)
  have HB11 := Lib.hid (HB10.out.trans ((hb).mono HB10.out.size))
  clear X10 R5 V4 U3 T2 Y0 Q0 HB10
  have HO6 := Lib.hid (HO5.out.trans ((hb).mono HO5.out.size))
  clear HO5
  clear hb
  have hI7 := Lib.hid (hI.below HB11.out)
  have U7 := U4
  have X7 := X11
  have V7 := V5
  obtain ⟨u0, u1, s0, s1⟩ := cells22 U7.out X7.out
  have zu := U7.out.lt
  have zx := X7.out.lt
  go_wp2_with fail
  go_region_held3 (fun w' => w'.cell? ⟨g8, 0, none⟩ = some (.int .i64 p) ∧ w'.cell? ⟨g8, 1, none⟩ = some (.slice (some ⟨g5, 0, none⟩) n n) ∧ w'.cell? ⟨w.heap.size, 0, none⟩ = some (.int .i64 p) ∧ w'.cell? ⟨w.heap.size, 1, none⟩ = some (.slice A n c))
    (first | exact cells22 U7.out X7.out | exact cells22 U8.out X8.out | exact cells22 U9.out X9.out | go_keep)
    (first
    | (go_at_call 8; refine (toState_calls A n c p L _ HL.out hn ?_).mono ?_; (exact hI7.out); rintro e w8 ⟨gr, rfl, hgr, hr8, hb8⟩; have U8 := Lib.hid (Box.below U7.out (undrew hb8) zu); have X8 := Lib.hid (Box.below X7.out (undrew hb8) zx))
    | (go_at_call 11; refine (eqState_calls (some ⟨g5, 0, none⟩) (some ⟨gr, 0, none⟩) n n n n p p L L _ HL.out HL.out hn hn ?_ ?_).mono ?_; (exact V7.out.ints.below (undrew hb8)); (exact hr8.ints); rintro e w9 ⟨rfl, hb9⟩; have U9 := Lib.hid (Box.below U8.out hb9 (Box.lt U8.out)); have X9 := Lib.hid (Box.below X8.out hb9 (Box.lt X8.out))))
  clear U8 X8 U9 X9 u0 u1 s0 s1 zu zx hr8 hgr U7 X7 V7
  have X12 := Lib.hid (X11.out.below (undrew hb8) X11.out.lt)
  have R7 := Lib.hid (R6.out.below (undrew hb8) R6.out.lt)
  have V6 := Lib.hid (V5.out.below (undrew hb8))
  have U5 := Lib.hid (U4.out.below (undrew hb8) U4.out.lt)
  have T4 := Lib.hid (T3.out.below (undrew hb8))
  have Y2 := Lib.hid (Y1.out.below (undrew hb8) Y1.out.lt)
  have Q2 := Lib.hid (Q1.out.below (undrew hb8))
  have HB12 := Lib.hid (HB11.out.trans (((undrew hb8)).mono HB11.out.size))
  clear X11 R6 V5 U4 T3 Y1 Q1 HB11
  have HO7 := Lib.hid (HO6.out.trans (((undrew hb8)).mono HO6.out.size))
  clear HO6
  have X13 := Lib.hid (X12.out.below hb9 X12.out.lt)
  have R8 := Lib.hid (R7.out.below hb9 R7.out.lt)
  have V7 := Lib.hid (V6.out.below hb9)
  have U6 := Lib.hid (U5.out.below hb9 U5.out.lt)
  have T5 := Lib.hid (T4.out.below hb9)
  have Y3 := Lib.hid (Y2.out.below hb9 Y2.out.lt)
  have Q3 := Lib.hid (Q2.out.below hb9)
  have HB13 := Lib.hid (HB12.out.trans ((hb9).mono HB12.out.size))
  clear X12 R7 V6 U5 T4 Y2 Q2 HB12
  have HO8 := Lib.hid (HO7.out.trans ((hb9).mono HO7.out.size))
  clear HO7
  clear hb8 hb9 hI7
  have hMs := Lib.hid (hMv.below HB13.out)
  go_wp2_with fail
  refine (toMoveS_calls AM m cM M _ HM.out hmb hMs.out).mono ?_
  rintro e w10 ⟨g10, rfl, hg10, hO10, hb⟩
  clear hMs
  have X14 := Lib.hid (X13.out.below hb X13.out.lt)
  have R9 := Lib.hid (R8.out.below hb R8.out.lt)
  have V8 := Lib.hid (V7.out.below hb)
  have U7 := Lib.hid (U6.out.below hb U6.out.lt)
  have T6 := Lib.hid (T5.out.below hb)
  have Y4 := Lib.hid (Y3.out.below hb Y3.out.lt)
  have Q4 := Lib.hid (Q3.out.below hb)
  have HB14 := Lib.hid (HB13.out.trans ((hb).mono HB13.out.size))
  clear X13 R8 V7 U6 T5 Y3 Q3 HB13
  have HO9 := Lib.hid (HO8.out.trans ((hb).mono HO8.out.size))
  clear HO8
  have M10 := Lib.hid (OwnM.mvs hO10)
  clear hb hO10 hg10
  go_wp2_with fail
  refine (eqMoveS_calls (some ⟨g6, 0, none⟩) (some ⟨g10, 0, none⟩) m m m m M M _ HM.out HM.out hmb hmb (OwnM.mvs T6.out) M10.out).mono ?_
  rintro e w11 ⟨rfl, hb⟩
  have hMM : decide (M = M) = true := by simp
  rw [hMM]
  clear hMM M10
  have X15 := Lib.hid (X14.out.below hb X14.out.lt)
  have R10 := Lib.hid (R9.out.below hb R9.out.lt)
  have V9 := Lib.hid (V8.out.below hb)
  have U8 := Lib.hid (U7.out.below hb U7.out.lt)
  have T7 := Lib.hid (T6.out.below hb)
  have Y5 := Lib.hid (Y4.out.below hb Y4.out.lt)
  have Q5 := Lib.hid (Q4.out.below hb)
  have HB15 := Lib.hid (HB14.out.trans ((hb).mono HB14.out.size))
  clear X14 R9 V8 U7 T6 Y4 Q4 HB14
  have HO10 := Lib.hid (HO9.out.trans ((hb).mono HO9.out.size))
  clear HO9
  clear hb
  obtain ⟨u0, u1, _, _⟩ := U8.out.two
  go_wp2_with fail
  refine (markState_calls _ (some ⟨g5, 0, none⟩) n n p L 1 _ V9.out hn (by omega) (by omega)).mono ?_
  rintro e w12 ⟨rfl, hO, hg⟩
  clear u0 u1
  have T8 := Lib.hid (OwnG.kept T7.out hg (fun g hA e => by injection hA with hA; injection hA with hA; have e' : some g5 = some g := e; injection e' with e'; omega))
  clear T7
  have Q6 := Lib.hid (OwnG.kept Q5.out hg (fun g hA e => by have h1 := block_of_ownG V9.out e; have h2 := ownG_ge Q5.out hA; exact absurd (Nat.lt_of_lt_of_le (h1 ▸ hg5b) (Nat.le_trans hW56 h2)) (Nat.lt_irrefl _)))
  have R11 := Lib.hid (R10.out.grown hg (OwnG.box_ne V9.out R10.out (by decide)))
  have Y6 := Lib.hid (Y5.out.grown hg (OwnG.box_ne V9.out Y5.out (by decide)))
  clear R10 Y5
  have X16 := Lib.hid (X15.out.grown hg (OwnG.box_ne V9.out X15.out (by decide)))
  have HB16 := Lib.hid (HB15.out.grown hg HB15.out.size (fun k hk => by have h1 := own_bkG V9.out k hk; omega))
  have HO11 := Lib.hid (HO10.out.grown hg HO10.out.size (fun k hk => own_bkG V9.out k hk))
  clear Q5 X15 HB15 HO10 V9 U8 hO hg
  go_wp2_with fail
  refine (markMoveS_calls _ (some ⟨g6, 0, none⟩) m m (mvF M) (1 + n) _ T8.out hmb (by omega) (by omega)).mono ?_
  rintro e w13 ⟨rfl, hO, hg⟩
  have Q7 := Lib.hid (OwnG.kept Q6.out hg (fun g hA e => by have h1 := block_of_ownG T8.out e; have h2 := ownG_ge Q6.out hA; exact absurd (Nat.lt_of_lt_of_le (h1 ▸ hg6lt) h2) (Nat.lt_irrefl _)))
  have R12 := Lib.hid (R11.out.grown hg (OwnG.box_ne T8.out R11.out (by decide)))
  have Y7 := Lib.hid (Y6.out.grown hg (OwnG.box_ne T8.out Y6.out (by decide)))
  clear R11 Y6
  have X17 := Lib.hid (X16.out.grown hg (OwnG.box_ne T8.out X16.out (by decide)))
  have HB17 := Lib.hid (HB16.out.grown hg HB16.out.size (fun k hk => by have h1 := own_bkG T8.out k hk; omega))
  have HO12 := Lib.hid (HO11.out.grown hg HO11.out.size (fun k hk => own_bkG T8.out k hk))
  clear Q6 X16 HB16 HO11 T8  hO hg
  have hk3 : ¬ (1 + (n : Int) + ((m * 3 : Nat) : Int)) < 0 := by omega
  have hOI := Lib.hid (OI.out.below HO12.out)
  obtain ⟨y0, y1, _, _⟩ := Y7.out.two
  obtain ⟨r0, r1, _, _⟩ := R12.out.two
  go_wp2_with fail
  refine (eqState_calls A9 AO nn c9 nn cO P P LL LL _ HLL.out HLL.out hnn hnn (Own.ints Q7.out) hOI.out).mono ?_
  rintro e wq ⟨rfl, hb⟩
  clear hOI y0 y1 r0 r1
  have X18 := Lib.hid (X17.out.below hb X17.out.lt)
  have R13 := Lib.hid (R12.out.below hb R12.out.lt)
  have Y8 := Lib.hid (Y7.out.below hb Y7.out.lt)
  have Q8 := Lib.hid (Q7.out.below hb)
  have HB18 := Lib.hid (HB17.out.trans ((hb).mono HB17.out.size))
  clear X17 R12 Y7 Q7 HB17
  have HO13 := Lib.hid (HO12.out.trans ((hb).mono HO12.out.size))
  clear HO12
  clear hb
  obtain ⟨y0, y1, _, _⟩ := Y8.out.two
  go_wp2_with fail
  refine (markState_calls _ A9 nn c9 P LL 1 _ Q8.out hnn (by omega) (by omega)).mono ?_
  rintro e w14 ⟨rfl, hO, hg⟩
  clear y0 y1
  have hbk := fun k hk => own_bkG Q8.out k hk
  have R14 := Lib.hid (R13.out.grown hg (OwnG.box_ne Q8.out R13.out (by decide)))
  have Y9 := Lib.hid (Y8.out.grown hg (OwnG.box_ne Q8.out Y8.out (by decide)))
  have X19 := Lib.hid (X18.out.grown hg (OwnG.box_ne Q8.out X18.out (by decide)))
  have HB19 := Lib.hid (HB18.out.grown hg HB18.out.size (fun k hk => by have h1 := hbk k hk; omega))
  have HO14 := Lib.hid (HO13.out.grown hg HO13.out.size (fun k hk => by have h1 := hbk k hk; omega))
  have Q9 := Lib.hid hO
  clear Q8 R13 Y8 X18 HB18 HO13 hO hg hbk
  obtain ⟨y0, y1, _, _⟩ := Y9.out.two
  go_wp2_with fail
  refine (heldState_calls A9 nn c9 P 1 _ (Own.ints Q9.out) hnn (by omega) (by omega)).mono ?_
  rintro e wh ⟨rfl, hb⟩
  clear y0 y1
  have X20 := Lib.hid (X19.out.below hb X19.out.lt)
  have R15 := Lib.hid (R14.out.below hb R14.out.lt)
  have Y10 := Lib.hid (Y9.out.below hb Y9.out.lt)
  have Q10 := Lib.hid (Q9.out.below hb)
  have HB20 := Lib.hid (HB19.out.trans ((hb).mono HB19.out.size))
  clear X19 R14 Y9 Q9 HB19
  have HO15 := Lib.hid (HO14.out.trans ((hb).mono HO14.out.size))
  clear HO14
  clear hb
  have hIs := Lib.hid (hI.below HB20.out)
  obtain ⟨s0, s1, _, _⟩ := X20.out.two
  go_wp2_with fail
  refine (toState_calls A n c p L _ HL.out hn hIs.out).mono ?_
  rintro e w15 ⟨g15, rfl, hg15, hr15, hb⟩
  clear s0 s1 hIs
  have R16 := Lib.hid (R15.out.below hb R15.out.lt)
  have Y11 := Lib.hid (Y10.out.below hb Y10.out.lt)
  have Q11 := Lib.hid (Q10.out.below hb)
  have HB21 := Lib.hid (HB20.out.trans ((hb).mono HB20.out.size))
  clear X20 R15 Y10 Q10 HB20
  have HO16 := Lib.hid (HO15.out.trans ((hb).mono HO15.out.size))
  clear HO15
  have hI15 := Lib.hid hr15.ints
  clear hb hg15 hr15
  have hMs := Lib.hid (hMv.below HB21.out)
  go_wp2_with fail
  refine (toMoveS_calls AM m cM M _ HM.out hmb hMs.out).mono ?_
  rintro e w16 ⟨g16, rfl, hg16, hO16, hb⟩
  clear hMs
  have hI16 := Lib.hid (hI15.out.below hb)
  have R17 := Lib.hid (R16.out.below hb R16.out.lt)
  have Y12 := Lib.hid (Y11.out.below hb Y11.out.lt)
  have Q12 := Lib.hid (Q11.out.below hb)
  have HB22 := Lib.hid (HB21.out.trans ((hb).mono HB21.out.size))
  clear R16 Y11 Q11 HB21
  have HO17 := Lib.hid (HO16.out.trans ((hb).mono HO16.out.size))
  clear HO16
  have hM16 := Lib.hid (OwnM.mvs hO16)
  clear hb hg16 hO16 hI15
  go_wp2_with fail
  refine (HP.out g15 g16 _ hI16.out hM16.out).mono ?_
  rintro e w17 ⟨A14, c14, rfl, hK, hb⟩
  have R18 := Lib.hid (R17.out.below hb R17.out.lt)
  have Y13 := Lib.hid (Y12.out.below hb Y12.out.lt)
  have Q13 := Lib.hid (Q12.out.below hb)
  have HB23 := Lib.hid (HB22.out.trans ((hb).mono HB22.out.size))
  clear R17 Y12 Q12 HB22
  have HO18 := Lib.hid (HO17.out.trans ((hb).mono HO17.out.size))
  clear HO17
  have Z0 := Lib.hid (Box.new w17 29 #[.int .i64 P, .slice A14 nn c14])
  have hba : Below w17.heap.size w17 (w17.alloc (.cells #[.int .i64 P, .slice A14 nn c14] 29)) := (Below.refl _ w17).alloc (Nat.le_refl _) (.cells #[.int .i64 P, .slice A14 nn c14] 29)
  have K0 := Lib.hid (hK.ints.below hba)
  have R19 := Lib.hid (R18.out.below hba R18.out.lt)
  have Y14 := Lib.hid (Y13.out.below hba Y13.out.lt)
  have Q14 := Lib.hid (Q13.out.below hba)
  have HB24 := Lib.hid (HB23.out.trans ((hba).mono HB23.out.size))
  clear R18 Y13 Q13 HB23
  have HO19 := Lib.hid (HO18.out.trans ((hba).mono HO18.out.size))
  clear HO18
  clear hK hb hba hI16 hM16
  have hOI := Lib.hid (OI.out.below HO19.out)
  obtain ⟨y0, y1, _, _⟩ := Z0.out.two
  obtain ⟨r0, r1, _, _⟩ := R19.out.two
  go_wp2_with fail
  generalize hWQ : World.alloc w17 (.cells #[.int .i64 P, .slice A14 nn c14] 29) = W17 at *
  clear hWQ
  generalize w17.heap.size = gZ at *
  refine (eqState_calls A14 AO nn c14 nn cO P P LL LL _ HLL.out HLL.out hnn hnn K0.out hOI.out).mono ?_
  rintro e wq ⟨rfl, hb⟩
  clear hOI y0 y1 r0 r1
  have R20 := Lib.hid (R19.out.below hb R19.out.lt)
  have Y15 := Lib.hid (Y14.out.below hb Y14.out.lt)
  have Q15 := Lib.hid (Q14.out.below hb)
  have Z1 := Lib.hid (Z0.out.below hb Z0.out.lt)
  have HB25 := Lib.hid (HB24.out.trans ((hb).mono HB24.out.size))
  clear R19 Y14 Q14 Z0 HB24
  have HO20 := Lib.hid (HO19.out.trans ((hb).mono HO19.out.size))
  clear HO19
  clear hb
  clear K0
  obtain ⟨y0, y1, _, _⟩ := Y15.out.two
  go_wp2_with fail
  refine (heldState_calls A9 nn c9 P 1 _ (Own.ints Q15.out) hnn (by omega) (by omega)).mono ?_
  rintro e wh ⟨rfl, hb⟩
  clear y0 y1
  have R21 := Lib.hid (R20.out.below hb R20.out.lt)
  have Y16 := Lib.hid (Y15.out.below hb Y15.out.lt)
  have Q16 := Lib.hid (Q15.out.below hb)
  have Z2 := Lib.hid (Z1.out.below hb Z1.out.lt)
  have HB26 := Lib.hid (HB25.out.trans ((hb).mono HB25.out.size))
  clear R20 Y15 Q15 Z1 HB25
  have HO21 := Lib.hid (HO20.out.trans ((hb).mono HO20.out.size))
  clear HO20
  clear hb
  go_wp2
  go_ret
  exact ⟨rfl, HB26.out⟩

theorem walk (p : Int) (A : Option Addr) (n c : Nat) (L : List Int) (AM : Option Addr) (m cM : Nat) (M : List Mv) (w : World) (w0 : (Lit.int .i64 p).wf = true) (hA : ArgInts w A n L) (hB : ArgMvs w AM m M) :
    Calls Try.prog 4 #[.agg #[.int .i64 p, .slice A n c], .slice AM m cM] w fun e w' => e = .returned (.bool true) ∧ Below w.heap.size w w' := by
  obtain ⟨hL, hm, hI⟩ := hA
  obtain ⟨hM, hmm, hMv⟩ := hB
  by_cases hn : n ≤ 1048576
  · by_cases hnm : n + m ≤ 1048576
    · exact core p A n c L AM m cM M (rmP p L M) (rsC p L M) (rmL p L M) (rmL p L M).length w (by exact rmL_len p L M (by omega)) rfl hL hn hI hM hnm hMv (fun g h W hW hW' => specRunMoves_ret (some ⟨g, 0, none⟩) n n p L (some ⟨h, 0, none⟩) m m M W hL hn (fun h => by cases h) hW hM (by omega) hW') (fun g h W hW hW' => implRunMoves_ret (some ⟨g, 0, none⟩) n n p L (some ⟨h, 0, none⟩) m m M W hL hn hW hM (by omega) hW')
    · have h0 := szI_yes hn
      have h1 : szI n 1048576 ≤ 1048576 := by unfold szI; omega
      have h2 : szI m (szI n 1048576) = -1 := by unfold szI; omega
      go_enter Try.func4, Try.ntmps4
      go_wp2_with fail
      refine (szState_calls A n c p 1048576 _ hm (by omega) (by omega)).mono ?_
      rintro e w1 ⟨rfl, hb1⟩
      have HB1 := Lib.hid (((Below.refl w.heap.size w).alloc (Nat.le_refl _) _).trans (hb1.mono (by simp)))
      clear hb1
      go_wp2_with fail
      refine (szMoveS_calls AM m cM (szI n 1048576) _ hmm h0 h1).mono ?_
      rintro e wz ⟨rfl, rfl⟩
      go_wp2
      go_ret
      exact ⟨rfl, HB1.out⟩
  · have h0 := szI_no hn
    go_enter Try.func4, Try.ntmps4
    go_wp2_with fail
    refine (szState_calls A n c p 1048576 _ hm (by omega) (by omega)).mono ?_
    rintro e w1 ⟨rfl, hb1⟩
    have HB1 := Lib.hid (((Below.refl w.heap.size w).alloc (Nat.le_refl _) _).trans (hb1.mono (by simp)))
    clear hb1
    go_wp2
    go_ret
    exact ⟨rfl, HB1.out⟩

set_option maxRecDepth 100000 in
theorem lifted (os : Os) (started : os.Started) (H : Type) (enc : TypeId × Value → H) :
    ReturnsInHanded {} Try.checked os 4 .any (Rows.fnExactRunMovesSpec.pre6 enc Try.prog Try.f4 Rows.fnExactRunMovesRow.domain false) (Rows.fnExactRunMovesSpec.post enc Try.prog Try.f4 false true false false) := by
  refine returnsInHanded_of_change (C := Try.checked) own started (by kernel_rfl) Try.func4
    (ChangeSpec.witness6 (enc := enc) (C := Try.checked) false ⟨#[], #[.agg #[.int .i64 0, .slice none 0 0], .slice none 0 0], []⟩ 8 (by kernel_rfl) (by kernel_rfl) (by kernel_rfl) (by kernel_rfl)) ?_
  intro W base args ds gs before hval0 hW hcnd _
  have hval : ∀ (j : Nat) t v, Try.f4.params[j]? = some t → args[j]? = some v → Value.okWide Try.prog W .any base t v := hval0
  have hW' := hW
  obtain ⟨p, q, hA0, hV, rfl, hfz, hnd⟩ := hW
  have hA : DataW.TrodAll enc Try.prog W 0 (fun _ => true) true Try.f4.params.toList args.toList ds p := hA0
  rw [Try.params4] at hA hval
  obtain ⟨v0, vs0, d0, ds0, p0, q0, hargs, rfl, rfl, h0, r0⟩ := trodAll_cons hA
  obtain ⟨v1, vs1, d1, ds1, p1, q1, rfl, rfl, rfl, h1, r1⟩ := trodAll_cons r0
  obtain ⟨rfl, rfl, rfl⟩ := trodAll_nil r1
  obtain rfl : args = #[v0, v1] := by cases args; simp_all
  obtain ⟨rfl, rfl⟩ := trodVars_none hV
  have lt0 : ∀ x ∈ p0, x.block < W.heap.size := by obtain ⟨m, hm⟩ := h0; exact DataW.trod_lt m _ _ _ hm
  have k0 := h0
  obtain ⟨a0, A0, n0, c0, L0, rfl, w0, hAI0⟩ := open_state (hval 0 24 v0 rfl rfl) h0
  have lt1 : ∀ x ∈ p1, x.block < W.heap.size := by obtain ⟨m, hm⟩ := h1; exact DataW.trod_lt m _ _ _ hm
  have k1 := h1
  obtain ⟨A1, n1, c1, M1, rfl, hAM1⟩ := open_moves (hval 1 36 v1 rfl rfl) h1
  clear hA0 hval0
  refine (walk a0 A0 n0 c0 L0 A1 n1 c1 M1 W w0 hAI0 hAM1).mono fun e W' ⟨he, bel⟩ => ?_
  subst he
  exact ⟨_, rfl, _, _, _, [], _, [], hW', trodAll_mk1 (shut_bool Try.underlying4 _), (trodAll_cons_mk (Below.trod laidOut (by kernel_rfl) (of_decide_eq_true (by kernel_rfl)) k0 bel lt0) (trodAll_cons_mk (Below.trod laidOut (by kernel_rfl) (of_decide_eq_true (by kernel_rfl)) k1 bel lt1) trodAll_mk0)), rfl, bel.frame _, fun h => by cases h⟩

theorem over : Rows.fnExactRunMovesRow.holds Try.pinned (OpenSpec.ofChange Rows.fnExactRunMovesSpec) :=
  OpenClaim.holds_of_wide 4 Try.f4 rfl rfl rfl rfl rfl rfl rfl ⟨rfl, rfl, rfl, rfl, rfl⟩ rfl rfl rfl rfl rfl (by kernel_rfl) Try.func4 (by kernel_rfl)
    (of_decide_eq_true (by kernel_rfl)) (by unfold Func.isWrapper; first | (rw [if_pos (by decide +kernel)]; kernel_rfl) | (rw [if_neg (by decide +kernel)]; exact ⟨rfl, rfl⟩))
    (fun os started H enc _ => lifted os started H enc)

theorem proved : Rows.FnExactRunMovesSaid := over
#print axioms proved
end Go.Proofs.Ytagaopdpnloblaa.fnExactRunMoves
