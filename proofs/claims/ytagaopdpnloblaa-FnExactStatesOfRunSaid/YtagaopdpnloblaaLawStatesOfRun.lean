/- 'StatesOfRun' of the program answers at every argument as the specification's model, leaves its arguments as they were, and its answer is its own memory. Conditions: none. -/
import Derived.Test.YtagaopdpnloblaaOpen
import Derived.Test.YtagaopdpnloblaaOpenState
import Derived.Test.YtagaopdpnloblaaStc
import Derived.Test.YtagaopdpnloblaaMvI
import Derived.Test.YtagaopdpnloblaaRunI
import Derived.Deep.RegionHeld3
namespace Go.Proofs.Ytagaopdpnloblaa.fnExactStatesOfRun
open Go.ChangeShapes Go.WideShapes Go.ChangeAt Go.RowKit Go.Joins
open Go.ChangeMaps (open_string)
set_option linter.unusedVariables false

theorem szI_no {n : Nat} (h : ¬ n ≤ 1048576) : szI n 1048576 = -1 := by unfold szI; omega
theorem szI_yes {n : Nat} (h : n ≤ 1048576) : 0 ≤ szI n 1048576 := by unfold szI; omega

theorem own_bkG {e s B : Nat} {w : World} {A : Option Addr} {n c : Nat} {xs : List Value} (h : OwnG e s B w A n c xs) : ∀ k, (Value.slice A n c).ownBlock = some k → B ≤ k := fun k hk => by
  rcases h.form with ⟨rfl, _⟩ | ⟨g, rfl, hB, _⟩
  · cases hk
  · have hk' : some g = some k := hk
    injection hk' with hk'
    omega
theorem block_of_own {e s B g g' : Nat} {w : World} {n c : Nat} {xs : List Value} (h : OwnG e s B w (some ⟨g, 0, none⟩) n c xs) (hk : (Value.slice (some ⟨g, 0, none⟩) n c).ownBlock = some g') : (some (some g) : Option (Option Nat)) = some (some g') := by
  have hk' : some g = some g' := hk
  rw [hk']

set_option maxRecDepth 100000 in
set_option maxHeartbeats 8000000 in
theorem core (p : Int) (A : Option Addr) (n c : Nat) (L : List Int) (AM : Option Addr) (m cM : Nat) (M : List Mv) (E : Int) (LL : List (Int × List Int)) (w : World) (hsm : (LL.map (fun x => x.2.length + 1)).sum ≤ 1048576) (hL : L.length = n) (hn : n ≤ 1048576) (hI : Ints w A L) (hM : M.length = m) (hnm : n + m ≤ 1048576) (hMv : MvsA w AM M)
    (hspec : ∀ g h W, Ints W (some ⟨g, 0, none⟩) L → Mvs W (some ⟨h, 0, none⟩) M → Calls Try.prog 22 #[.agg #[.int .i64 p, .slice (some ⟨g, 0, none⟩) n n], .slice (some ⟨h, 0, none⟩) m m] W (RetSt W LL E))
    (himpl : ∀ g h W, Ints W (some ⟨g, 0, none⟩) L → Mvs W (some ⟨h, 0, none⟩) M → Calls Try.prog 23 #[.agg #[.int .i64 p, .slice (some ⟨g, 0, none⟩) n n], .slice (some ⟨h, 0, none⟩) m m] W (RetSt W LL E)) :
    Calls Try.prog 5 #[.agg #[.int .i64 p, .slice A n c], .slice AM m cM] w fun e w' => e = .returned (.bool true) ∧ Below w.heap.size w w' := by
  have HS := Lib.hid hspec
  have HP := Lib.hid himpl
  have HL := Lib.hid hL
  have HM := Lib.hid hM
  have X0 := Lib.hid (Box.new w 24 #[.int .i64 p, .slice A n c])
  have HB0 := Lib.hid ((Below.refl w.heap.size w).alloc (Nat.le_refl _) (.cells #[.int .i64 p, .slice A n c] 24))
  have h0 := szI_yes hn
  have h1 : szI n 1048576 ≤ 1048576 := by unfold szI; omega
  have h2 : 0 ≤ szI m (szI n 1048576) := by unfold szI; omega
  have hmb : m ≤ 1048576 := by omega
  clear hspec himpl hL hM
  go_enter Try.func5, Try.ntmps5
  go_wp2_with fail
  refine (szState_calls A n c p 1048576 _ (by omega) (by omega) (by omega)).mono ?_
  rintro e w1 ⟨rfl, hb⟩
  have X1 := Lib.hid (X0.out.below hb X0.out.lt)
  have HB1 := Lib.hid (HB0.out.trans ((hb).mono HB0.out.size))
  clear X0 HB0
  clear hb
  go_wp2_with fail
  refine (szMoveS_calls AM m cM (szI n 1048576) _ (by omega) h0 h1).mono ?_
  rintro e wz ⟨rfl, rfl⟩
  have hIs := Lib.hid (hI.below HB1.out)
  obtain ⟨s0, s1, _, _⟩ := X1.out.two
  go_wp2_with fail
  refine (toState_calls A n c p L _ HL.out hn hIs.out).mono ?_
  rintro e w2 ⟨g2, rfl, hg2, hr2, hb⟩
  clear s0 s1 hIs
  have X2 := Lib.hid (X1.out.below hb X1.out.lt)
  have HB2 := Lib.hid (HB1.out.trans ((hb).mono HB1.out.size))
  clear X1 HB1
  have hI2 := Lib.hid hr2.ints
  clear hb hg2 hr2
  have hMs := Lib.hid (hMv.below HB2.out)
  go_wp2_with fail
  refine (toMoveS_calls AM m cM M _ HM.out hmb hMs.out).mono ?_
  rintro e w3 ⟨g3, rfl, hg3, hO3, hb⟩
  clear hMs
  have hI3 := Lib.hid (hI2.out.below hb)
  have X3 := Lib.hid (X2.out.below hb X2.out.lt)
  have HB3 := Lib.hid (HB2.out.trans ((hb).mono HB2.out.size))
  clear X2 HB2
  have hM3 := Lib.hid (OwnM.mvs hO3)
  clear hb hg3 hO3 hI2
  go_wp2_with fail
  refine (HS.out g2 g3 _ hI3.out hM3.out).mono ?_
  rintro e w4 ⟨A0, n0, c0, rs0, rfl, hO, hL0, hb⟩
  have X4 := Lib.hid (X3.out.below hb X3.out.lt)
  have HB4 := Lib.hid (HB3.out.trans ((hb).mono HB3.out.size))
  clear X3 HB3
  have OI := Lib.hid hO.ints
  have hl0 := hO.len
  have ht0 := totT_QL hO
  rw [hL0] at ht0
  have hn0 : n0 ≤ 1048576 := by rw [← hl0]; exact Nat.le_trans (totT_len rs0) (by omega)
  have hr0 : Hid (∀ r ∈ rs0, r.n ≤ 1048576) := rowsT_small (by rw [ht0]; omega)
  have Hl0 := Lib.hid hl0
  have HL0 := Lib.hid hL0
  have HO0 := Lib.hid (Below.refl w4.heap.size w4)
  have hsz4 := HB4.out.size
  clear hO hL0 hl0 ht0 hb hI3 hM3
  have hIs := Lib.hid (hI.below HB4.out)
  obtain ⟨s0, s1, _, _⟩ := X4.out.two
  go_wp2_with fail
  refine (toState_calls A n c p L _ HL.out hn hIs.out).mono ?_
  rintro e w5 ⟨g5, rfl, hg5, hr5, hb⟩
  clear s0 s1 hIs
  have hrow := hr5.own (B := w4.heap.size) hg5 (by rw [HL.out]; exact hn)
  rw [HL.out] at hrow
  have hg5lt := (ownG_lt hrow).2
  have X5 := Lib.hid (X4.out.below hb X4.out.lt)
  have HB5 := Lib.hid (HB4.out.trans ((hb).mono HB4.out.size))
  clear X4 HB4
  have HO1 := Lib.hid (HO0.out.trans ((hb).mono HO0.out.size))
  clear HO0
  have V0 := Lib.hid hrow
  clear hb hr5 hrow
  have U0 := Lib.hid (Box.new w5 29 #[.int .i64 p, .slice (some ⟨g5, 0, none⟩) n n])
  have hba : Below w5.heap.size w5 (w5.alloc (.cells #[.int .i64 p, .slice (some ⟨g5, 0, none⟩) n n] 29)) := (Below.refl _ w5).alloc (Nat.le_refl _) (.cells #[.int .i64 p, .slice (some ⟨g5, 0, none⟩) n n] 29)
  have X6 := Lib.hid (X5.out.below hba X5.out.lt)
  have V1 := Lib.hid (V0.out.below hba)
  have HB6 := Lib.hid (HB5.out.trans ((hba).mono HB5.out.size))
  clear X5 V0 HB5
  have HO2 := Lib.hid (HO1.out.trans ((hba).mono HO1.out.size))
  clear HO1
  clear hba
  have hg5b : g5 < (w5.alloc (.cells #[.int .i64 p, .slice (some ⟨g5, 0, none⟩) n n] 29)).heap.size := by simp; omega
  have hsb : w4.heap.size ≤ (w5.alloc (.cells #[.int .i64 p, .slice (some ⟨g5, 0, none⟩) n n] 29)).heap.size := HO2.out.size
  have hg8b : w5.heap.size < (w5.alloc (.cells #[.int .i64 p, .slice (some ⟨g5, 0, none⟩) n n] 29)).heap.size := by simp
  have hg58 := hg5lt
  go_wp2_with fail
  generalize hW5 : w5.alloc (.cells #[.int .i64 p, .slice (some ⟨g5, 0, none⟩) n n] 29) = W5 at *
  clear hW5
  generalize w5.heap.size = g8 at *
  have hMs := Lib.hid (hMv.below HB6.out)
  refine (toMoveS_calls AM m cM M _ HM.out hmb hMs.out).mono ?_
  rintro e w6 ⟨g6, rfl, hg6, hO6, hb⟩
  clear hMs
  have hg6lt := (ownG_lt hO6).2
  have hO6' : OwnM w4.heap.size w6 (some ⟨g6, 0, none⟩) m m M := OwnG.mono hO6 hsb
  have X7 := Lib.hid (X6.out.below hb X6.out.lt)
  have V2 := Lib.hid (V1.out.below hb)
  have U1 := Lib.hid (U0.out.below hb U0.out.lt)
  have HB7 := Lib.hid (HB6.out.trans ((hb).mono HB6.out.size))
  clear X6 V1 U0 HB6
  have HO3 := Lib.hid (HO2.out.trans ((hb).mono HO2.out.size))
  clear HO2
  have T0 := Lib.hid hO6'
  clear hb hO6 hO6'
  obtain ⟨u0, u1, _, _⟩ := U1.out.two
  have hsQ := HO3.out.size
  have hsW := HB7.out.size
  have hXQ := X7.out.lt
  go_wp2_with fail
  refine (HP.out g5 g6 _ V2.out.ints (OwnM.mvs T0.out)).mono ?_
  rintro e w7 ⟨A9, n9, c9, rs9, rfl, hQ, hL9, hb⟩
  have X8 := Lib.hid (X7.out.below hb X7.out.lt)
  have V3 := Lib.hid (V2.out.below hb)
  have U2 := Lib.hid (U1.out.below hb U1.out.lt)
  have T1 := Lib.hid (T0.out.below hb)
  have HB8 := Lib.hid (HB7.out.trans ((hb).mono HB7.out.size))
  clear X7 V2 U1 T0 HB7
  have HO4 := Lib.hid (HO3.out.trans ((hb).mono HO3.out.size))
  clear HO3
  have hl9 := hQ.len
  have ht9 := totT_QL hQ
  rw [hL9] at ht9
  have hn9 : n9 ≤ 1048576 := by rw [← hl9]; exact Nat.le_trans (totT_len rs9) (by omega)
  have ht9b : totT rs9 ≤ 1048576 := by rw [ht9]; omega
  have hr9 : Hid (∀ r ∈ rs9, r.n ≤ 1048576) := rowsT_small ht9b
  have Hl9 := Lib.hid hl9
  have HL9 := Lib.hid hL9
  have Q0 := Lib.hid hQ
  have HE9 : Hid (decide (QLof rs9 = QLof rs0) = true) := by unfold Hid; rw [HL9.out, HL0.out]; simp
  clear hb hQ hl9 hL9 ht9 u0 u1
  have hOI := Lib.hid (OI.out.below HO4.out)
  go_wp2_with fail
  refine (eqStateS_calls A9 A0 n9 c9 n0 c0 rs9 rs0 _ Hl9.out Hl0.out hn9 hn0 hr9.out hr0.out Q0.out.ints hOI.out).mono ?_
  rintro e wq ⟨rfl, hb⟩
  rw [HE9.out]
  clear hOI
  have X9 := Lib.hid (X8.out.below hb X8.out.lt)
  have V4 := Lib.hid (V3.out.below hb)
  have U3 := Lib.hid (U2.out.below hb U2.out.lt)
  have T2 := Lib.hid (T1.out.below hb)
  have Q1 := Lib.hid (Q0.out.below hb)
  have HB9 := Lib.hid (HB8.out.trans ((hb).mono HB8.out.size))
  clear X8 V3 U2 T1 Q0 HB8
  have HO5 := Lib.hid (HO4.out.trans ((hb).mono HO4.out.size))
  clear HO4
  clear hb
  have hI7 := Lib.hid (hI.below HB9.out)
  have U7 := U3
  have X7 := X9
  have V7 := V4
  obtain ⟨u0, u1, s0, s1⟩ := cells22 U7.out X7.out
  have zu := U7.out.lt
  have zx := X7.out.lt
  go_wp2_with fail
  go_region_held3 (fun w' => w'.cell? ⟨g8, 0, none⟩ = some (.int .i64 p) ∧ w'.cell? ⟨g8, 1, none⟩ = some (.slice (some ⟨g5, 0, none⟩) n n) ∧ w'.cell? ⟨w.heap.size, 0, none⟩ = some (.int .i64 p) ∧ w'.cell? ⟨w.heap.size, 1, none⟩ = some (.slice A n c))
    (first | exact cells22 U7.out X7.out | exact cells22 U8.out X8.out | exact cells22 U9.out X9.out | go_keep)
    (first
    | (go_at_call 8; refine (toState_calls A n c p L _ HL.out hn ?_).mono ?_; (exact hI7.out); rintro e w8 ⟨gr, rfl, hgr, hr8, hb8⟩; have U8 := Lib.hid (Box.below U7.out (undrew hb8) zu); have X8 := Lib.hid (Box.below X7.out (undrew hb8) zx))
    | (go_at_call 11; refine (eqState_calls (some ⟨g5, 0, none⟩) (some ⟨gr, 0, none⟩) n n n n p p L L _ HL.out HL.out hn hn ?_ ?_).mono ?_; (exact V7.out.ints.below (undrew hb8)); (exact hr8.ints); rintro e w9 ⟨rfl, hb9⟩; have U9 := Lib.hid (Box.below U8.out hb9 (Box.lt U8.out)); have X9 := Lib.hid (Box.below X8.out hb9 (Box.lt X8.out))))
  clear U8 X8 U9 X9 u0 u1 s0 s1 zu zx hr8 hgr U7 X7 V7
  have X10 := Lib.hid (X9.out.below (undrew hb8) X9.out.lt)
  have V5 := Lib.hid (V4.out.below (undrew hb8))
  have U4 := Lib.hid (U3.out.below (undrew hb8) U3.out.lt)
  have T3 := Lib.hid (T2.out.below (undrew hb8))
  have Q2 := Lib.hid (Q1.out.below (undrew hb8))
  have HB10 := Lib.hid (HB9.out.trans (((undrew hb8)).mono HB9.out.size))
  clear X9 V4 U3 T2 Q1 HB9
  have HO6 := Lib.hid (HO5.out.trans (((undrew hb8)).mono HO5.out.size))
  clear HO5
  have X11 := Lib.hid (X10.out.below hb9 X10.out.lt)
  have V6 := Lib.hid (V5.out.below hb9)
  have U5 := Lib.hid (U4.out.below hb9 U4.out.lt)
  have T4 := Lib.hid (T3.out.below hb9)
  have Q3 := Lib.hid (Q2.out.below hb9)
  have HB11 := Lib.hid (HB10.out.trans ((hb9).mono HB10.out.size))
  clear X10 V5 U4 T3 Q2 HB10
  have HO7 := Lib.hid (HO6.out.trans ((hb9).mono HO6.out.size))
  clear HO6
  clear hb8 hb9 hI7
  have hMs := Lib.hid (hMv.below HB11.out)
  go_wp2_with fail
  refine (toMoveS_calls AM m cM M _ HM.out hmb hMs.out).mono ?_
  rintro e w10 ⟨g10, rfl, hg10, hO10, hb⟩
  clear hMs
  have X12 := Lib.hid (X11.out.below hb X11.out.lt)
  have V7 := Lib.hid (V6.out.below hb)
  have U6 := Lib.hid (U5.out.below hb U5.out.lt)
  have T5 := Lib.hid (T4.out.below hb)
  have Q4 := Lib.hid (Q3.out.below hb)
  have HB12 := Lib.hid (HB11.out.trans ((hb).mono HB11.out.size))
  clear X11 V6 U5 T4 Q3 HB11
  have HO8 := Lib.hid (HO7.out.trans ((hb).mono HO7.out.size))
  clear HO7
  have M10 := Lib.hid (OwnM.mvs hO10)
  clear hb hO10 hg10
  go_wp2_with fail
  refine (eqMoveS_calls (some ⟨g6, 0, none⟩) (some ⟨g10, 0, none⟩) m m m m M M _ HM.out HM.out hmb hmb (OwnM.mvs T5.out) M10.out).mono ?_
  rintro e w11 ⟨rfl, hb⟩
  have hMM : decide (M = M) = true := by simp
  rw [hMM]
  clear hMM M10
  have X13 := Lib.hid (X12.out.below hb X12.out.lt)
  have V8 := Lib.hid (V7.out.below hb)
  have U7 := Lib.hid (U6.out.below hb U6.out.lt)
  have T6 := Lib.hid (T5.out.below hb)
  have Q5 := Lib.hid (Q4.out.below hb)
  have HB13 := Lib.hid (HB12.out.trans ((hb).mono HB12.out.size))
  clear X12 V7 U6 T5 Q4 HB12
  have HO9 := Lib.hid (HO8.out.trans ((hb).mono HO8.out.size))
  clear HO8
  clear hb
  obtain ⟨u0, u1, _, _⟩ := U7.out.two
  go_wp2_with fail
  refine (markState_calls _ (some ⟨g5, 0, none⟩) n n p L 1 _ V8.out hn (by omega) (by omega)).mono ?_
  rintro e w12 ⟨rfl, hO, hg⟩
  clear u0 u1
  have T7 := Lib.hid (OwnG.kept T6.out hg (fun g hA e => by injection hA with hA; injection hA with hA; have e' : some g5 = some g := e; injection e' with e'; omega))
  clear T6
  have Q6 := Lib.hid (OwnSt.keptBelow Q5.out hg (fun g hgg => by have h1 := block_of_own V8.out hgg; injection h1 with h1; injection h1 with h1; omega))
  have X14 := Lib.hid (X13.out.grown hg (OwnG.box_ne V8.out X13.out (by decide)))
  have HB14 := Lib.hid (HB13.out.grown hg HB13.out.size (fun k hk => by have h1 := own_bkG V8.out k hk; omega))
  have HO10 := Lib.hid (HO9.out.grown hg HO9.out.size (fun k hk => own_bkG V8.out k hk))
  clear Q5 X13 HB13 HO9 V8 U7 hO hg
  go_wp2_with fail
  refine (markMoveS_calls _ (some ⟨g6, 0, none⟩) m m (mvF M) (1 + n) _ T7.out hmb (by omega) (by omega)).mono ?_
  rintro e w13 ⟨rfl, hO, hg⟩
  have Q7 := Lib.hid (OwnSt.keptBelow Q6.out hg (fun g hgg => by have h1 := block_of_own T7.out hgg; injection h1 with h1; injection h1 with h1; omega))
  have X15 := Lib.hid (X14.out.grown hg (OwnG.box_ne T7.out X14.out (by decide)))
  have HB15 := Lib.hid (HB14.out.grown hg HB14.out.size (fun k hk => by have h1 := own_bkG T7.out k hk; omega))
  have HO11 := Lib.hid (HO10.out.grown hg HO10.out.size (fun k hk => own_bkG T7.out k hk))
  clear Q6 X14 HB14 HO10 T7  hO hg
  have hk3 : ¬ (1 + (n : Int) + ((m * 3 : Nat) : Int)) < 0 := by omega
  have hOI := Lib.hid (OI.out.below HO11.out)
  go_wp2_with fail
  refine (eqStateS_calls A9 A0 n9 c9 n0 c0 rs9 rs0 _ Hl9.out Hl0.out hn9 hn0 hr9.out hr0.out Q7.out.ints hOI.out).mono ?_
  rintro e wq ⟨rfl, hb⟩
  rw [HE9.out]
  clear hOI
  have X16 := Lib.hid (X15.out.below hb X15.out.lt)
  have Q8 := Lib.hid (Q7.out.below hb)
  have HB16 := Lib.hid (HB15.out.trans ((hb).mono HB15.out.size))
  clear X15 Q7 HB15
  have HO12 := Lib.hid (HO11.out.trans ((hb).mono HO11.out.size))
  clear HO11
  clear hb
  go_wp2_with fail
  refine (markStateS_calls _ A9 n9 c9 rs9 1 _ Q8.out hn9 ht9b (by omega) (by omega)).mono ?_
  rintro e w14 ⟨rfl, hO, hg⟩
  have Q9 := Lib.hid hO
  have X17 := Lib.hid (X16.out.below hg hXQ)
  have HB17 := Lib.hid (HB16.out.trans (hg.mono hsW))
  have HO13 := Lib.hid (HO12.out.trans (hg.mono hsQ))
  clear Q8 X16 HB16 HO12 hO hg
  go_wp2_with fail
  refine (heldStateS_calls A9 n9 c9 rs9 1 _ Hl9.out Q9.out.ints hn9 ht9b (by omega) (by omega)).mono ?_
  rintro e wh ⟨rfl, hb⟩
  have X18 := Lib.hid (X17.out.below hb X17.out.lt)
  have Q10 := Lib.hid (Q9.out.below hb)
  have HB18 := Lib.hid (HB17.out.trans ((hb).mono HB17.out.size))
  clear X17 Q9 HB17
  have HO14 := Lib.hid (HO13.out.trans ((hb).mono HO13.out.size))
  clear HO13
  clear hb
  have hIs := Lib.hid (hI.below HB18.out)
  obtain ⟨s0, s1, _, _⟩ := X18.out.two
  go_wp2_with fail
  refine (toState_calls A n c p L _ HL.out hn hIs.out).mono ?_
  rintro e w15 ⟨g15, rfl, hg15, hr15, hb⟩
  clear s0 s1 hIs
  have Q11 := Lib.hid (Q10.out.below hb)
  have HB19 := Lib.hid (HB18.out.trans ((hb).mono HB18.out.size))
  clear X18 Q10 HB18
  have HO15 := Lib.hid (HO14.out.trans ((hb).mono HO14.out.size))
  clear HO14
  have hI15 := Lib.hid hr15.ints
  clear hb hg15 hr15
  have hMs := Lib.hid (hMv.below HB19.out)
  go_wp2_with fail
  refine (toMoveS_calls AM m cM M _ HM.out hmb hMs.out).mono ?_
  rintro e w16 ⟨g16, rfl, hg16, hO16, hb⟩
  clear hMs
  have hI16 := Lib.hid (hI15.out.below hb)
  have Q12 := Lib.hid (Q11.out.below hb)
  have HB20 := Lib.hid (HB19.out.trans ((hb).mono HB19.out.size))
  clear Q11 HB19
  have HO16 := Lib.hid (HO15.out.trans ((hb).mono HO15.out.size))
  clear HO15
  have hM16 := Lib.hid (OwnM.mvs hO16)
  clear hb hg16 hO16 hI15
  go_wp2_with fail
  refine (HP.out g15 g16 _ hI16.out hM16.out).mono ?_
  rintro e w17 ⟨A14, n14, c14, rs14, rfl, hK, hL14, hb⟩
  have Q13 := Lib.hid (Q12.out.below hb)
  have HB21 := Lib.hid (HB20.out.trans ((hb).mono HB20.out.size))
  clear Q12 HB20
  have HO17 := Lib.hid (HO16.out.trans ((hb).mono HO16.out.size))
  clear HO16
  have hl14 := hK.len
  have ht14 := totT_QL hK
  rw [hL14] at ht14
  have hn14 : n14 ≤ 1048576 := by rw [← hl14]; exact Nat.le_trans (totT_len rs14) (by omega)
  have hr14' : Hid (∀ r ∈ rs14, r.n ≤ 1048576) := rowsT_small (by rw [ht14]; omega)
  have Hl14 := Lib.hid hl14
  have HE14 : Hid (decide (QLof rs14 = QLof rs0) = true) := by unfold Hid; rw [hL14, HL0.out]; simp
  have K0 := Lib.hid hK.ints
  clear hK hb hI16 hM16 hl14 hL14 ht14
  have hOI := Lib.hid (OI.out.below HO17.out)
  go_wp2_with fail
  refine (eqStateS_calls A14 A0 n14 c14 n0 c0 rs14 rs0 _ Hl14.out Hl0.out hn14 hn0 hr14'.out hr0.out K0.out hOI.out).mono ?_
  rintro e wq ⟨rfl, hb⟩
  rw [HE14.out]
  clear hOI
  have Q14 := Lib.hid (Q13.out.below hb)
  have HB22 := Lib.hid (HB21.out.trans ((hb).mono HB21.out.size))
  clear Q13 HB21
  have HO18 := Lib.hid (HO17.out.trans ((hb).mono HO17.out.size))
  clear HO17
  clear hb
  clear K0
  go_wp2_with fail
  refine (heldStateS_calls A9 n9 c9 rs9 1 _ Hl9.out Q14.out.ints hn9 ht9b (by omega) (by omega)).mono ?_
  rintro e wh ⟨rfl, hb⟩
  have Q15 := Lib.hid (Q14.out.below hb)
  have HB23 := Lib.hid (HB22.out.trans ((hb).mono HB22.out.size))
  clear Q14 HB22
  have HO19 := Lib.hid (HO18.out.trans ((hb).mono HO18.out.size))
  clear HO18
  clear hb
  go_wp2
  go_ret
  exact ⟨rfl, HB23.out⟩

theorem walk (p : Int) (A : Option Addr) (n c : Nat) (L : List Int) (AM : Option Addr) (m cM : Nat) (M : List Mv) (w : World) (w0 : (Lit.int .i64 p).wf = true) (hA : ArgInts w A n L) (hB : ArgMvs w AM m M) :
    Calls Try.prog 5 #[.agg #[.int .i64 p, .slice A n c], .slice AM m cM] w fun e w' => e = .returned (.bool true) ∧ Below w.heap.size w w' := by
  obtain ⟨hL, hm, hI⟩ := hA
  obtain ⟨hM, hmm, hMv⟩ := hB
  by_cases hn : n ≤ 1048576
  · by_cases hnm : n + m ≤ 1048576
    · exact core p A n c L AM m cM M (rsC p L M) (rsV p L M) w (by exact rsV_small p L M) hL hn hI hM hnm hMv (fun g h W hW hW' => specStatesOfRun_ret (some ⟨g, 0, none⟩) n n p L (some ⟨h, 0, none⟩) m m M W hL hn (fun h => by cases h) hW hM (by omega) hW') (fun g h W hW hW' => implStatesOfRun_ret (some ⟨g, 0, none⟩) n n p L (some ⟨h, 0, none⟩) m m M W hL hn hW hM (by omega) hW')
    · have h0 := szI_yes hn
      have h1 : szI n 1048576 ≤ 1048576 := by unfold szI; omega
      have h2 : szI m (szI n 1048576) = -1 := by unfold szI; omega
      go_enter Try.func5, Try.ntmps5
      go_wp2_with fail
      refine (szState_calls A n c p 1048576 _ hm (by omega) (by omega)).mono ?_
      rintro e w1 ⟨rfl, hb1⟩
      have HB1 := Lib.hid (((Below.refl w.heap.size w).alloc (Nat.le_refl _) _).trans (hb1.mono (by simp)))
      clear hb1
      go_wp2_with fail
      refine (szMoveS_calls AM m cM (szI n 1048576) _ hmm h0 h1).mono ?_
      rintro e wz ⟨rfl, rfl⟩
      go_wp2
      go_ret
      exact ⟨rfl, HB1.out⟩
  · have h0 := szI_no hn
    go_enter Try.func5, Try.ntmps5
    go_wp2_with fail
    refine (szState_calls A n c p 1048576 _ hm (by omega) (by omega)).mono ?_
    rintro e w1 ⟨rfl, hb1⟩
    have HB1 := Lib.hid (((Below.refl w.heap.size w).alloc (Nat.le_refl _) _).trans (hb1.mono (by simp)))
    clear hb1
    go_wp2
    go_ret
    exact ⟨rfl, HB1.out⟩

set_option maxRecDepth 100000 in
theorem lifted (os : Os) (started : os.Started) (H : Type) (enc : TypeId × Value → H) :
    ReturnsInHanded {} Try.checked os 5 .any (Rows.fnExactStatesOfRunSpec.pre6 enc Try.prog Try.f5 Rows.fnExactStatesOfRunRow.domain false) (Rows.fnExactStatesOfRunSpec.post enc Try.prog Try.f5 false true false false) := by
  refine returnsInHanded_of_change (C := Try.checked) own started (by kernel_rfl) Try.func5
    (ChangeSpec.witness6 (enc := enc) (C := Try.checked) false ⟨#[], #[.agg #[.int .i64 0, .slice none 0 0], .slice none 0 0], []⟩ 8 (by kernel_rfl) (by kernel_rfl) (by kernel_rfl) (by kernel_rfl)) ?_
  intro W base args ds gs before hval0 hW hcnd _
  have hval : ∀ (j : Nat) t v, Try.f5.params[j]? = some t → args[j]? = some v → Value.okWide Try.prog W .any base t v := hval0
  have hW' := hW
  obtain ⟨p, q, hA0, hV, rfl, hfz, hnd⟩ := hW
  have hA : DataW.TrodAll enc Try.prog W 0 (fun _ => true) true Try.f5.params.toList args.toList ds p := hA0
  rw [Try.params5] at hA hval
  obtain ⟨v0, vs0, d0, ds0, p0, q0, hargs, rfl, rfl, h0, r0⟩ := trodAll_cons hA
  obtain ⟨v1, vs1, d1, ds1, p1, q1, rfl, rfl, rfl, h1, r1⟩ := trodAll_cons r0
  obtain ⟨rfl, rfl, rfl⟩ := trodAll_nil r1
  obtain rfl : args = #[v0, v1] := by cases args; simp_all
  obtain ⟨rfl, rfl⟩ := trodVars_none hV
  have lt0 : ∀ x ∈ p0, x.block < W.heap.size := by obtain ⟨m, hm⟩ := h0; exact DataW.trod_lt m _ _ _ hm
  have k0 := h0
  obtain ⟨a0, A0, n0, c0, L0, rfl, w0, hAI0⟩ := open_state (hval 0 24 v0 rfl rfl) h0
  have lt1 : ∀ x ∈ p1, x.block < W.heap.size := by obtain ⟨m, hm⟩ := h1; exact DataW.trod_lt m _ _ _ hm
  have k1 := h1
  obtain ⟨A1, n1, c1, M1, rfl, hAM1⟩ := open_moves (hval 1 36 v1 rfl rfl) h1
  clear hA0 hval0
  refine (walk a0 A0 n0 c0 L0 A1 n1 c1 M1 W w0 hAI0 hAM1).mono fun e W' ⟨he, bel⟩ => ?_
  subst he
  exact ⟨_, rfl, _, _, _, [], _, [], hW', trodAll_mk1 (shut_bool Try.underlying4 _), (trodAll_cons_mk (Below.trod laidOut (by kernel_rfl) (of_decide_eq_true (by kernel_rfl)) k0 bel lt0) (trodAll_cons_mk (Below.trod laidOut (by kernel_rfl) (of_decide_eq_true (by kernel_rfl)) k1 bel lt1) trodAll_mk0)), rfl, bel.frame _, fun h => by cases h⟩

theorem over : Rows.fnExactStatesOfRunRow.holds Try.pinned (OpenSpec.ofChange Rows.fnExactStatesOfRunSpec) :=
  OpenClaim.holds_of_wide 5 Try.f5 rfl rfl rfl rfl rfl rfl rfl ⟨rfl, rfl, rfl, rfl, rfl⟩ rfl rfl rfl rfl rfl (by kernel_rfl) Try.func5 (by kernel_rfl)
    (of_decide_eq_true (by kernel_rfl)) (by unfold Func.isWrapper; first | (rw [if_pos (by decide +kernel)]; kernel_rfl) | (rw [if_neg (by decide +kernel)]; exact ⟨rfl, rfl⟩))
    (fun os started H enc _ => lifted os started H enc)

theorem proved : Rows.FnExactStatesOfRunSaid := over
#print axioms proved
end Go.Proofs.Ytagaopdpnloblaa.fnExactStatesOfRun
