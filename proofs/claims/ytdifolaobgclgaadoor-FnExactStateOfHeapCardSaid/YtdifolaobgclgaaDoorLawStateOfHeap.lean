/- 'StateOfHeap' of the program answers at every argument as the specification's model, leaves its argument as it was, and its answer is its own memory. The package variable errNoHeap is as its own initialiser lays it (a tied card). Conditions: none. -/
import Derived.Test.YtdifolaobgclgaaDoorOpen
import Derived.Test.YtdifolaobgclgaaDoorHpSpec
import Derived.Test.YtdifolaobgclgaaDoorHpSt
import Derived.Test.YtdifolaobgclgaaDoorHeld
import Derived.Test.YtdifolaobgclgaaDoorHpK
import Derived.Deep.RegionHeld3
import Derived.Test.YtdifolaobgclgaaDoorHpDoor
import Derived.Test.YtdifolaobgclgaaDoorOpenHeap
import Derived.Test.YtdifolaobgclgaaDoorCards
import Derived.Test.YtdifolaobgclgaaDoorTie
import Derived.SevenTiedAt
import Derived.LaidMore
import Derived.Stop.Joined
namespace Go.Proofs.YtdifolaobgclgaaDoor.fnExactStateOfHeap
open Go.ChangeShapes Go.WideShapes Go.ChangeAt Go.RowKit Go.Joins
open Go.ChangeMaps (open_string)
set_option linter.unusedVariables false

theorem szI_no {n : Nat} (h : ¬ n ≤ 1048576) : szI n 1048576 = -1 := by unfold szI; omega
theorem szI_yes {n : Nat} (h : n ≤ 1048576) : 0 ≤ szI n 1048576 := by unfold szI; omega

set_option maxRecDepth 100000 in
set_option maxHeartbeats 16000000 in
theorem core (A : Option Addr) (n c : Nat) (rs : List Rw) (LL : List (List Int)) (P E : Int) (LS : List Int) (nn : Nat) (hnn : nn ≤ 1048576) (hLS : LS.length = nn) (ea : Addr) (w : World) (hLL : LLof rs = LL) (hA : ArgSS w A n rs) (hn : n + totN rs ≤ 1048576) (hS : Sent w ea)
    (hspec : ∀ (A : Option Addr) (n c : Nat) (rs : List Rw) (W : World), rs.length = n → LLof rs = LL → totN rs ≤ 1048576 → IntsSS W A rs → n ≤ 1048576 → Calls Tryd.prog 14 #[.agg #[.slice A n c]] W (RetState W P nn LS E))
    (himpl : ∀ (A : Option Addr) (n c : Nat) (rs : List Rw) (W : World), rs.length = n → LLof rs = LL → totN rs ≤ 1048576 → IntsSS W A rs → Sent W ea → n ≤ 1048576 → Calls Tryd.prog 15 #[.agg #[.slice A n c]] W (RetState W P nn LS E)) :
    Calls Tryd.prog 5 #[.agg #[.slice A n c]] w fun e w' => e = .returned (.bool true) ∧ Below w.heap.size w w' := by
  have hI := hA.2.2.2
  have HL := Lib.hid hA.1
  have hn1 : n ≤ 1048576 := by omega
  have HS : Hid (∀ (A : Option Addr) (n c : Nat) (rs : List Rw) (W : World), rs.length = n → LLof rs = LL → totN rs ≤ 1048576 → IntsSS W A rs → n ≤ 1048576 → Calls Tryd.prog 14 #[.agg #[.slice A n c]] W (RetState W P nn LS E)) := hspec
  have HP := Lib.hid himpl
  have HLS := Lib.hid hLS
  have Htot := Lib.hid (And.intro (cnt_tot hI) (show totN rs ≤ 1048576 by omega))
  have Hb : Hid (∀ r ∈ rs, r.n ≤ 1048576) := rows_small (by omega)
  have HLL := Lib.hid hLL
  have h0 := szI_yes hn
  have X0 := Lib.hid (Box.new w 24 #[.slice A n c])
  have HB0 := Lib.hid ((Below.refl w.heap.size w).alloc (Nat.le_refl _) (.cells #[.slice A n c] 24))
  clear hLL hLS hspec himpl
  go_enter Tryd.func5, Tryd.ntmps5
  obtain ⟨xy0, _⟩ := X0.out.one
  go_wp2_with fail
  refine (szHeap_calls A n c rs 1048576 _ (hA.below HB0.out) (by omega) (by omega)).mono ?_
  rintro e w1 ⟨rfl, hb⟩
  clear xy0
  have X1 := Lib.hid (X0.out.below hb X0.out.lt)
  have HB1 := Lib.hid (HB0.out.trans ((hb).mono HB0.out.size))
  clear X0 HB0
  clear hb
  have hIx := Lib.hid (hI.below HB1.out)
  obtain ⟨xy0, _⟩ := X1.out.one
  go_wp2_with fail
  refine (toHeap_calls A n c rs _ HL.out hn1 Hb.out hIx.out).mono ?_
  rintro e w2 ⟨g2, r2, rfl, hg, hO, hLL, hb⟩
  clear xy0
  clear hIx
  have X2 := Lib.hid (X1.out.below hb X1.out.lt)
  have HB2 := Lib.hid (HB1.out.trans ((hb).mono HB1.out.size))
  clear X1 HB1
  have J0 := Lib.hid hO
  have T0 := Lib.hid hLL
  clear hb hO hLL hg
  go_wp2_with fail
  refine (HS.out (some ⟨g2, 0, none⟩) n n r2 _ J0.out.len (T0.out.trans HLL.out) (tot_eq T0.out J0.out Htot.out) J0.out.ints hn1).mono ?_
  rintro e w3 ⟨A0, c0, rfl, hO, hb⟩
  have X3 := Lib.hid (X2.out.below hb X2.out.lt)
  have HB3 := Lib.hid (HB2.out.trans ((hb).mono HB2.out.size))
  clear X2 J0 HB2
  have O0 := Lib.hid hO
  clear hb hO T0
  have hX := Box.new w3 35 #[.int .i64 P, .slice A0 nn c0]
  have hba : Below w3.heap.size w3 (World.alloc w3 (.cells #[.int .i64 P, .slice A0 nn c0] 35)) := (Below.refl _ w3).alloc (Nat.le_refl _) _
  have X4 := Lib.hid (X3.out.below hba X3.out.lt)
  have O1 := Lib.hid (O0.out.below hba)
  have HB4 := Lib.hid (HB3.out.trans ((hba).mono HB3.out.size))
  clear X3 O0 HB3
  have Z0 := Lib.hid hX
  clear hX hba
  have hIx := Lib.hid (hI.below HB4.out)
  obtain ⟨xy0, _⟩ := X4.out.one
  go_wp2_with fail
  generalize hWW : World.alloc w3 (.cells #[.int .i64 P, .slice A0 nn c0] 35) = WZ at *
  clear hWW
  generalize w3.heap.size = bZ at *
  refine (toHeap_calls A n c rs _ HL.out hn1 Hb.out hIx.out).mono ?_
  rintro e w4 ⟨g5, r5, rfl, hg, hO, hLL, hb⟩
  clear xy0
  clear hIx
  have HOb := Lib.hid (OwnG.blk O1.out)
  skip
  have HZb := Z0.out.lt
  have HXb := X4.out.lt
  have HBb := HB4.out.size
  have X5 := Lib.hid (X4.out.below hb X4.out.lt)
  have O2 := Lib.hid (O1.out.below hb)
  have Z1 := Lib.hid (Z0.out.below hb Z0.out.lt)
  have HB5 := Lib.hid (HB4.out.trans ((hb).mono HB4.out.size))
  clear X4 O1 Z0 HB4
  have V0 := Lib.hid hO
  have T5 := Lib.hid hLL
  have HVo := Lib.hid hO.old
  clear hb hO hLL hg
  have hVs : ∃ C, w4.heap.size = C := ⟨_, rfl⟩
  obtain ⟨C, hC⟩ := hVs
  rw [hC] at HVo
  have HCe := Lib.hid hC
  clear hC
  have hX := Box.new w4 27 #[.slice (some ⟨g5, 0, none⟩) n n]
  have hba : Below w4.heap.size w4 (World.alloc w4 (.cells #[.slice (some ⟨g5, 0, none⟩) n n] 27)) := (Below.refl _ w4).alloc (Nat.le_refl _) _
  have X6 := Lib.hid (X5.out.below hba X5.out.lt)
  have O3 := Lib.hid (O2.out.below hba)
  have Z2 := Lib.hid (Z1.out.below hba Z1.out.lt)
  have V1 := Lib.hid (V0.out.below hba)
  have HB6 := Lib.hid (HB5.out.trans ((hba).mono HB5.out.size))
  clear X5 O2 Z1 V0 HB5
  have U0 := Lib.hid hX
  clear hX hba
  obtain ⟨uy0, _⟩ := U0.out.one
  go_wp2_with fail
  generalize hWW : World.alloc w4 (.cells #[.slice (some ⟨g5, 0, none⟩) n n] 27) = WU at *
  clear hWW
  generalize w4.heap.size = bU at *
  have HCs : Hid (C ≤ bU) := by unfold Hid; rw [HCe.out]; exact Nat.le_refl _
  clear HCe
  have HUl := U0.out.lt
  refine (HP.out (some ⟨g5, 0, none⟩) n n r5 _ V1.out.len (T5.out.trans HLL.out) (tot_eq T5.out V1.out Htot.out) V1.out.ints (hS.below HB6.out) hn1).mono ?_
  rintro e w6 ⟨A9, c9, rfl, hQ, hb⟩
  clear uy0
  have BQ := HB6.out.size
  have AZ := Lib.hid (own_apart O3.out hQ (Nat.le_refl _))
  have HQb := Lib.hid (OwnG.blk hQ)
  have HYc := Lib.hid (show C ≤ w6.heap.size by have := hb.size; have := HCs.out; omega)
  have X7 := Lib.hid (X6.out.below hb X6.out.lt)
  have O4 := Lib.hid (O3.out.below hb)
  have Z3 := Lib.hid (Z2.out.below hb Z2.out.lt)
  have V2 := Lib.hid (V1.out.below hb)
  have U1 := Lib.hid (U0.out.below hb U0.out.lt)
  have HB7 := Lib.hid (HB6.out.trans ((hb).mono HB6.out.size))
  clear X6 O3 Z2 V1 U0 HB6
  have Q0 := Lib.hid hQ
  clear hb hQ
  have hX := Box.new w6 35 #[.int .i64 P, .slice A9 nn c9]
  have hba : Below w6.heap.size w6 (World.alloc w6 (.cells #[.int .i64 P, .slice A9 nn c9] 35)) := (Below.refl _ w6).alloc (Nat.le_refl _) _
  have X8 := Lib.hid (X7.out.below hba X7.out.lt)
  have O5 := Lib.hid (O4.out.below hba)
  have Z4 := Lib.hid (Z3.out.below hba Z3.out.lt)
  have V3 := Lib.hid (V2.out.below hba)
  have U2 := Lib.hid (U1.out.below hba U1.out.lt)
  have Q1 := Lib.hid (Q0.out.below hba)
  have HB8 := Lib.hid (HB7.out.trans ((hba).mono HB7.out.size))
  clear X7 O4 Z3 V2 U1 Q0 HB7
  have Y0 := Lib.hid hX
  clear hX hba
  obtain ⟨zy0, zy1, _, _⟩ := Z4.out.two
  obtain ⟨yy0, yy1, _, _⟩ := Y0.out.two
  go_wp2_with fail
  generalize hWW : World.alloc w6 (.cells #[.int .i64 P, .slice A9 nn c9] 35) = WY at *
  clear hWW
  generalize w6.heap.size = bY at *
  refine (eqState_calls A9 A0 nn c9 nn c0 P P LS LS _ HLS.out HLS.out hnn hnn (Own.ints Q1.out) (Own.ints O5.out)).mono ?_
  rintro e w7 ⟨rfl, hb⟩
  have X9 := Lib.hid (X8.out.below hb X8.out.lt)
  have O6 := Lib.hid (O5.out.below hb)
  have Z5 := Lib.hid (Z4.out.below hb Z4.out.lt)
  have V4 := Lib.hid (V3.out.below hb)
  have U3 := Lib.hid (U2.out.below hb U2.out.lt)
  have Q2 := Lib.hid (Q1.out.below hb)
  have Y1 := Lib.hid (Y0.out.below hb Y0.out.lt)
  have HB9 := Lib.hid (HB8.out.trans ((hb).mono HB8.out.size))
  clear X8 O5 Z4 V3 U2 Q1 Y0 HB8
  clear hb
  clear zy0 zy1
  clear yy0 yy1
  have hI7 := Lib.hid (hI.below HB9.out)
  have U7 := U3
  have X7 := X9
  have V7 := V4
  obtain ⟨u0, _⟩ := U7.out.one
  obtain ⟨s0, _⟩ := X7.out.one
  have zu := U7.out.lt
  have zx := X7.out.lt
  go_wp2_with fail
  go_region_held3 (fun w' => w'.cell? ⟨bU, 0, none⟩ = some (.slice (some ⟨g5, 0, none⟩) n n) ∧ w'.cell? ⟨w.heap.size, 0, none⟩ = some (.slice A n c))
    (first | exact ⟨U7.out.one.1, X7.out.one.1⟩ | exact ⟨U8.out.one.1, X8.out.one.1⟩ | exact ⟨U9.out.one.1, X9.out.one.1⟩ | go_keep)
    (first
    | (go_at_call 9; refine (toHeap_calls A n c rs _ HL.out hn1 Hb.out ?_).mono ?_; (exact hI7.out); rintro e w8 ⟨gr, r8, rfl, hgr, hr8, hl8, hb8⟩; have U8 := Lib.hid (Box.below U7.out (undrew hb8) zu); have X8 := Lib.hid (Box.below X7.out (undrew hb8) zx))
    | (go_at_call 11; refine (eqHeap_calls (some ⟨g5, 0, none⟩) (some ⟨gr, 0, none⟩) n n n n r5 r8 _ ?_ ?_ hn1 hn1 ?_ ?_ ?_ ?_).mono ?_; (exact V7.out.len); (exact hr8.len); (exact rows_small (tot_eq T5.out V7.out Htot.out)); (exact rows_small (tot_eq hl8 hr8 Htot.out)); (exact V7.out.ints.below (undrew hb8)); (exact hr8.ints); rintro e w9 ⟨rfl, hb9⟩; have U9 := Lib.hid (Box.below U8.out hb9 (Box.lt U8.out)); have X9 := Lib.hid (Box.below X8.out hb9 (Box.lt X8.out))))
  have HE : Hid (decide (LLof r5 = LLof rs) = true) := by unfold Hid; rw [T5.out]; simp
  have HE2 : Hid (decide (LLof r5 = LLof r8) = true) := by unfold Hid; rw [T5.out, hl8]; simp
  clear U8 X8 U9 X9 u0 s0 zu zx hr8 hgr U7 X7 V7 hl8
  first | rw [HE.out] | rw [HE2.out]
  clear HE HE2
  have X10 := Lib.hid (X9.out.below (undrew hb8) X9.out.lt)
  have O7 := Lib.hid (O6.out.below (undrew hb8))
  have Z6 := Lib.hid (Z5.out.below (undrew hb8) Z5.out.lt)
  have V5 := Lib.hid (V4.out.below (undrew hb8))
  have U4 := Lib.hid (U3.out.below (undrew hb8) U3.out.lt)
  have Q3 := Lib.hid (Q2.out.below (undrew hb8))
  have Y2 := Lib.hid (Y1.out.below (undrew hb8) Y1.out.lt)
  have HB10 := Lib.hid (HB9.out.trans (((undrew hb8)).mono HB9.out.size))
  clear X9 O6 Z5 V4 U3 Q2 Y1 HB9
  have X11 := Lib.hid (X10.out.below hb9 X10.out.lt)
  have O8 := Lib.hid (O7.out.below hb9)
  have Z7 := Lib.hid (Z6.out.below hb9 Z6.out.lt)
  have V6 := Lib.hid (V5.out.below hb9)
  have U5 := Lib.hid (U4.out.below hb9 U4.out.lt)
  have Q4 := Lib.hid (Q3.out.below hb9)
  have Y3 := Lib.hid (Y2.out.below hb9 Y2.out.lt)
  have HB11 := Lib.hid (HB10.out.trans ((hb9).mono HB10.out.size))
  clear X10 O7 Z6 V5 U4 Q3 Y2 HB10
  clear hb8 hb9 hI7
  obtain ⟨uy0, _⟩ := U5.out.one
  go_wp2_with fail
  have hVB : ∀ g, (some ⟨g5, 0, none⟩ : Option Addr) = some ⟨g, 0, none⟩ → _ ≤ g := fun g h => (OwnG.blk V6.out.1 g h).1
  have htV : totN r5 ≤ 1048576 := tot_eq T5.out V6.out Htot.out
  refine (markHeap_kept _ (some ⟨g5, 0, none⟩) n n r5 1 _ V6.out (Nat.le_trans (hVB g5 rfl) (Nat.le_of_lt (OwnG.blk V6.out.1 g5 rfl).2)) hn1 htV (by omega) (by omega)).mono ?_
  rintro e w10 ⟨rfl, _, hbm, hkp⟩
  clear uy0
  have HVne : Hid (∀ b, C ≤ b → ∀ r ∈ r5, r.A ≠ some ⟨b, 0, none⟩) := fun b hb r hr hA => by have := HVo.out r hr b hA; omega
  have O9 := Lib.hid (OwnG.of_block O8.out (fun g hA => hbm.block g (HOb.out g hA).2))
  have X12 := Lib.hid (X11.out.below hbm HXb)
  have Z8 := Lib.hid (Z7.out.below hbm HZb)
  have Q5 := Lib.hid (OwnG.of_block Q4.out (fun g hA => hkp.2 g (OwnG.blk Q4.out g hA).2 (HVne.out g (by have := (HQb.out g hA).1; have := HCs.out; omega))))
  have Y4 := Lib.hid (Y3.out.of_block (hkp.2 _ Y3.out.lt (HVne.out _ HYc.out)))
  have HB12 := Lib.hid (HB11.out.trans (hbm.mono HBb))
  clear O8 X11 Q4 HB11 V6 U5 hbm hkp hVB Z7 Y3
  have hk1 : ¬ (1 + (totN r5 : Int)) < 0 := by omega
  obtain ⟨zy0, zy1, _, _⟩ := Z8.out.two
  obtain ⟨yy0, yy1, _, _⟩ := Y4.out.two
  go_wp2_with fail
  refine (eqState_calls A9 A0 nn c9 nn c0 P P LS LS _ HLS.out HLS.out hnn hnn (Own.ints Q5.out) (Own.ints O9.out)).mono ?_
  rintro e w7 ⟨rfl, hb⟩
  have X13 := Lib.hid (X12.out.below hb X12.out.lt)
  have O10 := Lib.hid (O9.out.below hb)
  have Z9 := Lib.hid (Z8.out.below hb Z8.out.lt)
  have Q6 := Lib.hid (Q5.out.below hb)
  have Y5 := Lib.hid (Y4.out.below hb Y4.out.lt)
  have HB13 := Lib.hid (HB12.out.trans ((hb).mono HB12.out.size))
  clear X12 O9 Z8 Q5 Y4 HB12
  clear hb
  clear zy0 zy1
  clear yy0 yy1
  obtain ⟨yy0, yy1, _, _⟩ := Y5.out.two
  go_wp2_with fail
  refine (markState_calls _ A9 nn c9 P LS 1 _ Q6.out hnn (by omega) (by omega)).mono ?_
  rintro e w12 ⟨rfl, hO, hg⟩
  clear yy0 yy1
  have X14 := Lib.hid (X13.out.grown hg (Q6.out.box_ne X13.out (by decide)))
  have O11 := Lib.hid (O10.out.kept hg AZ.out)
  have Z10 := Lib.hid (Z9.out.grown hg (Q6.out.box_ne Z9.out (by decide)))
  have Y6 := Lib.hid (Y5.out.grown hg (Q6.out.box_ne Y5.out (by decide)))
  have Q7 := Lib.hid hO
  have HB14 := Lib.hid (HB13.out.grown hg HB13.out.size (fun k hk => by have h1 := own_bk Q6.out k hk; omega))
  clear X13 O10 Z9 Q6 Y5 HB13 hO hg
  obtain ⟨yy0, yy1, _, _⟩ := Y6.out.two
  go_wp2_with fail
  refine (heldState_calls A9 nn c9 P 1 _ (Own.ints Q7.out) hnn (by omega) (by omega)).mono ?_
  rintro e w13 ⟨rfl, hb⟩
  have X15 := Lib.hid (X14.out.below hb X14.out.lt)
  have O12 := Lib.hid (O11.out.below hb)
  have Z11 := Lib.hid (Z10.out.below hb Z10.out.lt)
  have Q8 := Lib.hid (Q7.out.below hb)
  have Y7 := Lib.hid (Y6.out.below hb Y6.out.lt)
  have HB15 := Lib.hid (HB14.out.trans ((hb).mono HB14.out.size))
  clear X14 O11 Z10 Q7 Y6 HB14
  clear hb
  clear yy0 yy1
  have hIx := Lib.hid (hI.below HB15.out)
  obtain ⟨xy0, _⟩ := X15.out.one
  go_wp2_with fail
  refine (toHeap_calls A n c rs _ HL.out hn1 Hb.out hIx.out).mono ?_
  rintro e w14 ⟨g14, r14, rfl, hg, hO, hLL, hb⟩
  clear xy0
  clear hIx
  have O13 := Lib.hid (O12.out.below hb)
  have Z12 := Lib.hid (Z11.out.below hb Z11.out.lt)
  have Q9 := Lib.hid (Q8.out.below hb)
  have Y8 := Lib.hid (Y7.out.below hb Y7.out.lt)
  have HB16 := Lib.hid (HB15.out.trans ((hb).mono HB15.out.size))
  clear X15 O12 Z11 Q8 Y7 HB15
  have J0 := Lib.hid hO
  have T14 := Lib.hid hLL
  clear hb hO hLL hg
  go_wp2_with fail
  refine (HP.out (some ⟨g14, 0, none⟩) n n r14 _ J0.out.len (T14.out.trans HLL.out) (tot_eq T14.out J0.out Htot.out) J0.out.ints (hS.below HB16.out) hn1).mono ?_
  rintro e w15 ⟨A14, c14, rfl, hK, hb⟩
  have O14 := Lib.hid (O13.out.below hb)
  have Z13 := Lib.hid (Z12.out.below hb Z12.out.lt)
  have Q10 := Lib.hid (Q9.out.below hb)
  have Y9 := Lib.hid (Y8.out.below hb Y8.out.lt)
  have HB17 := Lib.hid (HB16.out.trans ((hb).mono HB16.out.size))
  clear O13 Z12 Q9 Y8 J0 HB16
  have K0 := Lib.hid hK
  clear hK hb
  have hX := Box.new w15 35 #[.int .i64 P, .slice A14 nn c14]
  have hba : Below w15.heap.size w15 (World.alloc w15 (.cells #[.int .i64 P, .slice A14 nn c14] 35)) := (Below.refl _ w15).alloc (Nat.le_refl _) _
  have O15 := Lib.hid (O14.out.below hba)
  have Z14 := Lib.hid (Z13.out.below hba Z13.out.lt)
  have Q11 := Lib.hid (Q10.out.below hba)
  have Y10 := Lib.hid (Y9.out.below hba Y9.out.lt)
  have K1 := Lib.hid (K0.out.below hba)
  have HB18 := Lib.hid (HB17.out.trans ((hba).mono HB17.out.size))
  clear O14 Z13 Q10 Y9 K0 HB17
  have T0 := Lib.hid hX
  clear hX hba
  obtain ⟨zy0, zy1, _, _⟩ := Z14.out.two
  obtain ⟨ty0, ty1, _, _⟩ := T0.out.two
  go_wp2_with fail
  generalize hWW : World.alloc w15 (.cells #[.int .i64 P, .slice A14 nn c14] 35) = WT at *
  clear hWW
  generalize w15.heap.size = bT at *
  refine (eqState_calls A14 A0 nn c14 nn c0 P P LS LS _ HLS.out HLS.out hnn hnn (Own.ints K1.out) (Own.ints O15.out)).mono ?_
  rintro e w7 ⟨rfl, hb⟩
  have O16 := Lib.hid (O15.out.below hb)
  have Z15 := Lib.hid (Z14.out.below hb Z14.out.lt)
  have Q12 := Lib.hid (Q11.out.below hb)
  have Y11 := Lib.hid (Y10.out.below hb Y10.out.lt)
  have K2 := Lib.hid (K1.out.below hb)
  have T1 := Lib.hid (T0.out.below hb T0.out.lt)
  have HB19 := Lib.hid (HB18.out.trans ((hb).mono HB18.out.size))
  clear O15 Z14 Q11 Y10 K1 T0 HB18
  clear hb
  clear zy0 zy1
  clear ty0 ty1
  obtain ⟨yy0, yy1, _, _⟩ := Y11.out.two
  go_wp2_with fail
  refine (heldState_calls A9 nn c9 P 1 _ (Own.ints Q12.out) hnn (by omega) (by omega)).mono ?_
  rintro e w13 ⟨rfl, hb⟩
  have O17 := Lib.hid (O16.out.below hb)
  have Z16 := Lib.hid (Z15.out.below hb Z15.out.lt)
  have Q13 := Lib.hid (Q12.out.below hb)
  have Y12 := Lib.hid (Y11.out.below hb Y11.out.lt)
  have K3 := Lib.hid (K2.out.below hb)
  have T2 := Lib.hid (T1.out.below hb T1.out.lt)
  have HB20 := Lib.hid (HB19.out.trans ((hb).mono HB19.out.size))
  clear O16 Z15 Q12 Y11 K2 T1 HB19
  clear hb
  clear yy0 yy1
  go_wp2
  go_ret
  exact ⟨rfl, by first | exact HB20.out | (rw [← World.drewN_drewN]; exact HB20.out)⟩

theorem walk (A : Option Addr) (n c : Nat) (rs : List Rw) (ea : Addr) (w : World) (hA : ArgSS w A n rs)  (hS : Sent w ea) :
    Calls Tryd.prog 5 #[.agg #[.slice A n c]] w fun e w' => e = .returned (.bool true) ∧ Below w.heap.size w w' := by
  by_cases hn : n + totN rs ≤ 1048576
  · exact core A n c rs _ (sohP (LLof rs)) (sohE (LLof rs)) (sohL (LLof rs)) _ (by exact sohL_len _) rfl ea w rfl hA hn hS
      (fun A n c r W h1 h2 h3 h4 h5 => by rw [← h2]; exact specStateOfHeap_h A n c r W h1 h5 h3 h4)
      (fun A n c r W h1 h2 h3 h4 h5 h6 => by rw [← h2]; exact implStateOfHeap_h A n c r ea W h1 h6 h3 h4 h5)
  · have h0 := szI_no hn
    have hb0 : Below w.heap.size w (w.alloc (.cells #[.slice A n c] 24)) := (Below.refl w.heap.size w).alloc (Nat.le_refl _) (.cells #[.slice A n c] 24)
    have HB0 := Lib.hid hb0
    clear hb0
    go_enter Tryd.func5, Tryd.ntmps5
    go_wp2_with fail
    refine (szHeap_calls A n c rs 1048576 _ (hA.below HB0.out) (by omega) (by omega)).mono ?_
    rintro e w1 ⟨rfl, hb1⟩
    have HB1 := Lib.hid (HB0.out.trans (hb1.mono HB0.out.size))
    clear hb1
    go_wp2
    go_ret
    exact ⟨rfl, HB1.out⟩

theorem door_met (os : Os) (args : Array Value) : laidMetH Tryd.prog Rows.fnExactStateOfHeapRow.laid ((World.doorLaid Tryd.prog 28 os).forCall (fun _ _ => 0) ⟨#[], args, []⟩).memory :=
  laidMetH_of_parts3 (fuel := 8) (laidMet_of_run' 8 (by kernel_rfl) (by kernel_rfl)) (by kernel_rfl) (by kernel_rfl)
theorem sent_of_laid {W : World} (h : laidMetH Tryd.prog Rows.fnExactStateOfHeapRow.laid W) : ∃ a : Addr, W.var? Tryd.prog "loop.example/g01321/impl.errNoHeap" = some #[.iface 69 (.pointer (some a))] ∧ Sent W a := by
  rw [MakeChecks.laidMetH_plain _ _ _ (by kernel_rfl)] at h
  exact sent_of h

set_option maxRecDepth 100000 in
theorem lifted (os : Os) (started : os.Started) (H : Type) (enc : TypeId × Value → H) :
    ReturnsInHanded {} Tryd.checked os 5 .any (fun w args => (Rows.fnExactStateOfHeapSpec.pre enc Tryd.prog Tryd.f5 [] false w args ∧ laidMetH Tryd.prog Rows.fnExactStateOfHeapRow.laid w) ∧ sizedMet enc Tryd.prog Tryd.f5 (OpenSpec.ofChange Rows.fnExactStateOfHeapSpec) false w args)
      (Rows.fnExactStateOfHeapSpec.post enc Tryd.prog Tryd.f5 false true false false) := by
  refine returnsInHanded_of_change_and (C := Tryd.checked) (X := fun w _ => laidMetH Tryd.prog Rows.fnExactStateOfHeapRow.laid w) (fun _ _ _ hh h => h.of_heap hh) own started (by kernel_rfl) Tryd.func5
    (ChangeSpec.witness_shaped (enc := enc) (C := Tryd.checked) (os := os) (X := fun w _ => laidMetH Tryd.prog Rows.fnExactStateOfHeapRow.laid w) false (World.doorLaid Tryd.prog 28 os) #[.agg #[.slice none 0 0]] 8 rfl (World.shaped_of_RefB (by kernel_rfl) (by kernel_rfl)) (by kernel_rfl) (by kernel_rfl) (by kernel_rfl) (door_met os _)) ?_
  intro W base args ds gs before hval0 hW _ _ hL _
  have hval : ∀ (j : Nat) t v, Tryd.f5.params[j]? = some t → args[j]? = some v → Value.okWide Tryd.prog W .any base t v := hval0
  have hW' := hW
  obtain ⟨p, q, hA0, hV0, rfl, hfz, hnd⟩ := hW
  have hA : DataW.TrodAll enc Tryd.prog W 0 (fun _ => true) true Tryd.f5.params.toList args.toList ds p := hA0
  have hV : DataW.TrodVars enc Tryd.prog W (fun _ => true) ["loop.example/g01321/impl.errNoHeap"] gs q := hV0
  rw [Tryd.params5] at hA hval
  obtain ⟨v0, vs0, d0, ds0, p0, q0, hargs, rfl, rfl, h0, r0⟩ := trodAll_cons hA
  obtain ⟨rfl, rfl, rfl⟩ := trodAll_nil r0
  obtain rfl : args = #[v0] := by cases args; simp_all
  obtain ⟨ea, hv, hS⟩ := sent_of_laid hL
  obtain ⟨rfl, rfl⟩ := hV.unique (err_reads enc hv _)
  have lt0 : ∀ x ∈ p0, x.block < W.heap.size := by obtain ⟨m, hm⟩ := h0; exact DataW.trod_lt m _ _ _ hm
  have k0 := h0
  obtain ⟨A0, n0, c0, rs0, rfl, hAI0⟩ := open_heap (hval 0 24 v0 rfl rfl) h0
  clear hA0 hV0 hval0
  refine (walk A0 n0 c0 rs0 ea W hAI0 hS).mono fun e W' ⟨he, bel⟩ => ?_
  subst he
  exact ⟨_, rfl, _, _, _, [], _, [.cell 0 0], hW', trodAll_mk1 (shut_bool Tryd.underlying4 _), (trodAll_cons_mk (Below.trod laidOut (by kernel_rfl) (of_decide_eq_true (by kernel_rfl)) k0 bel lt0) trodAll_mk0), err_reads enc (var_stays gErr hv bel (Nat.le_refl _)) _, bel.frame _, fun h => by cases h⟩

theorem over : Rows.fnExactStateOfHeapRow.holds Tryd.pinned (OpenSpec.ofChange Rows.fnExactStateOfHeapSpec) :=
  OpenClaim.holds_of_wide 5 Tryd.f5 rfl rfl rfl rfl rfl rfl rfl ⟨rfl, rfl, rfl, rfl, rfl⟩ rfl rfl rfl rfl rfl (by kernel_rfl) Tryd.func5 (by kernel_rfl)
    (of_decide_eq_true (by kernel_rfl)) (by unfold Func.isWrapper; first | (rw [if_pos (by decide +kernel)]; kernel_rfl) | (rw [if_neg (by decide +kernel)]; exact ⟨rfl, rfl⟩))
    (fun os started H enc _ => lifted os started H enc)

theorem proved : Rows.FnExactStateOfHeapCardSaid :=
  Claim7.holds_tied_plain_at .later [] [.sentinel] true _ _
    over (fun _ h => by cases h) (by kernel_rfl) (fun _ h => by cases h) fnExactStateOfHeap_row_tie rfl ⟨rfl, rfl⟩ (by kernel_rfl) rfl
    (fun f fn hf hfn => by
      obtain rfl : f = 5 := Option.some.inj ((show Tryd.prog.funcNamed "loop.example/g01321/laws.FnExactStateOfHeap" = some 5 by kernel_rfl).symm.trans hf) |>.symm
      obtain rfl : fn = Tryd.f5 := (Option.some.inj (Tryd.func5.symm.trans hfn)).symm
      exact ⟨by kernel_rfl, fun j t ht => by
        rw [Tryd.params5] at ht
        have hm : t ∈ [24] := by simpa using Array.mem_of_getElem? ht
        have hall : ([24].all fun u => !Tryd.prog.wantsStandIn u) = true := by kernel_rfl
        exact (show Tryd.prog.wantsStandIn t = false by simpa using List.all_eq_true.1 hall t hm)⟩)
    (by kernel_rfl)
#print axioms proved
end Go.Proofs.YtdifolaobgclgaaDoor.fnExactStateOfHeap
