/- 'HeapOf' of the program answers at every argument as the specification's model, leaves its argument as it was, and its answer is its own memory. Conditions: none. -/
import Derived.Test.YtdifolaobgclgaaOpen
import Derived.Test.YtdifolaobgclgaaOpenState
import Derived.Test.YtdifolaobgclgaaSSc
import Derived.Test.YtdifolaobgclgaaHpC
import Derived.Test.YtdifolaobgclgaaHpK
import Derived.Test.YtdifolaobgclgaaHpOf2
import Derived.Deep.RegionHeld3
namespace Go.Proofs.Ytdifolaobgclgaa.fnExactHeapOf
open Go.ChangeShapes Go.WideShapes Go.ChangeAt Go.RowKit Go.Joins
open Go.ChangeMaps (open_string)
set_option linter.unusedVariables false

theorem szI_no {n : Nat} (h : ¬ n ≤ 1048576) : szI n 1048576 = -1 := by unfold szI; omega
theorem szI_yes {n : Nat} (h : n ≤ 1048576) : 0 ≤ szI n 1048576 := by unfold szI; omega

set_option maxRecDepth 100000 in
set_option maxHeartbeats 8000000 in
theorem core (p : Int) (A : Option Addr) (n c : Nat) (L : List Int) (E : Int) (LL : List (List Int)) (w : World) (hsm : (LL.map List.length).sum + LL.length ≤ 1048576) (hL : L.length = n) (hn : n ≤ 1048576) (hI : Ints w A L)
    (hspec : ∀ g W, Ints W (some ⟨g, 0, none⟩) L → Calls Try.prog 6 #[.agg #[.int .i64 p, .slice (some ⟨g, 0, none⟩) n n]] W (RetHeap W LL E))
    (himpl : ∀ g W, Ints W (some ⟨g, 0, none⟩) L → Calls Try.prog 8 #[.agg #[.int .i64 p, .slice (some ⟨g, 0, none⟩) n n]] W (RetHeap W LL E)) :
    Calls Try.prog 3 #[.agg #[.int .i64 p, .slice A n c]] w fun e w' => e = .returned (.bool true) ∧ Below w.heap.size w w' := by
  have HS := Lib.hid hspec
  have HP := Lib.hid himpl
  have HL := Lib.hid hL
  have X0 := Lib.hid (Box.new w 24 #[.int .i64 p, .slice A n c])
  have HB0 := Lib.hid ((Below.refl w.heap.size w).alloc (Nat.le_refl _) (.cells #[.int .i64 p, .slice A n c] 24))
  have h0 := szI_yes hn
  clear hspec himpl hL
  go_enter Try.func3, Try.ntmps3
  go_wp2_with fail
  refine (szState_calls A n c p 1048576 _ (by omega) (by omega) (by omega)).mono ?_
  rintro e w1 ⟨rfl, hb⟩
  have X1 := Lib.hid (X0.out.below hb X0.out.lt)
  have HB1 := Lib.hid (HB0.out.trans ((hb).mono HB0.out.size))
  clear X0 HB0
  clear hb
  have hI1 := Lib.hid (hI.below HB1.out)
  obtain ⟨s0, s1, _, _⟩ := X1.out.two
  go_wp2_with fail
  refine (toState_calls A n c p L _ HL.out hn hI1.out).mono ?_
  rintro e w2 ⟨g2, rfl, hg2, hr2, hb⟩
  have X2 := Lib.hid (X1.out.below hb X1.out.lt)
  have HB2 := Lib.hid (HB1.out.trans ((hb).mono HB1.out.size))
  clear X1 HB1
  have hI2 := Lib.hid hr2.ints
  clear hb hg2 hr2 s0 s1
  go_wp2_with fail
  refine (HS.out g2 _ hI2.out).mono ?_
  rintro e w3 ⟨A0, n0, c0, rs0, rfl, hO, hL0, hb⟩
  have X3 := Lib.hid (X2.out.below hb X2.out.lt)
  have HB3 := Lib.hid (HB2.out.trans ((hb).mono HB2.out.size))
  clear X2 HB2
  have hl0 := hO.len
  have ht0 := totN_LL hO
  rw [hL0] at ht0
  have hn0 : n0 ≤ 1048576 := by rw [← hl0, ← LL_len rs0, hL0]; omega
  have hr0 : Hid (∀ r ∈ rs0, r.n ≤ 1048576) := rows_small (by rw [ht0]; omega)
  have Hl0 := Lib.hid hl0
  have HL0 := Lib.hid hL0
  have G0 := Lib.hid (Box.new w3 28 #[.slice A0 n0 c0])
  have hba : Below w3.heap.size w3 (w3.alloc (.cells #[.slice A0 n0 c0] 28)) := (Below.refl _ w3).alloc (Nat.le_refl _) (.cells #[.slice A0 n0 c0] 28)
  have OI := Lib.hid (hO.below hba).ints
  have X4 := Lib.hid (X3.out.below hba X3.out.lt)
  have HB4 := Lib.hid (HB3.out.trans ((hba).mono HB3.out.size))
  clear X3 HB3
  clear hba hO hL0 hl0 ht0 hb hI2 hI1
  have hI3 := Lib.hid (hI.below HB4.out)
  obtain ⟨s0, s1, _, _⟩ := X4.out.two
  go_wp2_with fail
  generalize hW3 : w3.alloc (.cells #[.slice A0 n0 c0] 28) = W3 at *
  clear hW3
  generalize w3.heap.size = gG at *
  have HO0 := Lib.hid (Below.refl W3.heap.size W3)
  have hsz3 := HB4.out.size
  refine (toState_calls A n c p L _ HL.out hn hI3.out).mono ?_
  rintro e w4 ⟨g5, rfl, hg5, hr5, hb⟩
  have hrow := hr5.own (B := W3.heap.size) hg5 (by rw [HL.out]; exact hn)
  rw [HL.out] at hrow
  have hg5lt := (ownG_lt hrow).2
  have X5 := Lib.hid (X4.out.below hb X4.out.lt)
  have G1 := Lib.hid (G0.out.below hb G0.out.lt)
  have HB5 := Lib.hid (HB4.out.trans ((hb).mono HB4.out.size))
  clear X4 G0 HB4
  have HO1 := Lib.hid (HO0.out.trans ((hb).mono HO0.out.size))
  clear HO0
  have V0 := Lib.hid hrow
  clear hb hr5 hrow s0 s1 hI3
  have U0 := Lib.hid (Box.new w4 31 #[.int .i64 p, .slice (some ⟨g5, 0, none⟩) n n])
  have hba : Below w4.heap.size w4 (w4.alloc (.cells #[.int .i64 p, .slice (some ⟨g5, 0, none⟩) n n] 31)) := (Below.refl _ w4).alloc (Nat.le_refl _) (.cells #[.int .i64 p, .slice (some ⟨g5, 0, none⟩) n n] 31)
  have X6 := Lib.hid (X5.out.below hba X5.out.lt)
  have G2 := Lib.hid (G1.out.below hba G1.out.lt)
  have V1 := Lib.hid (V0.out.below hba)
  have HB6 := Lib.hid (HB5.out.trans ((hba).mono HB5.out.size))
  clear X5 G1 V0 HB5
  have HO2 := Lib.hid (HO1.out.trans ((hba).mono HO1.out.size))
  clear HO1
  clear hba
  obtain ⟨u0, u1, _, _⟩ := U0.out.two
  have hsQ := HO2.out.size
  have hsW := HB6.out.size
  have hXQ := X6.out.lt
  have hGQ := G2.out.lt
  go_wp2_with fail
  have hg5Q : g5 < (w4.alloc (.cells #[.int .i64 p, .slice (some ⟨g5, 0, none⟩) n n] 31)).heap.size := by simp; omega
  generalize hW5 : w4.alloc (.cells #[.int .i64 p, .slice (some ⟨g5, 0, none⟩) n n] 31) = W5 at *
  clear hW5
  generalize w4.heap.size = g8 at *
  refine (HP.out g5 _ V1.out.ints).mono ?_
  rintro e w6 ⟨A9, n9, c9, rs9, rfl, hQ, hL9, hb⟩
  have hBF := hb.size
  have X7 := Lib.hid (X6.out.below hb X6.out.lt)
  have G3 := Lib.hid (G2.out.below hb G2.out.lt)
  have V2 := Lib.hid (V1.out.below hb)
  have U1 := Lib.hid (U0.out.below hb U0.out.lt)
  have HB7 := Lib.hid (HB6.out.trans ((hb).mono HB6.out.size))
  clear X6 G2 V1 U0 HB6
  have HO3 := Lib.hid (HO2.out.trans ((hb).mono HO2.out.size))
  clear HO2
  have hl9 := hQ.len
  have ht9 := totN_LL hQ
  rw [hL9] at ht9
  have hn9 : n9 ≤ 1048576 := by rw [← hl9, ← LL_len rs9, hL9]; omega
  have ht9b : totN rs9 ≤ 1048576 := by rw [ht9]; omega
  have hr9 : Hid (∀ r ∈ rs9, r.n ≤ 1048576) := rows_small ht9b
  have Hl9 := Lib.hid hl9
  have HL9 := Lib.hid hL9
  have Q0 := Lib.hid hQ
  have HE9 : Hid (decide (LLof rs9 = LLof rs0) = true) := by unfold Hid; rw [HL9.out, HL0.out]; simp
  clear hb hQ hl9 hL9 ht9 u0 u1
  have F0 := Lib.hid (Box.new w6 28 #[.slice A9 n9 c9])
  have hba : Below w6.heap.size w6 (w6.alloc (.cells #[.slice A9 n9 c9] 28)) := (Below.refl _ w6).alloc (Nat.le_refl _) (.cells #[.slice A9 n9 c9] 28)
  have X8 := Lib.hid (X7.out.below hba X7.out.lt)
  have G4 := Lib.hid (G3.out.below hba G3.out.lt)
  have V3 := Lib.hid (V2.out.below hba)
  have U2 := Lib.hid (U1.out.below hba U1.out.lt)
  have Q1 := Lib.hid (Q0.out.below hba)
  have HB8 := Lib.hid (HB7.out.trans ((hba).mono HB7.out.size))
  clear X7 G3 V2 U1 Q0 HB7
  have HO4 := Lib.hid (HO3.out.trans ((hba).mono HO3.out.size))
  clear HO3
  clear hba
  have hOI := Lib.hid (OI.out.below HO4.out)
  obtain ⟨f0, _⟩ := F0.out.one
  obtain ⟨k0, _⟩ := G4.out.one
  go_wp2_with fail
  generalize hW6 : w6.alloc (.cells #[.slice A9 n9 c9] 28) = W6 at *
  clear hW6
  generalize w6.heap.size = gF at *
  refine (eqHeap_calls A9 A0 n9 c9 n0 c0 rs9 rs0 _ Hl9.out Hl0.out hn9 hn0 hr9.out hr0.out Q1.out.ints hOI.out).mono ?_
  rintro e w7 ⟨rfl, hb⟩
  rw [HE9.out]
  clear hOI f0 k0
  have X9 := Lib.hid (X8.out.below hb X8.out.lt)
  have G5 := Lib.hid (G4.out.below hb G4.out.lt)
  have V4 := Lib.hid (V3.out.below hb)
  have U3 := Lib.hid (U2.out.below hb U2.out.lt)
  have Q2 := Lib.hid (Q1.out.below hb)
  have F1 := Lib.hid (F0.out.below hb F0.out.lt)
  have HB9 := Lib.hid (HB8.out.trans ((hb).mono HB8.out.size))
  clear X8 G4 V3 U2 Q1 F0 HB8
  have HO5 := Lib.hid (HO4.out.trans ((hb).mono HO4.out.size))
  clear HO4
  clear hb
  have hI7 := Lib.hid (hI.below HB9.out)
  have U7 := U3
  have X7 := X9
  have V7 := V4
  obtain ⟨u0, u1, s0, s1⟩ := cells22 U7.out X7.out
  have zu := U7.out.lt
  have zx := X7.out.lt
  go_wp2_with fail
  go_region_held3 (fun w' => w'.cell? ⟨g8, 0, none⟩ = some (.int .i64 p) ∧ w'.cell? ⟨g8, 1, none⟩ = some (.slice (some ⟨g5, 0, none⟩) n n) ∧ w'.cell? ⟨w.heap.size, 0, none⟩ = some (.int .i64 p) ∧ w'.cell? ⟨w.heap.size, 1, none⟩ = some (.slice A n c))
    (first | exact cells22 U7.out X7.out | exact cells22 U8.out X8.out | exact cells22 U9.out X9.out | go_keep)
    (first
    | (go_at_call 7; refine (toState_calls A n c p L _ HL.out hn ?_).mono ?_; (exact hI7.out); rintro e w8 ⟨gr, rfl, hgr, hr8, hb8⟩; have U8 := Lib.hid (Box.below U7.out (undrew hb8) zu); have X8 := Lib.hid (Box.below X7.out (undrew hb8) zx))
    | (go_at_call 10; refine (eqState_calls (some ⟨g5, 0, none⟩) (some ⟨gr, 0, none⟩) n n n n p p L L _ HL.out HL.out hn hn ?_ ?_).mono ?_; (exact V7.out.ints.below (undrew hb8)); (exact hr8.ints); rintro e w9 ⟨rfl, hb9⟩; have U9 := Lib.hid (Box.below U8.out hb9 (Box.lt U8.out)); have X9 := Lib.hid (Box.below X8.out hb9 (Box.lt X8.out))))
  clear U8 X8 U9 X9 u0 u1 s0 s1 zu zx hr8 hgr U7 X7 V7
  have X10 := Lib.hid (X9.out.below (undrew hb8) X9.out.lt)
  have G6 := Lib.hid (G5.out.below (undrew hb8) G5.out.lt)
  have V5 := Lib.hid (V4.out.below (undrew hb8))
  have U4 := Lib.hid (U3.out.below (undrew hb8) U3.out.lt)
  have Q3 := Lib.hid (Q2.out.below (undrew hb8))
  have F2 := Lib.hid (F1.out.below (undrew hb8) F1.out.lt)
  have HB10 := Lib.hid (HB9.out.trans (((undrew hb8)).mono HB9.out.size))
  clear X9 G5 V4 U3 Q2 F1 HB9
  have HO6 := Lib.hid (HO5.out.trans (((undrew hb8)).mono HO5.out.size))
  clear HO5
  have X11 := Lib.hid (X10.out.below hb9 X10.out.lt)
  have G7 := Lib.hid (G6.out.below hb9 G6.out.lt)
  have V6 := Lib.hid (V5.out.below hb9)
  have U5 := Lib.hid (U4.out.below hb9 U4.out.lt)
  have Q4 := Lib.hid (Q3.out.below hb9)
  have F3 := Lib.hid (F2.out.below hb9 F2.out.lt)
  have HB11 := Lib.hid (HB10.out.trans ((hb9).mono HB10.out.size))
  clear X10 G6 V5 U4 Q3 F2 HB10
  have HO7 := Lib.hid (HO6.out.trans ((hb9).mono HO6.out.size))
  clear HO6
  clear hb8 hb9 hI7
  obtain ⟨u0, u1, _, _⟩ := U5.out.two
  go_wp2_with fail
  refine (markState_calls _ (some ⟨g5, 0, none⟩) n n p L 1 _ V6.out hn (by omega) (by omega)).mono ?_
  rintro e w10 ⟨rfl, hO, hg⟩
  clear u0 u1
  have Q5 := Lib.hid (OwnSS.keptBelow Q4.out hg (fun g hgg => by have h1 := block_of_own V6.out hgg; injection h1 with h1; injection h1 with h1; omega))
  have X12 := Lib.hid (X11.out.grown hg (V6.out.box_ne X11.out (by decide)))
  have G8 := Lib.hid (G7.out.grown hg (V6.out.box_ne G7.out (by decide)))
  have F4 := Lib.hid (F3.out.grown hg (V6.out.box_ne F3.out (by decide)))
  have HB12 := Lib.hid (HB11.out.grown hg HB11.out.size (fun k hk => by have h1 := own_bk V6.out k hk; omega))
  have HO8 := Lib.hid (HO7.out.grown hg HO7.out.size (fun k hk => own_bk V6.out k hk))
  clear Q4 X11 G7 F3 HB11 HO7 V6 U5 hO hg
  have hOI := Lib.hid (OI.out.below HO8.out)
  obtain ⟨f0, _⟩ := F4.out.one
  obtain ⟨k0, _⟩ := G8.out.one
  go_wp2_with fail
  refine (eqHeap_calls A9 A0 n9 c9 n0 c0 rs9 rs0 _ Hl9.out Hl0.out hn9 hn0 hr9.out hr0.out Q5.out.ints hOI.out).mono ?_
  rintro e w7 ⟨rfl, hb⟩
  rw [HE9.out]
  clear hOI f0 k0
  have X13 := Lib.hid (X12.out.below hb X12.out.lt)
  have G9 := Lib.hid (G8.out.below hb G8.out.lt)
  have Q6 := Lib.hid (Q5.out.below hb)
  have F5 := Lib.hid (F4.out.below hb F4.out.lt)
  have HB13 := Lib.hid (HB12.out.trans ((hb).mono HB12.out.size))
  clear X12 G8 Q5 F4 HB12
  have HO9 := Lib.hid (HO8.out.trans ((hb).mono HO8.out.size))
  clear HO8
  clear hb
  have zf := F5.out.lt
  obtain ⟨f0, _⟩ := F5.out.one
  go_wp2_with fail
  refine (markHeap_kept _ A9 n9 c9 rs9 1 _ Q6.out (by omega) hn9 ht9b (by omega) (by omega)).mono ?_
  rintro e w12 ⟨rfl, hO, hg, hkp⟩
  clear f0
  have F6 := Lib.hid (F5.out.of_block (hkp.2 gF zf (fun r hr hA => by have h1 := Q6.out.2.1 r hr; rw [hA] at h1; exact absurd rfl (h1.ne_box F5.out (by decide)))))
  have Q7 := Lib.hid hO
  have X14 := Lib.hid (X13.out.below hg hXQ)
  have G10 := Lib.hid (G9.out.below hg hGQ)
  have HB14 := Lib.hid (HB13.out.trans (hg.mono hsW))
  have HO10 := Lib.hid (HO9.out.trans (hg.mono hsQ))
  clear Q6 X13 G9 F5 HB13 HO9 hO hg hkp zf
  obtain ⟨f0, _⟩ := F6.out.one
  go_wp2_with fail
  refine (heldHeap_calls A9 n9 c9 rs9 1 _ Hl9.out Q7.out.ints hn9 ht9b (by omega) (by omega)).mono ?_
  rintro e w13 ⟨rfl, hb⟩
  clear f0
  have X15 := Lib.hid (X14.out.below hb X14.out.lt)
  have G11 := Lib.hid (G10.out.below hb G10.out.lt)
  have Q8 := Lib.hid (Q7.out.below hb)
  have F7 := Lib.hid (F6.out.below hb F6.out.lt)
  have HB15 := Lib.hid (HB14.out.trans ((hb).mono HB14.out.size))
  clear X14 G10 Q7 F6 HB14
  have HO11 := Lib.hid (HO10.out.trans ((hb).mono HO10.out.size))
  clear HO10
  clear hb
  have hI13 := Lib.hid (hI.below HB15.out)
  obtain ⟨s0, s1, _, _⟩ := X15.out.two
  go_wp2_with fail
  refine (toState_calls A n c p L _ HL.out hn hI13.out).mono ?_
  rintro e w14 ⟨g14, rfl, hg14, hr14, hb⟩
  have G12 := Lib.hid (G11.out.below hb G11.out.lt)
  have Q9 := Lib.hid (Q8.out.below hb)
  have F8 := Lib.hid (F7.out.below hb F7.out.lt)
  have HB16 := Lib.hid (HB15.out.trans ((hb).mono HB15.out.size))
  clear X15 G11 Q8 F7 HB15
  have HO12 := Lib.hid (HO11.out.trans ((hb).mono HO11.out.size))
  clear HO11
  have hI14 := Lib.hid hr14.ints
  clear hb hg14 hr14 s0 s1 hI13
  go_wp2_with fail
  refine (HP.out g14 _ hI14.out).mono ?_
  rintro e w15 ⟨A14, n14, c14, rs14, rfl, hK, hL14, hb⟩
  have G13 := Lib.hid (G12.out.below hb G12.out.lt)
  have Q10 := Lib.hid (Q9.out.below hb)
  have F9 := Lib.hid (F8.out.below hb F8.out.lt)
  have HB17 := Lib.hid (HB16.out.trans ((hb).mono HB16.out.size))
  clear G12 Q9 F8 HB16
  have HO13 := Lib.hid (HO12.out.trans ((hb).mono HO12.out.size))
  clear HO12
  have hl14 := hK.len
  have ht14 := totN_LL hK
  rw [hL14] at ht14
  have hn14 : n14 ≤ 1048576 := by rw [← hl14, ← LL_len rs14, hL14]; omega
  have hr14' : Hid (∀ r ∈ rs14, r.n ≤ 1048576) := rows_small (by rw [ht14]; omega)
  have Hl14 := Lib.hid hl14
  have HE14 : Hid (decide (LLof rs14 = LLof rs0) = true) := by unfold Hid; rw [hL14, HL0.out]; simp
  have K0 := Lib.hid (Box.new w15 28 #[.slice A14 n14 c14])
  have hba : Below w15.heap.size w15 (w15.alloc (.cells #[.slice A14 n14 c14] 28)) := (Below.refl _ w15).alloc (Nat.le_refl _) (.cells #[.slice A14 n14 c14] 28)
  have KI := Lib.hid (hK.below hba).ints
  have G14 := Lib.hid (G13.out.below hba G13.out.lt)
  have Q11 := Lib.hid (Q10.out.below hba)
  have F10 := Lib.hid (F9.out.below hba F9.out.lt)
  have HB18 := Lib.hid (HB17.out.trans ((hba).mono HB17.out.size))
  clear G13 Q10 F9 HB17
  have HO14 := Lib.hid (HO13.out.trans ((hba).mono HO13.out.size))
  clear HO13
  clear hK hb hba hI14 hl14 hL14 ht14
  have hOI := Lib.hid (OI.out.below HO14.out)
  obtain ⟨f0, _⟩ := K0.out.one
  obtain ⟨k0, _⟩ := G14.out.one
  go_wp2_with fail
  generalize hW15 : w15.alloc (.cells #[.slice A14 n14 c14] 28) = W15 at *
  clear hW15
  generalize w15.heap.size = gK at *
  refine (eqHeap_calls A14 A0 n14 c14 n0 c0 rs14 rs0 _ Hl14.out Hl0.out hn14 hn0 hr14'.out hr0.out KI.out hOI.out).mono ?_
  rintro e w7 ⟨rfl, hb⟩
  rw [HE14.out]
  clear hOI f0 k0
  have G15 := Lib.hid (G14.out.below hb G14.out.lt)
  have Q12 := Lib.hid (Q11.out.below hb)
  have F11 := Lib.hid (F10.out.below hb F10.out.lt)
  have K1 := Lib.hid (K0.out.below hb K0.out.lt)
  have HB19 := Lib.hid (HB18.out.trans ((hb).mono HB18.out.size))
  clear G14 Q11 F10 K0 HB18
  have HO15 := Lib.hid (HO14.out.trans ((hb).mono HO14.out.size))
  clear HO14
  clear hb
  clear KI
  obtain ⟨f0, _⟩ := F11.out.one
  go_wp2_with fail
  refine (heldHeap_calls A9 n9 c9 rs9 1 _ Hl9.out Q12.out.ints hn9 ht9b (by omega) (by omega)).mono ?_
  rintro e w13 ⟨rfl, hb⟩
  clear f0
  have G16 := Lib.hid (G15.out.below hb G15.out.lt)
  have Q13 := Lib.hid (Q12.out.below hb)
  have F12 := Lib.hid (F11.out.below hb F11.out.lt)
  have K2 := Lib.hid (K1.out.below hb K1.out.lt)
  have HB20 := Lib.hid (HB19.out.trans ((hb).mono HB19.out.size))
  clear G15 Q12 F11 K1 HB19
  have HO16 := Lib.hid (HO15.out.trans ((hb).mono HO15.out.size))
  clear HO15
  clear hb
  go_wp2
  go_ret
  exact ⟨rfl, by first | exact HB20.out | (rw [← World.drewN_drewN]; exact HB20.out)⟩

theorem walk (p : Int) (A : Option Addr) (n c : Nat) (L : List Int) (w : World) (w0 : (Lit.int .i64 p).wf = true) (hA : ArgInts w A n L) :
    Calls Try.prog 3 #[.agg #[.int .i64 p, .slice A n c]] w fun e w' => e = .returned (.bool true) ∧ Below w.heap.size w w' := by
  obtain ⟨hL, hm, hI⟩ := hA
  by_cases hn : n ≤ 1048576
  · exact core p A n c L (codeHf p L) (hofV p L) w (by exact hofV_small p L) hL hn hI (fun g W hW => specHeapOf_ret (some ⟨g, 0, none⟩) n n p L W hL hn hW) (fun g W hW => implHeapOf_ret (some ⟨g, 0, none⟩) n n p L W hL hn hW)
  · have h0 := szI_no hn
    go_enter Try.func3, Try.ntmps3
    go_wp2_with fail
    refine (szState_calls A n c p 1048576 _ hm (by omega) (by omega)).mono ?_
    rintro e w1 ⟨rfl, hb1⟩
    have HB1 := Lib.hid (((Below.refl w.heap.size w).alloc (Nat.le_refl _) _).trans (hb1.mono (by simp)))
    clear hb1
    go_wp2
    go_ret
    exact ⟨rfl, HB1.out⟩

set_option maxRecDepth 100000 in
theorem lifted (os : Os) (started : os.Started) (H : Type) (enc : TypeId × Value → H) :
    ReturnsInHanded {} Try.checked os 3 .any (Rows.fnExactHeapOfSpec.pre6 enc Try.prog Try.f3 Rows.fnExactHeapOfRow.domain false) (Rows.fnExactHeapOfSpec.post enc Try.prog Try.f3 false true false false) := by
  refine returnsInHanded_of_change (C := Try.checked) own started (by kernel_rfl) Try.func3
    (ChangeSpec.witness6 (enc := enc) (C := Try.checked) false ⟨#[], #[.agg #[.int .i64 0, .slice none 0 0]], []⟩ 8 (by kernel_rfl) (by kernel_rfl) (by kernel_rfl) (by kernel_rfl)) ?_
  intro W base args ds gs before hval0 hW hcnd _
  have hval : ∀ (j : Nat) t v, Try.f3.params[j]? = some t → args[j]? = some v → Value.okWide Try.prog W .any base t v := hval0
  have hW' := hW
  obtain ⟨p, q, hA0, hV, rfl, hfz, hnd⟩ := hW
  have hA : DataW.TrodAll enc Try.prog W 0 (fun _ => true) true Try.f3.params.toList args.toList ds p := hA0
  rw [Try.params3] at hA hval
  obtain ⟨v0, vs0, d0, ds0, p0, q0, hargs, rfl, rfl, h0, r0⟩ := trodAll_cons hA
  obtain ⟨rfl, rfl, rfl⟩ := trodAll_nil r0
  obtain rfl : args = #[v0] := by cases args; simp_all
  obtain ⟨rfl, rfl⟩ := trodVars_none hV
  have lt0 : ∀ x ∈ p0, x.block < W.heap.size := by obtain ⟨m, hm⟩ := h0; exact DataW.trod_lt m _ _ _ hm
  have k0 := h0
  obtain ⟨a0, A0, n0, c0, L0, rfl, w0, hAI0⟩ := open_state (hval 0 24 v0 rfl rfl) h0
  clear hA0 hval0
  refine (walk a0 A0 n0 c0 L0 W w0 hAI0).mono fun e W' ⟨he, bel⟩ => ?_
  subst he
  exact ⟨_, rfl, _, _, _, [], _, [], hW', trodAll_mk1 (shut_bool Try.underlying4 _), (trodAll_cons_mk (Below.trod laidOut (by kernel_rfl) (of_decide_eq_true (by kernel_rfl)) k0 bel lt0) trodAll_mk0), rfl, bel.frame _, fun h => by cases h⟩

theorem over : Rows.fnExactHeapOfRow.holds Try.pinned (OpenSpec.ofChange Rows.fnExactHeapOfSpec) :=
  OpenClaim.holds_of_wide 3 Try.f3 rfl rfl rfl rfl rfl rfl rfl ⟨rfl, rfl, rfl, rfl, rfl⟩ rfl rfl rfl rfl rfl (by kernel_rfl) Try.func3 (by kernel_rfl)
    (of_decide_eq_true (by kernel_rfl)) (by unfold Func.isWrapper; first | (rw [if_pos (by decide +kernel)]; kernel_rfl) | (rw [if_neg (by decide +kernel)]; exact ⟨rfl, rfl⟩))
    (fun os started H enc _ => lifted os started H enc)

theorem proved : Rows.FnExactHeapOfSaid := over
#print axioms proved
end Go.Proofs.Ytdifolaobgclgaa.fnExactHeapOf
