/- 'HeapMoves' of the program answers at every argument as the specification's model, leaves its argument as it was, and its answer is its own memory. The package variable errNoHeap is as its own initialiser lays it (a tied card). Conditions: none. -/
import Derived.Test.YtnacajakjpmjnaaDoorOpen
import Derived.Test.YtnacajakjpmjnaaDoorHpSpec
import Derived.Test.YtnacajakjpmjnaaDoorHpMv
import Derived.Test.YtnacajakjpmjnaaDoorHpK
import Derived.Deep.RegionHeld3
import Derived.Test.YtnacajakjpmjnaaDoorHpDoor
import Derived.Test.YtnacajakjpmjnaaDoorOpenHeap
import Derived.Test.YtnacajakjpmjnaaDoorCards
import Derived.Test.YtnacajakjpmjnaaDoorTie
import Derived.SevenTiedAt
import Derived.LaidMore
import Derived.Stop.Joined
namespace Go.Proofs.YtnacajakjpmjnaaDoor.fnExactHeapMoves
open Go.ChangeShapes Go.WideShapes Go.ChangeAt Go.RowKit Go.Joins
open Go.ChangeMaps (open_string)
set_option linter.unusedVariables false

theorem szI_no {n : Nat} (h : ¬ n ≤ 1048576) : szI n 1048576 = -1 := by unfold szI; omega
theorem szI_yes {n : Nat} (h : n ≤ 1048576) : 0 ≤ szI n 1048576 := by unfold szI; omega

set_option maxRecDepth 100000 in
set_option maxHeartbeats 16000000 in
theorem core (A : Option Addr) (n c : Nat) (rs : List Rw) (LL : List (List Int)) (E : Int) (LS : List Mv) (nn : Nat) (hnn : nn ≤ 1048576) (hLS : LS.length = nn) (ea : Addr) (w : World) (hLL : LLof rs = LL) (hA : ArgSS w A n rs) (hn : n + totN rs ≤ 1048576) (hS : Sent w ea)
    (hspec : ∀ (A : Option Addr) (n c : Nat) (rs : List Rw) (W : World), rs.length = n → LLof rs = LL → totN rs ≤ 1048576 → IntsSS W A rs → n ≤ 1048576 → Calls Tryd.prog 6 #[.agg #[.slice A n c]] W (RetMvs W nn LS E))
    (himpl : ∀ (A : Option Addr) (n c : Nat) (rs : List Rw) (W : World), rs.length = n → LLof rs = LL → totN rs ≤ 1048576 → IntsSS W A rs → Sent W ea → n ≤ 1048576 → Calls Tryd.prog 8 #[.agg #[.slice A n c]] W (RetMvs W nn LS E)) :
    Calls Tryd.prog 3 #[.agg #[.slice A n c]] w fun e w' => e = .returned (.bool true) ∧ Below w.heap.size w w' := by
  have hI := hA.2.2.2
  have HL := Lib.hid hA.1
  have hn1 : n ≤ 1048576 := by omega
  have HS : Hid (∀ (A : Option Addr) (n c : Nat) (rs : List Rw) (W : World), rs.length = n → LLof rs = LL → totN rs ≤ 1048576 → IntsSS W A rs → n ≤ 1048576 → Calls Tryd.prog 6 #[.agg #[.slice A n c]] W (RetMvs W nn LS E)) := hspec
  have HP := Lib.hid himpl
  have HLS := Lib.hid hLS
  have Htot := Lib.hid (And.intro (cnt_tot hI) (show totN rs ≤ 1048576 by omega))
  have Hb : Hid (∀ r ∈ rs, r.n ≤ 1048576) := rows_small (by omega)
  have HLL := Lib.hid hLL
  have h0 := szI_yes hn
  have X0 := Lib.hid (Box.new w 24 #[.slice A n c])
  have HB0 := Lib.hid ((Below.refl w.heap.size w).alloc (Nat.le_refl _) (.cells #[.slice A n c] 24))
  clear hLL hLS hspec himpl
  go_enter Tryd.func3, Tryd.ntmps3
  obtain ⟨xy0, _⟩ := X0.out.one
  go_wp2_with fail
  refine (szHeap_calls A n c rs 1048576 _ (hA.below HB0.out) (by omega) (by omega)).mono ?_
  rintro e w1 ⟨rfl, hb⟩
  clear xy0
  have X1 := Lib.hid (X0.out.below hb X0.out.lt)
  have HB1 := Lib.hid (HB0.out.trans ((hb).mono HB0.out.size))
  clear X0 HB0
  clear hb
  have hIx := Lib.hid (hI.below HB1.out)
  obtain ⟨xy0, _⟩ := X1.out.one
  go_wp2_with fail
  refine (toHeap_calls A n c rs _ HL.out hn1 Hb.out hIx.out).mono ?_
  rintro e w2 ⟨g2, r2, rfl, hg, hO, hLL, hb⟩
  clear xy0
  clear hIx
  have X2 := Lib.hid (X1.out.below hb X1.out.lt)
  have HB2 := Lib.hid (HB1.out.trans ((hb).mono HB1.out.size))
  clear X1 HB1
  have J0 := Lib.hid hO
  have T0 := Lib.hid hLL
  clear hb hO hLL hg
  go_wp2_with fail
  refine (HS.out (some ⟨g2, 0, none⟩) n n r2 _ J0.out.len (T0.out.trans HLL.out) (tot_eq T0.out J0.out Htot.out) J0.out.ints hn1).mono ?_
  rintro e w3 ⟨A0, c0, rfl, hO, hb⟩
  have X3 := Lib.hid (X2.out.below hb X2.out.lt)
  have HB3 := Lib.hid (HB2.out.trans ((hb).mono HB2.out.size))
  clear X2 J0 HB2
  have O0 := Lib.hid hO
  clear hb hO T0
  have hIx := Lib.hid (hI.below HB3.out)
  obtain ⟨xy0, _⟩ := X3.out.one
  go_wp2_with fail
  refine (toHeap_calls A n c rs _ HL.out hn1 Hb.out hIx.out).mono ?_
  rintro e w4 ⟨g5, r5, rfl, hg, hO, hLL, hb⟩
  clear xy0
  clear hIx
  have HOb := Lib.hid (OwnG.blk O0.out)
  skip
  have HXb := X3.out.lt
  have HBb := HB3.out.size
  have X4 := Lib.hid (X3.out.below hb X3.out.lt)
  have O1 := Lib.hid (O0.out.below hb)
  have HB4 := Lib.hid (HB3.out.trans ((hb).mono HB3.out.size))
  clear X3 O0 HB3
  have V0 := Lib.hid hO
  have T5 := Lib.hid hLL
  have HVo := Lib.hid hO.old
  clear hb hO hLL hg
  have hVs : ∃ C, w4.heap.size = C := ⟨_, rfl⟩
  obtain ⟨C, hC⟩ := hVs
  rw [hC] at HVo
  have HCe := Lib.hid hC
  clear hC
  have hX := Box.new w4 29 #[.slice (some ⟨g5, 0, none⟩) n n]
  have hba : Below w4.heap.size w4 (World.alloc w4 (.cells #[.slice (some ⟨g5, 0, none⟩) n n] 29)) := (Below.refl _ w4).alloc (Nat.le_refl _) _
  have X5 := Lib.hid (X4.out.below hba X4.out.lt)
  have O2 := Lib.hid (O1.out.below hba)
  have V1 := Lib.hid (V0.out.below hba)
  have HB5 := Lib.hid (HB4.out.trans ((hba).mono HB4.out.size))
  clear X4 O1 V0 HB4
  have U0 := Lib.hid hX
  clear hX hba
  obtain ⟨uy0, _⟩ := U0.out.one
  go_wp2_with fail
  generalize hWW : World.alloc w4 (.cells #[.slice (some ⟨g5, 0, none⟩) n n] 29) = WU at *
  clear hWW
  generalize w4.heap.size = bU at *
  have HCs : Hid (C ≤ bU) := by unfold Hid; rw [HCe.out]; exact Nat.le_refl _
  clear HCe
  have HUl := U0.out.lt
  refine (HP.out (some ⟨g5, 0, none⟩) n n r5 _ V1.out.len (T5.out.trans HLL.out) (tot_eq T5.out V1.out Htot.out) V1.out.ints (hS.below HB5.out) hn1).mono ?_
  rintro e w6 ⟨A9, c9, rfl, hQ, hb⟩
  clear uy0
  have BQ := HB5.out.size
  have AZ := Lib.hid (ows_apart O2.out hQ (Nat.le_refl _))
  have HQb := Lib.hid (OwnG.blk hQ)
  have HYc := Lib.hid (show C ≤ w6.heap.size by have := hb.size; have := HCs.out; omega)
  have X6 := Lib.hid (X5.out.below hb X5.out.lt)
  have O3 := Lib.hid (O2.out.below hb)
  have V2 := Lib.hid (V1.out.below hb)
  have U1 := Lib.hid (U0.out.below hb U0.out.lt)
  have HB6 := Lib.hid (HB5.out.trans ((hb).mono HB5.out.size))
  clear X5 O2 V1 U0 HB5
  have Q0 := Lib.hid hQ
  clear hb hQ
  go_wp2_with fail
  refine (eqMoveS_calls A9 A0 nn c9 nn c0 LS LS _ HLS.out HLS.out hnn hnn (OwnM.mvs Q0.out) (OwnM.mvs O3.out)).mono ?_
  rintro e w7 ⟨rfl, hb⟩
  have X7 := Lib.hid (X6.out.below hb X6.out.lt)
  have O4 := Lib.hid (O3.out.below hb)
  have V3 := Lib.hid (V2.out.below hb)
  have U2 := Lib.hid (U1.out.below hb U1.out.lt)
  have Q1 := Lib.hid (Q0.out.below hb)
  have HB7 := Lib.hid (HB6.out.trans ((hb).mono HB6.out.size))
  clear X6 O3 V2 U1 Q0 HB6
  clear hb
  have hI7 := Lib.hid (hI.below HB7.out)
  have U7 := U2
  have X7 := X7
  have V7 := V3
  obtain ⟨u0, _⟩ := U7.out.one
  obtain ⟨s0, _⟩ := X7.out.one
  have zu := U7.out.lt
  have zx := X7.out.lt
  go_wp2_with fail
  go_region_held3 (fun w' => w'.cell? ⟨bU, 0, none⟩ = some (.slice (some ⟨g5, 0, none⟩) n n) ∧ w'.cell? ⟨w.heap.size, 0, none⟩ = some (.slice A n c))
    (first | exact ⟨U7.out.one.1, X7.out.one.1⟩ | exact ⟨U8.out.one.1, X8.out.one.1⟩ | exact ⟨U9.out.one.1, X9.out.one.1⟩ | go_keep)
    (first
    | (go_at_call 7; refine (toHeap_calls A n c rs _ HL.out hn1 Hb.out ?_).mono ?_; (exact hI7.out); rintro e w8 ⟨gr, r8, rfl, hgr, hr8, hl8, hb8⟩; have U8 := Lib.hid (Box.below U7.out (undrew hb8) zu); have X8 := Lib.hid (Box.below X7.out (undrew hb8) zx))
    | (go_at_call 10; refine (eqHeap_calls (some ⟨g5, 0, none⟩) (some ⟨gr, 0, none⟩) n n n n r5 r8 _ ?_ ?_ hn1 hn1 ?_ ?_ ?_ ?_).mono ?_; (exact V7.out.len); (exact hr8.len); (exact rows_small (tot_eq T5.out V7.out Htot.out)); (exact rows_small (tot_eq hl8 hr8 Htot.out)); (exact V7.out.ints.below (undrew hb8)); (exact hr8.ints); rintro e w9 ⟨rfl, hb9⟩; have U9 := Lib.hid (Box.below U8.out hb9 (Box.lt U8.out)); have X9 := Lib.hid (Box.below X8.out hb9 (Box.lt X8.out))))
  have HE : Hid (decide (LLof r5 = LLof rs) = true) := by unfold Hid; rw [T5.out]; simp
  have HE2 : Hid (decide (LLof r5 = LLof r8) = true) := by unfold Hid; rw [T5.out, hl8]; simp
  clear U8 X8 U9 X9 u0 s0 zu zx hr8 hgr U7 X7 V7 hl8
  first | rw [HE.out] | rw [HE2.out]
  clear HE HE2
  have X8 := Lib.hid (X7.out.below (undrew hb8) X7.out.lt)
  have O5 := Lib.hid (O4.out.below (undrew hb8))
  have V4 := Lib.hid (V3.out.below (undrew hb8))
  have U3 := Lib.hid (U2.out.below (undrew hb8) U2.out.lt)
  have Q2 := Lib.hid (Q1.out.below (undrew hb8))
  have HB8 := Lib.hid (HB7.out.trans (((undrew hb8)).mono HB7.out.size))
  clear X7 O4 V3 U2 Q1 HB7
  have X9 := Lib.hid (X8.out.below hb9 X8.out.lt)
  have O6 := Lib.hid (O5.out.below hb9)
  have V5 := Lib.hid (V4.out.below hb9)
  have U4 := Lib.hid (U3.out.below hb9 U3.out.lt)
  have Q3 := Lib.hid (Q2.out.below hb9)
  have HB9 := Lib.hid (HB8.out.trans ((hb9).mono HB8.out.size))
  clear X8 O5 V4 U3 Q2 HB8
  clear hb8 hb9 hI7
  obtain ⟨uy0, _⟩ := U4.out.one
  go_wp2_with fail
  have hVB : ∀ g, (some ⟨g5, 0, none⟩ : Option Addr) = some ⟨g, 0, none⟩ → _ ≤ g := fun g h => (OwnG.blk V5.out.1 g h).1
  have htV : totN r5 ≤ 1048576 := tot_eq T5.out V5.out Htot.out
  refine (markHeap_kept _ (some ⟨g5, 0, none⟩) n n r5 1 _ V5.out (Nat.le_trans (hVB g5 rfl) (Nat.le_of_lt (OwnG.blk V5.out.1 g5 rfl).2)) hn1 htV (by omega) (by omega)).mono ?_
  rintro e w10 ⟨rfl, _, hbm, hkp⟩
  clear uy0
  have HVne : Hid (∀ b, C ≤ b → ∀ r ∈ r5, r.A ≠ some ⟨b, 0, none⟩) := fun b hb r hr hA => by have := HVo.out r hr b hA; omega
  have O7 := Lib.hid (OwnG.of_block O6.out (fun g hA => hbm.block g (HOb.out g hA).2))
  have X10 := Lib.hid (X9.out.below hbm HXb)
  have Q4 := Lib.hid (OwnG.of_block Q3.out (fun g hA => hkp.2 g (OwnG.blk Q3.out g hA).2 (HVne.out g (by have := (HQb.out g hA).1; have := HCs.out; omega))))
  have HB10 := Lib.hid (HB9.out.trans (hbm.mono HBb))
  clear O6 X9 Q3 HB9 V5 U4 hbm hkp hVB
  have hk1 : ¬ (1 + (totN r5 : Int)) < 0 := by omega
  go_wp2_with fail
  refine (eqMoveS_calls A9 A0 nn c9 nn c0 LS LS _ HLS.out HLS.out hnn hnn (OwnM.mvs Q4.out) (OwnM.mvs O7.out)).mono ?_
  rintro e w7 ⟨rfl, hb⟩
  have X11 := Lib.hid (X10.out.below hb X10.out.lt)
  have O8 := Lib.hid (O7.out.below hb)
  have Q5 := Lib.hid (Q4.out.below hb)
  have HB11 := Lib.hid (HB10.out.trans ((hb).mono HB10.out.size))
  clear X10 O7 Q4 HB10
  clear hb
  go_wp2_with fail
  refine (markMoveS_calls _ A9 nn c9 (mvF LS) 1 _ Q5.out hnn (by omega) (by omega)).mono ?_
  rintro e w12 ⟨rfl, hO, hg⟩
  have X12 := Lib.hid (X11.out.grown hg (Q5.out.box_ne X11.out (by decide)))
  have O9 := Lib.hid (O8.out.kept hg AZ.out)
  have Q6 := Lib.hid hO
  have HB12 := Lib.hid (HB11.out.grown hg HB11.out.size (fun k hk => by have h1 := ows_bk Q5.out k hk; omega))
  clear X11 O8 Q5 HB11 hO hg
  go_wp2_with fail
  refine (heldMoveS_calls _ A9 nn c9 1 _ Q6.out hnn (by omega) (by omega)).mono ?_
  rintro e w13 ⟨rfl, hb⟩
  have X13 := Lib.hid (X12.out.below hb X12.out.lt)
  have O10 := Lib.hid (O9.out.below hb)
  have Q7 := Lib.hid (Q6.out.below hb)
  have HB13 := Lib.hid (HB12.out.trans ((hb).mono HB12.out.size))
  clear X12 O9 Q6 HB12
  clear hb
  have hIx := Lib.hid (hI.below HB13.out)
  obtain ⟨xy0, _⟩ := X13.out.one
  go_wp2_with fail
  refine (toHeap_calls A n c rs _ HL.out hn1 Hb.out hIx.out).mono ?_
  rintro e w14 ⟨g14, r14, rfl, hg, hO, hLL, hb⟩
  clear xy0
  clear hIx
  have O11 := Lib.hid (O10.out.below hb)
  have Q8 := Lib.hid (Q7.out.below hb)
  have HB14 := Lib.hid (HB13.out.trans ((hb).mono HB13.out.size))
  clear X13 O10 Q7 HB13
  have J0 := Lib.hid hO
  have T14 := Lib.hid hLL
  clear hb hO hLL hg
  go_wp2_with fail
  refine (HP.out (some ⟨g14, 0, none⟩) n n r14 _ J0.out.len (T14.out.trans HLL.out) (tot_eq T14.out J0.out Htot.out) J0.out.ints (hS.below HB14.out) hn1).mono ?_
  rintro e w15 ⟨A14, c14, rfl, hK, hb⟩
  have O12 := Lib.hid (O11.out.below hb)
  have Q9 := Lib.hid (Q8.out.below hb)
  have HB15 := Lib.hid (HB14.out.trans ((hb).mono HB14.out.size))
  clear O11 Q8 J0 HB14
  have K0 := Lib.hid hK
  clear hK hb
  go_wp2_with fail
  refine (eqMoveS_calls A14 A0 nn c14 nn c0 LS LS _ HLS.out HLS.out hnn hnn (OwnM.mvs K0.out) (OwnM.mvs O12.out)).mono ?_
  rintro e w7 ⟨rfl, hb⟩
  have O13 := Lib.hid (O12.out.below hb)
  have Q10 := Lib.hid (Q9.out.below hb)
  have K1 := Lib.hid (K0.out.below hb)
  have HB16 := Lib.hid (HB15.out.trans ((hb).mono HB15.out.size))
  clear O12 Q9 K0 HB15
  clear hb
  go_wp2_with fail
  refine (heldMoveS_calls _ A9 nn c9 1 _ Q10.out hnn (by omega) (by omega)).mono ?_
  rintro e w13 ⟨rfl, hb⟩
  have O14 := Lib.hid (O13.out.below hb)
  have Q11 := Lib.hid (Q10.out.below hb)
  have K2 := Lib.hid (K1.out.below hb)
  have HB17 := Lib.hid (HB16.out.trans ((hb).mono HB16.out.size))
  clear O13 Q10 K1 HB16
  clear hb
  go_wp2
  go_ret
  exact ⟨rfl, by first | exact HB17.out | (rw [← World.drewN_drewN]; exact HB17.out)⟩

theorem walk (A : Option Addr) (n c : Nat) (rs : List Rw) (ea : Addr) (w : World) (hA : ArgSS w A n rs)  (hS : Sent w ea) :
    Calls Tryd.prog 3 #[.agg #[.slice A n c]] w fun e w' => e = .returned (.bool true) ∧ Below w.heap.size w w' := by
  by_cases hn : n + totN rs ≤ 1048576
  · exact core A n c rs _ (hmE (LLof rs)) (hmL (LLof rs)) _ (by exact hmL_len _) rfl ea w rfl hA hn hS
      (fun A n c r W h1 h2 h3 h4 h5 => by rw [← h2]; exact specHeapMoves_h A n c r W h1 h5 h3 h4)
      (fun A n c r W h1 h2 h3 h4 h5 h6 => by rw [← h2]; exact implHeapMoves_h A n c r ea W h1 h6 h3 h4 h5)
  · have h0 := szI_no hn
    have hb0 : Below w.heap.size w (w.alloc (.cells #[.slice A n c] 24)) := (Below.refl w.heap.size w).alloc (Nat.le_refl _) (.cells #[.slice A n c] 24)
    have HB0 := Lib.hid hb0
    clear hb0
    go_enter Tryd.func3, Tryd.ntmps3
    go_wp2_with fail
    refine (szHeap_calls A n c rs 1048576 _ (hA.below HB0.out) (by omega) (by omega)).mono ?_
    rintro e w1 ⟨rfl, hb1⟩
    have HB1 := Lib.hid (HB0.out.trans (hb1.mono HB0.out.size))
    clear hb1
    go_wp2
    go_ret
    exact ⟨rfl, HB1.out⟩

theorem door_met (os : Os) (args : Array Value) : laidMetH Tryd.prog Rows.fnExactHeapMovesRow.laid ((World.doorLaid Tryd.prog 28 os).forCall (fun _ _ => 0) ⟨#[], args, []⟩).memory :=
  laidMetH_of_parts3 (fuel := 8) (laidMet_of_run' 8 (by kernel_rfl) (by kernel_rfl)) (by kernel_rfl) (by kernel_rfl)
theorem sent_of_laid {W : World} (h : laidMetH Tryd.prog Rows.fnExactHeapMovesRow.laid W) : ∃ a : Addr, W.var? Tryd.prog "loop.example/g01321/impl.errNoHeap" = some #[.iface 78 (.pointer (some a))] ∧ Sent W a := by
  rw [MakeChecks.laidMetH_plain _ _ _ (by kernel_rfl)] at h
  exact sent_of h

set_option maxRecDepth 100000 in
theorem lifted (os : Os) (started : os.Started) (H : Type) (enc : TypeId × Value → H) :
    ReturnsInHanded {} Tryd.checked os 3 .any (fun w args => (Rows.fnExactHeapMovesSpec.pre enc Tryd.prog Tryd.f3 [] false w args ∧ laidMetH Tryd.prog Rows.fnExactHeapMovesRow.laid w) ∧ sizedMet enc Tryd.prog Tryd.f3 (OpenSpec.ofChange Rows.fnExactHeapMovesSpec) false w args)
      (Rows.fnExactHeapMovesSpec.post enc Tryd.prog Tryd.f3 false true false false) := by
  refine returnsInHanded_of_change_and (C := Tryd.checked) (X := fun w _ => laidMetH Tryd.prog Rows.fnExactHeapMovesRow.laid w) (fun _ _ _ hh h => h.of_heap hh) own started (by kernel_rfl) Tryd.func3
    (ChangeSpec.witness_shaped (enc := enc) (C := Tryd.checked) (os := os) (X := fun w _ => laidMetH Tryd.prog Rows.fnExactHeapMovesRow.laid w) false (World.doorLaid Tryd.prog 28 os) #[.agg #[.slice none 0 0]] 8 rfl (World.shaped_of_RefB (by kernel_rfl) (by kernel_rfl)) (by kernel_rfl) (by kernel_rfl) (by kernel_rfl) (door_met os _)) ?_
  intro W base args ds gs before hval0 hW _ _ hL _
  have hval : ∀ (j : Nat) t v, Tryd.f3.params[j]? = some t → args[j]? = some v → Value.okWide Tryd.prog W .any base t v := hval0
  have hW' := hW
  obtain ⟨p, q, hA0, hV0, rfl, hfz, hnd⟩ := hW
  have hA : DataW.TrodAll enc Tryd.prog W 0 (fun _ => true) true Tryd.f3.params.toList args.toList ds p := hA0
  have hV : DataW.TrodVars enc Tryd.prog W (fun _ => true) ["loop.example/g01321/impl.errNoHeap"] gs q := hV0
  rw [Tryd.params3] at hA hval
  obtain ⟨v0, vs0, d0, ds0, p0, q0, hargs, rfl, rfl, h0, r0⟩ := trodAll_cons hA
  obtain ⟨rfl, rfl, rfl⟩ := trodAll_nil r0
  obtain rfl : args = #[v0] := by cases args; simp_all
  obtain ⟨ea, hv, hS⟩ := sent_of_laid hL
  obtain ⟨rfl, rfl⟩ := hV.unique (err_reads enc hv _)
  have lt0 : ∀ x ∈ p0, x.block < W.heap.size := by obtain ⟨m, hm⟩ := h0; exact DataW.trod_lt m _ _ _ hm
  have k0 := h0
  obtain ⟨A0, n0, c0, rs0, rfl, hAI0⟩ := open_heap (hval 0 24 v0 rfl rfl) h0
  clear hA0 hV0 hval0
  refine (walk A0 n0 c0 rs0 ea W hAI0 hS).mono fun e W' ⟨he, bel⟩ => ?_
  subst he
  exact ⟨_, rfl, _, _, _, [], _, [.cell 0 0], hW', trodAll_mk1 (shut_bool Tryd.underlying4 _), (trodAll_cons_mk (Below.trod laidOut (by kernel_rfl) (of_decide_eq_true (by kernel_rfl)) k0 bel lt0) trodAll_mk0), err_reads enc (var_stays gErr hv bel (Nat.le_refl _)) _, bel.frame _, fun h => by cases h⟩

theorem over : Rows.fnExactHeapMovesRow.holds Tryd.pinned (OpenSpec.ofChange Rows.fnExactHeapMovesSpec) :=
  OpenClaim.holds_of_wide 3 Tryd.f3 rfl rfl rfl rfl rfl rfl rfl ⟨rfl, rfl, rfl, rfl, rfl⟩ rfl rfl rfl rfl rfl (by kernel_rfl) Tryd.func3 (by kernel_rfl)
    (of_decide_eq_true (by kernel_rfl)) (by unfold Func.isWrapper; first | (rw [if_pos (by decide +kernel)]; kernel_rfl) | (rw [if_neg (by decide +kernel)]; exact ⟨rfl, rfl⟩))
    (fun os started H enc _ => lifted os started H enc)

theorem proved : Rows.FnExactHeapMovesCardSaid :=
  Claim7.holds_tied_plain_at .later [] [.sentinel] true _ _
    over (fun _ h => by cases h) (by kernel_rfl) (fun _ h => by cases h) fnExactHeapMoves_row_tie rfl ⟨rfl, rfl⟩ (by kernel_rfl) rfl
    (fun f fn hf hfn => by
      obtain rfl : f = 3 := Option.some.inj ((show Tryd.prog.funcNamed "loop.example/g01321/laws.FnExactHeapMoves" = some 3 by kernel_rfl).symm.trans hf) |>.symm
      obtain rfl : fn = Tryd.f3 := (Option.some.inj (Tryd.func3.symm.trans hfn)).symm
      exact ⟨by kernel_rfl, fun j t ht => by
        rw [Tryd.params3] at ht
        have hm : t ∈ [24] := by simpa using Array.mem_of_getElem? ht
        have hall : ([24].all fun u => !Tryd.prog.wantsStandIn u) = true := by kernel_rfl
        exact (show Tryd.prog.wantsStandIn t = false by simpa using List.all_eq_true.1 hall t hm)⟩)
    (by kernel_rfl)
#print axioms proved
end Go.Proofs.YtnacajakjpmjnaaDoor.fnExactHeapMoves
