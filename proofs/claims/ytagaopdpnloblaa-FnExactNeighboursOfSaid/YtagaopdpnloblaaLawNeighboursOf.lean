/- 'NeighboursOf' of the program answers at every argument as the specification's model, leaves its argument as it was, and its answer is its own memory. Conditions: none. -/
import Derived.Test.YtagaopdpnloblaaOpen
import Derived.Test.YtagaopdpnloblaaOpenState
import Derived.Test.YtagaopdpnloblaaStc
import Derived.Test.YtagaopdpnloblaaNbr
import Derived.Test.YtagaopdpnloblaaNbrI
import Derived.Deep.RegionHeld3
namespace Go.Proofs.Ytagaopdpnloblaa.fnExactNeighboursOf
open Go.ChangeShapes Go.WideShapes Go.ChangeAt Go.RowKit Go.Joins
open Go.ChangeMaps (open_string)
set_option linter.unusedVariables false

theorem szI_no {n : Nat} (h : ¬ n ≤ 1048576) : szI n 1048576 = -1 := by unfold szI; omega
theorem szI_yes {n : Nat} (h : n ≤ 1048576) : 0 ≤ szI n 1048576 := by unfold szI; omega

set_option maxRecDepth 100000 in
set_option maxHeartbeats 8000000 in
theorem core (p : Int) (A : Option Addr) (n c : Nat) (L : List Int) (E : Int) (LL : List (Int × List Int)) (w : World) (hsm : (LL.map (fun x => x.2.length + 1)).sum ≤ 1048576) (hL : L.length = n) (hn : n ≤ 1048576) (hI : Ints w A L)
    (hspec : ∀ g W, Ints W (some ⟨g, 0, none⟩) L → Calls Try.prog 7 #[.agg #[.int .i64 p, .slice (some ⟨g, 0, none⟩) n n]] W (RetSt W LL E))
    (himpl : ∀ g W, Ints W (some ⟨g, 0, none⟩) L → Calls Try.prog 9 #[.agg #[.int .i64 p, .slice (some ⟨g, 0, none⟩) n n]] W (RetSt W LL E)) :
    Calls Try.prog 3 #[.agg #[.int .i64 p, .slice A n c]] w fun e w' => e = .returned (.bool true) ∧ Below w.heap.size w w' := by
  have HS := Lib.hid hspec
  have HP := Lib.hid himpl
  have HL := Lib.hid hL
  have X0 := Lib.hid (Box.new w 24 #[.int .i64 p, .slice A n c])
  have HB0 := Lib.hid ((Below.refl w.heap.size w).alloc (Nat.le_refl _) (.cells #[.int .i64 p, .slice A n c] 24))
  have h0 := szI_yes hn
  clear hspec himpl hL
  go_enter Try.func3, Try.ntmps3
  go_wp2_with fail
  refine (szState_calls A n c p 1048576 _ (by omega) (by omega) (by omega)).mono ?_
  rintro e w1 ⟨rfl, hb⟩
  have X1 := Lib.hid (X0.out.below hb X0.out.lt)
  have HB1 := Lib.hid (HB0.out.trans ((hb).mono HB0.out.size))
  clear X0 HB0
  clear hb
  have hI1 := Lib.hid (hI.below HB1.out)
  obtain ⟨s0, s1, _, _⟩ := X1.out.two
  go_wp2_with fail
  refine (toState_calls A n c p L _ HL.out hn hI1.out).mono ?_
  rintro e w2 ⟨g2, rfl, hg2, hr2, hb⟩
  have X2 := Lib.hid (X1.out.below hb X1.out.lt)
  have HB2 := Lib.hid (HB1.out.trans ((hb).mono HB1.out.size))
  clear X1 HB1
  have hI2 := Lib.hid hr2.ints
  clear hb hg2 hr2 s0 s1
  go_wp2_with fail
  refine (HS.out g2 _ hI2.out).mono ?_
  rintro e w3 ⟨A0, n0, c0, rs0, rfl, hO, hL0, hb⟩
  have X3 := Lib.hid (X2.out.below hb X2.out.lt)
  have HB3 := Lib.hid (HB2.out.trans ((hb).mono HB2.out.size))
  clear X2 HB2
  have OI := Lib.hid hO.ints
  have hl0 := hO.len
  have ht0 := totT_QL hO
  rw [hL0] at ht0
  have hn0 : n0 ≤ 1048576 := by rw [← hl0]; exact Nat.le_trans (totT_len rs0) (by omega)
  have hr0 : Hid (∀ r ∈ rs0, r.n ≤ 1048576) := rowsT_small (by rw [ht0]; omega)
  have Hl0 := Lib.hid hl0
  have HL0 := Lib.hid hL0
  have HO0 := Lib.hid (Below.refl w3.heap.size w3)
  have hsz3 := HB3.out.size
  clear hO hL0 hl0 ht0 hb hI2 hI1
  have hI3 := Lib.hid (hI.below HB3.out)
  obtain ⟨s0, s1, _, _⟩ := X3.out.two
  go_wp2_with fail
  refine (toState_calls A n c p L _ HL.out hn hI3.out).mono ?_
  rintro e w4 ⟨g5, rfl, hg5, hr5, hb⟩
  have hrow := hr5.own (B := w3.heap.size) hg5 (by rw [HL.out]; exact hn)
  rw [HL.out] at hrow
  have hg5lt := (ownG_lt hrow).2
  have X4 := Lib.hid (X3.out.below hb X3.out.lt)
  have HB4 := Lib.hid (HB3.out.trans ((hb).mono HB3.out.size))
  clear X3 HB3
  have HO1 := Lib.hid (HO0.out.trans ((hb).mono HO0.out.size))
  clear HO0
  have V0 := Lib.hid hrow
  clear hb hr5 hrow s0 s1 hI3
  have U0 := Lib.hid (Box.new w4 29 #[.int .i64 p, .slice (some ⟨g5, 0, none⟩) n n])
  have hba : Below w4.heap.size w4 (w4.alloc (.cells #[.int .i64 p, .slice (some ⟨g5, 0, none⟩) n n] 29)) := (Below.refl _ w4).alloc (Nat.le_refl _) (.cells #[.int .i64 p, .slice (some ⟨g5, 0, none⟩) n n] 29)
  have X5 := Lib.hid (X4.out.below hba X4.out.lt)
  have V1 := Lib.hid (V0.out.below hba)
  have HB5 := Lib.hid (HB4.out.trans ((hba).mono HB4.out.size))
  clear X4 V0 HB4
  have HO2 := Lib.hid (HO1.out.trans ((hba).mono HO1.out.size))
  clear HO1
  clear hba
  obtain ⟨u0, u1, _, _⟩ := U0.out.two
  have hsQ := HO2.out.size
  have hsW := HB5.out.size
  have hXQ := X5.out.lt
  go_wp2_with fail
  have hg5Q : g5 < (w4.alloc (.cells #[.int .i64 p, .slice (some ⟨g5, 0, none⟩) n n] 29)).heap.size := by simp; omega
  generalize hW5 : w4.alloc (.cells #[.int .i64 p, .slice (some ⟨g5, 0, none⟩) n n] 29) = W5 at *
  clear hW5
  generalize w4.heap.size = g8 at *
  refine (HP.out g5 _ V1.out.ints).mono ?_
  rintro e w6 ⟨A9, n9, c9, rs9, rfl, hQ, hL9, hb⟩
  have X6 := Lib.hid (X5.out.below hb X5.out.lt)
  have V2 := Lib.hid (V1.out.below hb)
  have U1 := Lib.hid (U0.out.below hb U0.out.lt)
  have HB6 := Lib.hid (HB5.out.trans ((hb).mono HB5.out.size))
  clear X5 V1 U0 HB5
  have HO3 := Lib.hid (HO2.out.trans ((hb).mono HO2.out.size))
  clear HO2
  have hl9 := hQ.len
  have ht9 := totT_QL hQ
  rw [hL9] at ht9
  have hn9 : n9 ≤ 1048576 := by rw [← hl9]; exact Nat.le_trans (totT_len rs9) (by omega)
  have ht9b : totT rs9 ≤ 1048576 := by rw [ht9]; omega
  have hr9 : Hid (∀ r ∈ rs9, r.n ≤ 1048576) := rowsT_small ht9b
  have Hl9 := Lib.hid hl9
  have HL9 := Lib.hid hL9
  have Q0 := Lib.hid hQ
  have HE9 : Hid (decide (QLof rs9 = QLof rs0) = true) := by unfold Hid; rw [HL9.out, HL0.out]; simp
  clear hb hQ hl9 hL9 ht9 u0 u1
  have hOI := Lib.hid (OI.out.below HO3.out)
  go_wp2_with fail
  refine (eqStateS_calls A9 A0 n9 c9 n0 c0 rs9 rs0 _ Hl9.out Hl0.out hn9 hn0 hr9.out hr0.out Q0.out.ints hOI.out).mono ?_
  rintro e w7 ⟨rfl, hb⟩
  rw [HE9.out]
  clear hOI
  have X7 := Lib.hid (X6.out.below hb X6.out.lt)
  have V3 := Lib.hid (V2.out.below hb)
  have U2 := Lib.hid (U1.out.below hb U1.out.lt)
  have Q1 := Lib.hid (Q0.out.below hb)
  have HB7 := Lib.hid (HB6.out.trans ((hb).mono HB6.out.size))
  clear X6 V2 U1 Q0 HB6
  have HO4 := Lib.hid (HO3.out.trans ((hb).mono HO3.out.size))
  clear HO3
  clear hb
  have hI7 := Lib.hid (hI.below HB7.out)
  have U7 := U2
  have X7 := X7
  have V7 := V3
  obtain ⟨u0, u1, s0, s1⟩ := cells22 U7.out X7.out
  have zu := U7.out.lt
  have zx := X7.out.lt
  go_wp2_with fail
  go_region_held3 (fun w' => w'.cell? ⟨g8, 0, none⟩ = some (.int .i64 p) ∧ w'.cell? ⟨g8, 1, none⟩ = some (.slice (some ⟨g5, 0, none⟩) n n) ∧ w'.cell? ⟨w.heap.size, 0, none⟩ = some (.int .i64 p) ∧ w'.cell? ⟨w.heap.size, 1, none⟩ = some (.slice A n c))
    (first | exact cells22 U7.out X7.out | exact cells22 U8.out X8.out | exact cells22 U9.out X9.out | go_keep)
    (first
    | (go_at_call 8; refine (toState_calls A n c p L _ HL.out hn ?_).mono ?_; (exact hI7.out); rintro e w8 ⟨gr, rfl, hgr, hr8, hb8⟩; have U8 := Lib.hid (Box.below U7.out (undrew hb8) zu); have X8 := Lib.hid (Box.below X7.out (undrew hb8) zx))
    | (go_at_call 11; refine (eqState_calls (some ⟨g5, 0, none⟩) (some ⟨gr, 0, none⟩) n n n n p p L L _ HL.out HL.out hn hn ?_ ?_).mono ?_; (exact V7.out.ints.below (undrew hb8)); (exact hr8.ints); rintro e w9 ⟨rfl, hb9⟩; have U9 := Lib.hid (Box.below U8.out hb9 (Box.lt U8.out)); have X9 := Lib.hid (Box.below X8.out hb9 (Box.lt X8.out))))
  clear U8 X8 U9 X9 u0 u1 s0 s1 zu zx hr8 hgr U7 X7 V7
  have X8 := Lib.hid (X7.out.below (undrew hb8) X7.out.lt)
  have V4 := Lib.hid (V3.out.below (undrew hb8))
  have U3 := Lib.hid (U2.out.below (undrew hb8) U2.out.lt)
  have Q2 := Lib.hid (Q1.out.below (undrew hb8))
  have HB8 := Lib.hid (HB7.out.trans (((undrew hb8)).mono HB7.out.size))
  clear X7 V3 U2 Q1 HB7
  have HO5 := Lib.hid (HO4.out.trans (((undrew hb8)).mono HO4.out.size))
  clear HO4
  have X9 := Lib.hid (X8.out.below hb9 X8.out.lt)
  have V5 := Lib.hid (V4.out.below hb9)
  have U4 := Lib.hid (U3.out.below hb9 U3.out.lt)
  have Q3 := Lib.hid (Q2.out.below hb9)
  have HB9 := Lib.hid (HB8.out.trans ((hb9).mono HB8.out.size))
  clear X8 V4 U3 Q2 HB8
  have HO6 := Lib.hid (HO5.out.trans ((hb9).mono HO5.out.size))
  clear HO5
  clear hb8 hb9 hI7
  obtain ⟨u0, u1, _, _⟩ := U4.out.two
  go_wp2_with fail
  refine (markState_calls _ (some ⟨g5, 0, none⟩) n n p L 1 _ V5.out hn (by omega) (by omega)).mono ?_
  rintro e w10 ⟨rfl, hO, hg⟩
  clear u0 u1
  have Q4 := Lib.hid (OwnSt.keptBelow Q3.out hg (fun g hgg => by have h1 := block_of_own V5.out hgg; injection h1 with h1; injection h1 with h1; omega))
  have X10 := Lib.hid (X9.out.grown hg (V5.out.box_ne X9.out (by decide)))
  have HB10 := Lib.hid (HB9.out.grown hg HB9.out.size (fun k hk => by have h1 := own_bk V5.out k hk; omega))
  have HO7 := Lib.hid (HO6.out.grown hg HO6.out.size (fun k hk => own_bk V5.out k hk))
  clear Q3 X9 HB9 HO6 V5 U4 hO hg
  have hOI := Lib.hid (OI.out.below HO7.out)
  go_wp2_with fail
  refine (eqStateS_calls A9 A0 n9 c9 n0 c0 rs9 rs0 _ Hl9.out Hl0.out hn9 hn0 hr9.out hr0.out Q4.out.ints hOI.out).mono ?_
  rintro e w7 ⟨rfl, hb⟩
  rw [HE9.out]
  clear hOI
  have X11 := Lib.hid (X10.out.below hb X10.out.lt)
  have Q5 := Lib.hid (Q4.out.below hb)
  have HB11 := Lib.hid (HB10.out.trans ((hb).mono HB10.out.size))
  clear X10 Q4 HB10
  have HO8 := Lib.hid (HO7.out.trans ((hb).mono HO7.out.size))
  clear HO7
  clear hb
  go_wp2_with fail
  refine (markStateS_calls _ A9 n9 c9 rs9 1 _ Q5.out hn9 ht9b (by omega) (by omega)).mono ?_
  rintro e w12 ⟨rfl, hO, hg⟩
  have Q6 := Lib.hid hO
  have X12 := Lib.hid (X11.out.below hg hXQ)
  have HB12 := Lib.hid (HB11.out.trans (hg.mono hsW))
  have HO9 := Lib.hid (HO8.out.trans (hg.mono hsQ))
  clear Q5 X11 HB11 HO8 hO hg
  go_wp2_with fail
  refine (heldStateS_calls A9 n9 c9 rs9 1 _ Hl9.out Q6.out.ints hn9 ht9b (by omega) (by omega)).mono ?_
  rintro e w13 ⟨rfl, hb⟩
  have X13 := Lib.hid (X12.out.below hb X12.out.lt)
  have Q7 := Lib.hid (Q6.out.below hb)
  have HB13 := Lib.hid (HB12.out.trans ((hb).mono HB12.out.size))
  clear X12 Q6 HB12
  have HO10 := Lib.hid (HO9.out.trans ((hb).mono HO9.out.size))
  clear HO9
  clear hb
  have hI13 := Lib.hid (hI.below HB13.out)
  obtain ⟨s0, s1, _, _⟩ := X13.out.two
  go_wp2_with fail
  refine (toState_calls A n c p L _ HL.out hn hI13.out).mono ?_
  rintro e w14 ⟨g14, rfl, hg14, hr14, hb⟩
  have Q8 := Lib.hid (Q7.out.below hb)
  have HB14 := Lib.hid (HB13.out.trans ((hb).mono HB13.out.size))
  clear X13 Q7 HB13
  have HO11 := Lib.hid (HO10.out.trans ((hb).mono HO10.out.size))
  clear HO10
  have hI14 := Lib.hid hr14.ints
  clear hb hg14 hr14 s0 s1 hI13
  go_wp2_with fail
  refine (HP.out g14 _ hI14.out).mono ?_
  rintro e w15 ⟨A14, n14, c14, rs14, rfl, hK, hL14, hb⟩
  have Q9 := Lib.hid (Q8.out.below hb)
  have HB15 := Lib.hid (HB14.out.trans ((hb).mono HB14.out.size))
  clear Q8 HB14
  have HO12 := Lib.hid (HO11.out.trans ((hb).mono HO11.out.size))
  clear HO11
  have hl14 := hK.len
  have ht14 := totT_QL hK
  rw [hL14] at ht14
  have hn14 : n14 ≤ 1048576 := by rw [← hl14]; exact Nat.le_trans (totT_len rs14) (by omega)
  have hr14' : Hid (∀ r ∈ rs14, r.n ≤ 1048576) := rowsT_small (by rw [ht14]; omega)
  have Hl14 := Lib.hid hl14
  have HE14 : Hid (decide (QLof rs14 = QLof rs0) = true) := by unfold Hid; rw [hL14, HL0.out]; simp
  have K0 := Lib.hid hK.ints
  clear hK hb hI14 hl14 hL14 ht14
  have hOI := Lib.hid (OI.out.below HO12.out)
  go_wp2_with fail
  refine (eqStateS_calls A14 A0 n14 c14 n0 c0 rs14 rs0 _ Hl14.out Hl0.out hn14 hn0 hr14'.out hr0.out K0.out hOI.out).mono ?_
  rintro e w7 ⟨rfl, hb⟩
  rw [HE14.out]
  clear hOI
  have Q10 := Lib.hid (Q9.out.below hb)
  have HB16 := Lib.hid (HB15.out.trans ((hb).mono HB15.out.size))
  clear Q9 HB15
  have HO13 := Lib.hid (HO12.out.trans ((hb).mono HO12.out.size))
  clear HO12
  clear hb
  clear K0
  go_wp2_with fail
  refine (heldStateS_calls A9 n9 c9 rs9 1 _ Hl9.out Q10.out.ints hn9 ht9b (by omega) (by omega)).mono ?_
  rintro e w13 ⟨rfl, hb⟩
  have Q11 := Lib.hid (Q10.out.below hb)
  have HB17 := Lib.hid (HB16.out.trans ((hb).mono HB16.out.size))
  clear Q10 HB16
  have HO14 := Lib.hid (HO13.out.trans ((hb).mono HO13.out.size))
  clear HO13
  clear hb
  go_wp2
  go_ret
  exact ⟨rfl, by first | exact HB17.out | (rw [← World.drewN_drewN]; exact HB17.out)⟩

theorem walk (p : Int) (A : Option Addr) (n c : Nat) (L : List Int) (w : World) (w0 : (Lit.int .i64 p).wf = true) (hA : ArgInts w A n L) :
    Calls Try.prog 3 #[.agg #[.int .i64 p, .slice A n c]] w fun e w' => e = .returned (.bool true) ∧ Below w.heap.size w w' := by
  obtain ⟨hL, hm, hI⟩ := hA
  by_cases hn : n ≤ 1048576
  · exact core p A n c L (codeS p L) (nbV p L) w (by exact nbV_small p L) hL hn hI (fun g W hW => specNeighboursOf_ret (some ⟨g, 0, none⟩) n n p L W hL hn hW) (fun g W hW => implNeighboursOf_ret (some ⟨g, 0, none⟩) n n p L W hL hn hW (Nat.le_refl _) (by omega))
  · have h0 := szI_no hn
    go_enter Try.func3, Try.ntmps3
    go_wp2_with fail
    refine (szState_calls A n c p 1048576 _ hm (by omega) (by omega)).mono ?_
    rintro e w1 ⟨rfl, hb1⟩
    have HB1 := Lib.hid (((Below.refl w.heap.size w).alloc (Nat.le_refl _) _).trans (hb1.mono (by simp)))
    clear hb1
    go_wp2
    go_ret
    exact ⟨rfl, HB1.out⟩

set_option maxRecDepth 100000 in
theorem lifted (os : Os) (started : os.Started) (H : Type) (enc : TypeId × Value → H) :
    ReturnsInHanded {} Try.checked os 3 .any (Rows.fnExactNeighboursOfSpec.pre6 enc Try.prog Try.f3 Rows.fnExactNeighboursOfRow.domain false) (Rows.fnExactNeighboursOfSpec.post enc Try.prog Try.f3 false true false false) := by
  refine returnsInHanded_of_change (C := Try.checked) own started (by kernel_rfl) Try.func3
    (ChangeSpec.witness6 (enc := enc) (C := Try.checked) false ⟨#[], #[.agg #[.int .i64 0, .slice none 0 0]], []⟩ 8 (by kernel_rfl) (by kernel_rfl) (by kernel_rfl) (by kernel_rfl)) ?_
  intro W base args ds gs before hval0 hW hcnd _
  have hval : ∀ (j : Nat) t v, Try.f3.params[j]? = some t → args[j]? = some v → Value.okWide Try.prog W .any base t v := hval0
  have hW' := hW
  obtain ⟨p, q, hA0, hV, rfl, hfz, hnd⟩ := hW
  have hA : DataW.TrodAll enc Try.prog W 0 (fun _ => true) true Try.f3.params.toList args.toList ds p := hA0
  rw [Try.params3] at hA hval
  obtain ⟨v0, vs0, d0, ds0, p0, q0, hargs, rfl, rfl, h0, r0⟩ := trodAll_cons hA
  obtain ⟨rfl, rfl, rfl⟩ := trodAll_nil r0
  obtain rfl : args = #[v0] := by cases args; simp_all
  obtain ⟨rfl, rfl⟩ := trodVars_none hV
  have lt0 : ∀ x ∈ p0, x.block < W.heap.size := by obtain ⟨m, hm⟩ := h0; exact DataW.trod_lt m _ _ _ hm
  have k0 := h0
  obtain ⟨a0, A0, n0, c0, L0, rfl, w0, hAI0⟩ := open_state (hval 0 24 v0 rfl rfl) h0
  clear hA0 hval0
  refine (walk a0 A0 n0 c0 L0 W w0 hAI0).mono fun e W' ⟨he, bel⟩ => ?_
  subst he
  exact ⟨_, rfl, _, _, _, [], _, [], hW', trodAll_mk1 (shut_bool Try.underlying4 _), (trodAll_cons_mk (Below.trod laidOut (by kernel_rfl) (of_decide_eq_true (by kernel_rfl)) k0 bel lt0) trodAll_mk0), rfl, bel.frame _, fun h => by cases h⟩

theorem over : Rows.fnExactNeighboursOfRow.holds Try.pinned (OpenSpec.ofChange Rows.fnExactNeighboursOfSpec) :=
  OpenClaim.holds_of_wide 3 Try.f3 rfl rfl rfl rfl rfl rfl rfl ⟨rfl, rfl, rfl, rfl, rfl⟩ rfl rfl rfl rfl rfl (by kernel_rfl) Try.func3 (by kernel_rfl)
    (of_decide_eq_true (by kernel_rfl)) (by unfold Func.isWrapper; first | (rw [if_pos (by decide +kernel)]; kernel_rfl) | (rw [if_neg (by decide +kernel)]; exact ⟨rfl, rfl⟩))
    (fun os started H enc _ => lifted os started H enc)

theorem proved : Rows.FnExactNeighboursOfSaid := over
#print axioms proved
end Go.Proofs.Ytagaopdpnloblaa.fnExactNeighboursOf
