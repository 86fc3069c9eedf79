/- 'WayToPeg' of the program answers at every argument as the specification's model, leaves its argument as it was, and its answer is its own memory. Conditions: none. -/
import Derived.Test.YthbglllboppgaaaOpen
import Derived.Test.YthbglllboppgaaaOpenState
import Derived.Test.YthbglllboppgaaaMark
import Derived.Test.YthbglllboppgaaaApart
import Derived.Test.YthbglllboppgaaaWayTo
import Derived.Deep.RegionHeld3
namespace Go.Proofs.Ythbglllboppgaaa.fnExactWayToPeg
open Go.ChangeShapes Go.WideShapes Go.ChangeAt Go.RowKit Go.Joins
open Go.ChangeMaps (open_string)
set_option linter.unusedVariables false

theorem szI_no {n : Nat} (h : ¬ n ≤ 1048576) : szI n 1048576 = -1 := by unfold szI; omega
theorem szI_yes {n : Nat} (h : n ≤ 1048576) : 0 ≤ szI n 1048576 := by unfold szI; omega

set_option maxRecDepth 100000 in
set_option maxHeartbeats 4000000 in
theorem core (p : Int) (A : Option Addr) (n c : Nat) (L : List Int) (a1 : Int) (E : Int) (LL : List Mv) (nn : Nat) (hnn : nn ≤ 1048576) (hLL : LL.length = nn) (w : World) (hL : L.length = n) (hn : n ≤ 1048576) (hI : Ints w A L)
    (hspec : ∀ g W, Ints W (some ⟨g, 0, none⟩) L → Calls Try.prog 6 #[.agg #[.int .i64 p, .slice (some ⟨g, 0, none⟩) n n], .int .i64 a1] W (RetMvs W nn LL E))
    (himpl : ∀ g W, Ints W (some ⟨g, 0, none⟩) L → Calls Try.prog 8 #[.agg #[.int .i64 p, .slice (some ⟨g, 0, none⟩) n n], .int .i64 a1] W (RetMvs W nn LL E)) :
    Calls Try.prog 3 #[.agg #[.int .i64 p, .slice A n c], .int .i64 a1] w fun e w' => e = .returned (.bool true) ∧ Below w.heap.size w w' := by
  have HS := Lib.hid hspec
  have HP := Lib.hid himpl
  have HL := Lib.hid hL
  have HLL := Lib.hid hLL
  have X0 := Lib.hid (Box.new w 24 #[.int .i64 p, .slice A n c])
  have HB0 := Lib.hid ((Below.refl w.heap.size w).alloc (Nat.le_refl _) (.cells #[.int .i64 p, .slice A n c] 24))
  have h0 := szI_yes hn
  clear hspec himpl hL hLL
  go_enter Try.func3, Try.ntmps3
  go_wp2_with fail
  refine (szState_calls A n c p 1048576 _ (by omega) (by omega) (by omega)).mono ?_
  rintro e w1 ⟨rfl, hb⟩
  have X1 := Lib.hid (X0.out.below hb X0.out.lt)
  have HB1 := Lib.hid (HB0.out.trans ((hb).mono HB0.out.size))
  clear X0 HB0
  clear hb
  have hI1 := Lib.hid (hI.below HB1.out)
  obtain ⟨s0, s1, _, _⟩ := X1.out.two
  go_wp2_with fail
  refine (toState_calls A n c p L _ HL.out hn hI1.out).mono ?_
  rintro e w2 ⟨g2, rfl, hg2, hr2, hb⟩
  have X2 := Lib.hid (X1.out.below hb X1.out.lt)
  have HB2 := Lib.hid (HB1.out.trans ((hb).mono HB1.out.size))
  clear X1 HB1
  have hI2 := Lib.hid hr2.ints
  clear hb hg2 hr2 s0 s1
  go_wp2_with fail
  refine (HS.out g2 _ hI2.out).mono ?_
  rintro e w3 ⟨A0, c0, rfl, hO, hb⟩
  have X3 := Lib.hid (X2.out.below hb X2.out.lt)
  have HB3 := Lib.hid (HB2.out.trans ((hb).mono HB2.out.size))
  clear X2 HB2
  have O0 := Lib.hid hO
  clear hO hb hI2 hI1
  have hI3 := Lib.hid (hI.below HB3.out)
  obtain ⟨s0, s1, _, _⟩ := X3.out.two
  go_wp2_with fail
  refine (toState_calls A n c p L _ HL.out hn hI3.out).mono ?_
  rintro e w4 ⟨g5, rfl, hg5, hr5, hb⟩
  have BV := HB3.out.size
  have hrow := hr5.own (B := w3.heap.size) hg5 (by rw [HL.out]; exact hn)
  rw [HL.out] at hrow
  have AP := Lib.hid (ows_apart O0.out hrow (Nat.le_refl _))
  have APb := Lib.hid (ows_apart_back O0.out hrow (Nat.le_refl _))
  have X4 := Lib.hid (X3.out.below hb X3.out.lt)
  have O1 := Lib.hid (O0.out.below hb)
  have HB4 := Lib.hid (HB3.out.trans ((hb).mono HB3.out.size))
  clear X3 O0 HB3
  have V0 := Lib.hid hrow
  clear hb hg5 hr5 hrow s0 s1 hI3
  have U0 := Lib.hid (Box.new w4 29 #[.int .i64 p, .slice (some ⟨g5, 0, none⟩) n n])
  have hba : Below w4.heap.size w4 (w4.alloc (.cells #[.int .i64 p, .slice (some ⟨g5, 0, none⟩) n n] 29)) := (Below.refl _ w4).alloc (Nat.le_refl _) (.cells #[.int .i64 p, .slice (some ⟨g5, 0, none⟩) n n] 29)
  have X5 := Lib.hid (X4.out.below hba X4.out.lt)
  have O2 := Lib.hid (O1.out.below hba)
  have V1 := Lib.hid (V0.out.below hba)
  have HB5 := Lib.hid (HB4.out.trans ((hba).mono HB4.out.size))
  clear X4 O1 V0 HB4
  clear hba
  obtain ⟨u0, u1, _, _⟩ := U0.out.two
  have BQ := HB5.out.size
  go_wp2_with fail
  generalize hW5 : w4.alloc (.cells #[.int .i64 p, .slice (some ⟨g5, 0, none⟩) n n] 29) = W5 at *
  clear hW5
  generalize w4.heap.size = g8 at *
  refine (HP.out g5 _ V1.out.ints).mono ?_
  rintro e w6 ⟨A9, c9, rfl, hQ, hb⟩
  have AX := Lib.hid (ows_apart V1.out hQ (Nat.le_refl _))
  have AY := Lib.hid (ows_apart_back V1.out hQ (Nat.le_refl _))
  have AZ := Lib.hid (ows_apart O2.out hQ (Nat.le_refl _))
  have AW := Lib.hid (ows_apart_back O2.out hQ (Nat.le_refl _))
  have X6 := Lib.hid (X5.out.below hb X5.out.lt)
  have O3 := Lib.hid (O2.out.below hb)
  have V2 := Lib.hid (V1.out.below hb)
  have U1 := Lib.hid (U0.out.below hb U0.out.lt)
  have HB6 := Lib.hid (HB5.out.trans ((hb).mono HB5.out.size))
  clear X5 O2 V1 U0 HB5
  have Q0 := Lib.hid hQ
  clear hb hQ u0 u1
  go_wp2_with fail
  refine (eqMoveS_calls A9 A0 nn c9 nn c0 LL LL _ HLL.out HLL.out hnn hnn (OwnM.mvs Q0.out) (OwnM.mvs O3.out)).mono ?_
  rintro e w7 ⟨rfl, hbq⟩
  have X7 := Lib.hid (X6.out.below hbq X6.out.lt)
  have O4 := Lib.hid (O3.out.below hbq)
  have V3 := Lib.hid (V2.out.below hbq)
  have U2 := Lib.hid (U1.out.below hbq U1.out.lt)
  have Q1 := Lib.hid (Q0.out.below hbq)
  have HB7 := Lib.hid (HB6.out.trans ((hbq).mono HB6.out.size))
  clear X6 O3 V2 U1 Q0 HB6
  have hI7 := Lib.hid (hI.below HB7.out)
  have U7 := U2
  have X7 := X7
  have V7 := V3
  obtain ⟨u0, u1, s0, s1⟩ := cells22 U7.out X7.out
  have zu := U7.out.lt
  have zx := X7.out.lt
  go_wp2_with fail
  go_region_held3 (fun w' => w'.cell? ⟨g8, 0, none⟩ = some (.int .i64 p) ∧ w'.cell? ⟨g8, 1, none⟩ = some (.slice (some ⟨g5, 0, none⟩) n n) ∧ w'.cell? ⟨w.heap.size, 0, none⟩ = some (.int .i64 p) ∧ w'.cell? ⟨w.heap.size, 1, none⟩ = some (.slice A n c))
    (first | exact cells22 U7.out X7.out | exact cells22 U8.out X8.out | exact cells22 U9.out X9.out | go_keep)
    (first
    | (go_at_call 7; refine (toState_calls A n c p L _ HL.out hn ?_).mono ?_; (exact hI7.out); rintro e w8 ⟨gr, rfl, hgr, hr8, hb8⟩; have U8 := Lib.hid (Box.below U7.out (undrew hb8) zu); have X8 := Lib.hid (Box.below X7.out (undrew hb8) zx))
    | (go_at_call 10; refine (eqState_calls (some ⟨g5, 0, none⟩) (some ⟨gr, 0, none⟩) n n n n p p L L _ HL.out HL.out hn hn ?_ ?_).mono ?_; (exact V7.out.ints.below (undrew hb8)); (exact hr8.ints); rintro e w9 ⟨rfl, hb9⟩; have U9 := Lib.hid (Box.below U8.out hb9 (Box.lt U8.out)); have X9 := Lib.hid (Box.below X8.out hb9 (Box.lt X8.out))))
  clear U8 X8 U9 X9 u0 u1 s0 s1 zu zx hr8 hgr U7 X7 V7
  have X8 := Lib.hid (X7.out.below (undrew hb8) X7.out.lt)
  have O5 := Lib.hid (O4.out.below (undrew hb8))
  have V4 := Lib.hid (V3.out.below (undrew hb8))
  have U3 := Lib.hid (U2.out.below (undrew hb8) U2.out.lt)
  have Q2 := Lib.hid (Q1.out.below (undrew hb8))
  have HB8 := Lib.hid (HB7.out.trans (((undrew hb8)).mono HB7.out.size))
  clear X7 O4 V3 U2 Q1 HB7
  have X9 := Lib.hid (X8.out.below hb9 X8.out.lt)
  have O6 := Lib.hid (O5.out.below hb9)
  have V5 := Lib.hid (V4.out.below hb9)
  have U4 := Lib.hid (U3.out.below hb9 U3.out.lt)
  have Q3 := Lib.hid (Q2.out.below hb9)
  have HB9 := Lib.hid (HB8.out.trans ((hb9).mono HB8.out.size))
  clear X8 O5 V4 U3 Q2 HB8
  clear hb8 hb9 hI7
  obtain ⟨u0, u1, _, _⟩ := U4.out.two
  go_wp2_with fail
  refine (markState_calls _ (some ⟨g5, 0, none⟩) n n p L 1 _ V5.out hn (by omega) (by omega)).mono ?_
  rintro e w10 ⟨rfl, hO, hg⟩
  have X10 := Lib.hid (X9.out.grown hg (V5.out.box_ne X9.out (by decide)))
  have O7 := Lib.hid (O6.out.kept hg AP.out)
  have U5 := Lib.hid (U4.out.grown hg (V5.out.box_ne U4.out (by decide)))
  have Q4 := Lib.hid (Q3.out.kept hg AY.out)
  have V6 := Lib.hid hO
  have HB10 := Lib.hid (HB9.out.grown hg HB9.out.size (fun k hk => by have h1 := ows_bk V5.out k hk; omega))
  clear X9 O6 V5 U4 Q3 HB9 hO hg
  clear u0 u1
  go_wp2_with fail
  refine (eqMoveS_calls A9 A0 nn c9 nn c0 LL LL _ HLL.out HLL.out hnn hnn (OwnM.mvs Q4.out) (OwnM.mvs O7.out)).mono ?_
  rintro e w7 ⟨rfl, hbq⟩
  have X11 := Lib.hid (X10.out.below hbq X10.out.lt)
  have O8 := Lib.hid (O7.out.below hbq)
  have Q5 := Lib.hid (Q4.out.below hbq)
  have HB11 := Lib.hid (HB10.out.trans ((hbq).mono HB10.out.size))
  clear X10 O7 Q4 HB10
  go_wp2_with fail
  refine (markMoveS_calls _ A9 nn c9 (mvF LL) 1 _ Q5.out hnn (by omega) (by omega)).mono ?_
  rintro e w12 ⟨rfl, hO, hg⟩
  have X12 := Lib.hid (X11.out.grown hg (Q5.out.box_ne X11.out (by decide)))
  have O9 := Lib.hid (O8.out.kept hg AZ.out)
  have Q6 := Lib.hid hO
  have HB12 := Lib.hid (HB11.out.grown hg HB11.out.size (fun k hk => by have h1 := ows_bk Q5.out k hk; omega))
  clear X11 O8 Q5 HB11 hO hg
  go_wp2_with fail
  refine (heldMoveS_calls _ A9 nn c9 1 _ Q6.out hnn (by omega) (by omega)).mono ?_
  rintro e w13 ⟨rfl, hbq⟩
  have X13 := Lib.hid (X12.out.below hbq X12.out.lt)
  have O10 := Lib.hid (O9.out.below hbq)
  have Q7 := Lib.hid (Q6.out.below hbq)
  have HB13 := Lib.hid (HB12.out.trans ((hbq).mono HB12.out.size))
  clear X12 O9 Q6 HB12
  have hI13 := Lib.hid (hI.below HB13.out)
  obtain ⟨s0, s1, _, _⟩ := X13.out.two
  go_wp2_with fail
  refine (toState_calls A n c p L _ HL.out hn hI13.out).mono ?_
  rintro e w14 ⟨g14, rfl, hg14, hr14, hb⟩
  have O11 := Lib.hid (O10.out.below hb)
  have Q8 := Lib.hid (Q7.out.below hb)
  have HB14 := Lib.hid (HB13.out.trans ((hb).mono HB13.out.size))
  clear X13 O10 Q7 HB13
  have hI14 := Lib.hid hr14.ints
  clear hb hg14 hr14 s0 s1 hI13
  go_wp2_with fail
  refine (HP.out g14 _ hI14.out).mono ?_
  rintro e w15 ⟨A14, c14, rfl, hK, hb⟩
  have O12 := Lib.hid (O11.out.below hb)
  have Q9 := Lib.hid (Q8.out.below hb)
  have HB15 := Lib.hid (HB14.out.trans ((hb).mono HB14.out.size))
  clear O11 Q8 HB14
  have K0 := Lib.hid hK
  clear hK hb hI14
  go_wp2_with fail
  refine (eqMoveS_calls A14 A0 nn c14 nn c0 LL LL _ HLL.out HLL.out hnn hnn (OwnM.mvs K0.out) (OwnM.mvs O12.out)).mono ?_
  rintro e w7 ⟨rfl, hbq⟩
  have O13 := Lib.hid (O12.out.below hbq)
  have Q10 := Lib.hid (Q9.out.below hbq)
  have K1 := Lib.hid (K0.out.below hbq)
  have HB16 := Lib.hid (HB15.out.trans ((hbq).mono HB15.out.size))
  clear O12 Q9 K0 HB15
  go_wp2_with fail
  refine (heldMoveS_calls _ A9 nn c9 1 _ Q10.out hnn (by omega) (by omega)).mono ?_
  rintro e w13 ⟨rfl, hbq⟩
  have O14 := Lib.hid (O13.out.below hbq)
  have Q11 := Lib.hid (Q10.out.below hbq)
  have K2 := Lib.hid (K1.out.below hbq)
  have HB17 := Lib.hid (HB16.out.trans ((hbq).mono HB16.out.size))
  clear O13 Q10 K1 HB16
  go_wp2
  go_ret
  exact ⟨rfl, by first | exact HB17.out | (rw [← World.drewN_drewN]; exact HB17.out)⟩

theorem walk (p : Int) (A : Option Addr) (n c : Nat) (L : List Int) (a1 : Int) (w : World) (w0 : (Lit.int .i64 p).wf = true) (hA : ArgInts w A n L) (w1 : (Lit.int .i64 a1).wf = true) :
    Calls Try.prog 3 #[.agg #[.int .i64 p, .slice A n c], .int .i64 a1] w fun e w' => e = .returned (.bool true) ∧ Below w.heap.size w w' := by
  obtain ⟨hL, hm, hI⟩ := hA
  by_cases hn : n ≤ 1048576
  · exact core p A n c L a1 (codeW p L a1) (wtL p L a1) (wtL p L a1).length (by have := wtL_len p L a1; omega) rfl w hL hn hI (fun g W hW => specWayToPeg_ret ⟨g, 0, none⟩ n n p L a1 W hL hn hW) (fun g W hW => implWayToPeg_ret ⟨g, 0, none⟩ n n p L a1 W hL hn hW)
  · have h0 := szI_no hn
    go_enter Try.func3, Try.ntmps3
    go_wp2_with fail
    refine (szState_calls A n c p 1048576 _ hm (by omega) (by omega)).mono ?_
    rintro e w1 ⟨rfl, hb1⟩
    have HB1 := Lib.hid (((Below.refl w.heap.size w).alloc (Nat.le_refl _) _).trans (hb1.mono (by simp)))
    clear hb1
    go_wp2
    go_ret
    exact ⟨rfl, HB1.out⟩

set_option maxRecDepth 100000 in
theorem lifted (os : Os) (started : os.Started) (H : Type) (enc : TypeId × Value → H) :
    ReturnsInHanded {} Try.checked os 3 .any (Rows.fnExactWayToPegSpec.pre6 enc Try.prog Try.f3 Rows.fnExactWayToPegRow.domain false) (Rows.fnExactWayToPegSpec.post enc Try.prog Try.f3 false true false false) := by
  refine returnsInHanded_of_change (C := Try.checked) own started (by kernel_rfl) Try.func3
    (ChangeSpec.witness6 (enc := enc) (C := Try.checked) false ⟨#[], #[.agg #[.int .i64 0, .slice none 0 0], .int .i64 0], []⟩ 8 (by kernel_rfl) (by kernel_rfl) (by kernel_rfl) (by kernel_rfl)) ?_
  intro W base args ds gs before hval0 hW hcnd _
  have hval : ∀ (j : Nat) t v, Try.f3.params[j]? = some t → args[j]? = some v → Value.okWide Try.prog W .any base t v := hval0
  have hW' := hW
  obtain ⟨p, q, hA0, hV, rfl, hfz, hnd⟩ := hW
  have hA : DataW.TrodAll enc Try.prog W 0 (fun _ => true) true Try.f3.params.toList args.toList ds p := hA0
  rw [Try.params3] at hA hval
  obtain ⟨v0, vs0, d0, ds0, p0, q0, hargs, rfl, rfl, h0, r0⟩ := trodAll_cons hA
  obtain ⟨v1, vs1, d1, ds1, p1, q1, rfl, rfl, rfl, h1, r1⟩ := trodAll_cons r0
  obtain ⟨rfl, rfl, rfl⟩ := trodAll_nil r1
  obtain rfl : args = #[v0, v1] := by cases args; simp_all
  obtain ⟨rfl, rfl⟩ := trodVars_none hV
  have lt0 : ∀ x ∈ p0, x.block < W.heap.size := by obtain ⟨m, hm⟩ := h0; exact DataW.trod_lt m _ _ _ hm
  have k0 := h0
  obtain ⟨a0, A0, n0, c0, L0, rfl, w0, hAI0⟩ := open_state (hval 0 24 v0 rfl rfl) h0
  have lt1 : ∀ x ∈ p1, x.block < W.heap.size := by obtain ⟨m, hm⟩ := h1; exact DataW.trod_lt m _ _ _ hm
  have k1 := h1
  obtain ⟨a1, rfl, rfl, rfl, w1⟩ := open_int Try.underlying2 (hval 1 2 v1 rfl rfl) h1
  clear hA0 hval0
  refine (walk a0 A0 n0 c0 L0 a1 W w0 hAI0 w1).mono fun e W' ⟨he, bel⟩ => ?_
  subst he
  exact ⟨_, rfl, _, _, _, [], _, [], hW', trodAll_mk1 (shut_bool Try.underlying4 _), (trodAll_cons_mk (Below.trod laidOut (by kernel_rfl) (of_decide_eq_true (by kernel_rfl)) k0 bel lt0) (trodAll_cons_mk (Below.trod laidOut (by kernel_rfl) (of_decide_eq_true (by kernel_rfl)) k1 bel lt1) trodAll_mk0)), rfl, bel.frame _, fun h => by cases h⟩

theorem over : Rows.fnExactWayToPegRow.holds Try.pinned (OpenSpec.ofChange Rows.fnExactWayToPegSpec) :=
  OpenClaim.holds_of_wide 3 Try.f3 rfl rfl rfl rfl rfl rfl rfl ⟨rfl, rfl, rfl, rfl, rfl⟩ rfl rfl rfl rfl rfl (by kernel_rfl) Try.func3 (by kernel_rfl)
    (of_decide_eq_true (by kernel_rfl)) (by unfold Func.isWrapper; first | (rw [if_pos (by decide +kernel)]; kernel_rfl) | (rw [if_neg (by decide +kernel)]; exact ⟨rfl, rfl⟩))
    (fun os started H enc _ => lifted os started H enc)

theorem proved : Rows.FnExactWayToPegSaid := over
#print axioms proved
end Go.Proofs.Ythbglllboppgaaa.fnExactWayToPeg
