/- 'FirstMove' of the program answers at every argument as the specification's model, and leaves its argument as it was. Conditions: none. -/
import Derived.Test.YtmpmkhfbfaicpaaOpen
import Derived.Test.YtmpmkhfbfaicpaaOpenState
import Derived.Test.YtmpmkhfbfaicpaaFirstI
import Derived.Test.YtmpmkhfbfaicpaaTo
import Derived.Deep.RegionHeld3
namespace Go.Proofs.Ytmpmkhfbfaicpaa.fnExactFirstMove
open Go.ChangeShapes Go.WideShapes Go.ChangeAt Go.RowKit Go.Joins
open Go.ChangeMaps (open_string)
set_option linter.unusedVariables false

theorem szI_no {n : Nat} (h : ¬ n ≤ 1048576) : szI n 1048576 = -1 := by unfold szI; omega
theorem szI_yes {n : Nat} (h : n ≤ 1048576) : 0 ≤ szI n 1048576 := by unfold szI; omega

set_option maxRecDepth 100000 in
set_option maxHeartbeats 4000000 in
theorem core (p : Int) (A : Option Addr) (n c : Nat) (L : List Int) (a1 : Int) (m1 m2 m3 E : Int) (w : World) (hL : L.length = n) (hn : n ≤ 1048576) (hI : Ints w A L)
    (hspec : ∀ g W, Ints W (some ⟨g, 0, none⟩) L → Calls Try.prog 7 #[.agg #[.int .i64 p, .slice (some ⟨g, 0, none⟩) n n], .int .i64 a1] W (RetFm W (m1, m2, m3) E))
    (himpl : ∀ g W, Ints W (some ⟨g, 0, none⟩) L → Calls Try.prog 9 #[.agg #[.int .i64 p, .slice (some ⟨g, 0, none⟩) n n], .int .i64 a1] W (RetFm W (m1, m2, m3) E)) :
    Calls Try.prog 3 #[.agg #[.int .i64 p, .slice A n c], .int .i64 a1] w fun e w' => e = .returned (.bool true) ∧ Below w.heap.size w w' := by
  have HS := Lib.hid hspec
  have HP := Lib.hid himpl
  have HL := Lib.hid hL
  have X0 := Lib.hid (Box.new w 24 #[.int .i64 p, .slice A n c])
  have HB0 := Lib.hid ((Below.refl w.heap.size w).alloc (Nat.le_refl _) (.cells #[.int .i64 p, .slice A n c] 24))
  have h0 := szI_yes hn
  clear hspec himpl hL
  go_enter Try.func3, Try.ntmps3
  go_wp2_with fail
  refine (szState_calls A n c p 1048576 _ (by omega) (by omega) (by omega)).mono ?_
  rintro e w1 ⟨rfl, hb⟩
  have X1 := Lib.hid (X0.out.below hb X0.out.lt)
  have HB1 := Lib.hid (HB0.out.trans ((hb).mono HB0.out.size))
  clear X0 HB0
  clear hb
  have hI1 := Lib.hid (hI.below HB1.out)
  obtain ⟨s0, s1, _, _⟩ := X1.out.two
  go_wp2_with fail
  refine (toState_calls A n c p L _ HL.out hn hI1.out).mono ?_
  rintro e w2 ⟨g2, rfl, hg2, hr2, hb⟩
  have X2 := Lib.hid (X1.out.below hb X1.out.lt)
  have HB2 := Lib.hid (HB1.out.trans ((hb).mono HB1.out.size))
  clear X1 HB1
  have hI2 := Lib.hid hr2.ints
  clear hb hg2 hr2 s0 s1
  go_wp2_with fail
  refine (HS.out g2 _ hI2.out).mono ?_
  rintro e w3 ⟨rfl, hb⟩
  have X3 := Lib.hid (X2.out.below hb X2.out.lt)
  have HB3 := Lib.hid (HB2.out.trans ((hb).mono HB2.out.size))
  clear X2 HB2
  clear hb hI2 hI1
  have hba : Below w3.heap.size w3 (w3.alloc (.cells #[.int .i64 m1, .int .i64 m2, .int .i64 m3] 27)) := (Below.refl _ w3).alloc (Nat.le_refl _) (.cells #[.int .i64 m1, .int .i64 m2, .int .i64 m3] 27)
  have hnew := Box.new w3 27 #[.int .i64 m1, .int .i64 m2, .int .i64 m3]
  have X4 := Lib.hid (X3.out.below hba X3.out.lt)
  have HB4 := Lib.hid (HB3.out.trans ((hba).mono HB3.out.size))
  clear X3 HB3
  have G0 := Lib.hid (hnew)
  clear hba hnew
  have hI3 := Lib.hid (hI.below HB4.out)
  obtain ⟨s0, s1, _, _⟩ := X4.out.two
  go_wp2_with fail
  generalize hW3 : w3.alloc (.cells #[.int .i64 m1, .int .i64 m2, .int .i64 m3] 27) = W3 at *
  clear hW3
  generalize w3.heap.size = g3 at *
  refine (toState_calls A n c p L _ HL.out hn hI3.out).mono ?_
  rintro e w4 ⟨g5, rfl, hg5, hr5, hb⟩
  have X5 := Lib.hid (X4.out.below hb X4.out.lt)
  have G1 := Lib.hid (G0.out.below hb G0.out.lt)
  have HB5 := Lib.hid (HB4.out.trans ((hb).mono HB4.out.size))
  clear X4 G0 HB4
  have R0 := Lib.hid (hr5.ints)
  clear hb hg5 hr5 s0 s1 hI3
  have hba : Below w4.heap.size w4 (w4.alloc (.cells #[.int .i64 p, .slice (some ⟨g5, 0, none⟩) n n] 30)) := (Below.refl _ w4).alloc (Nat.le_refl _) (.cells #[.int .i64 p, .slice (some ⟨g5, 0, none⟩) n n] 30)
  have hnew := Box.new w4 30 #[.int .i64 p, .slice (some ⟨g5, 0, none⟩) n n]
  have X6 := Lib.hid (X5.out.below hba X5.out.lt)
  have G2 := Lib.hid (G1.out.below hba G1.out.lt)
  have R1 := Lib.hid (R0.out.below hba)
  have HB6 := Lib.hid (HB5.out.trans ((hba).mono HB5.out.size))
  clear X5 G1 R0 HB5
  have U0 := Lib.hid (hnew)
  clear hba hnew
  obtain ⟨u0, u1, _, _⟩ := U0.out.two
  go_wp2_with fail
  generalize hW5 : w4.alloc (.cells #[.int .i64 p, .slice (some ⟨g5, 0, none⟩) n n] 30) = W5 at *
  clear hW5
  generalize w4.heap.size = g8 at *
  refine (HP.out g5 _ R1.out).mono ?_
  rintro e w6 ⟨rfl, hb⟩
  have X7 := Lib.hid (X6.out.below hb X6.out.lt)
  have G3 := Lib.hid (G2.out.below hb G2.out.lt)
  have R2 := Lib.hid (R1.out.below hb)
  have U1 := Lib.hid (U0.out.below hb U0.out.lt)
  have HB7 := Lib.hid (HB6.out.trans ((hb).mono HB6.out.size))
  clear X6 G2 R1 U0 HB6
  clear hb u0 u1
  have hba : Below w6.heap.size w6 (w6.alloc (.cells #[.int .i64 m1, .int .i64 m2, .int .i64 m3] 27)) := (Below.refl _ w6).alloc (Nat.le_refl _) (.cells #[.int .i64 m1, .int .i64 m2, .int .i64 m3] 27)
  have hnew := Box.new w6 27 #[.int .i64 m1, .int .i64 m2, .int .i64 m3]
  have X8 := Lib.hid (X7.out.below hba X7.out.lt)
  have G4 := Lib.hid (G3.out.below hba G3.out.lt)
  have R3 := Lib.hid (R2.out.below hba)
  have U2 := Lib.hid (U1.out.below hba U1.out.lt)
  have HB8 := Lib.hid (HB7.out.trans ((hba).mono HB7.out.size))
  clear X7 G3 R2 U1 HB7
  have F0 := Lib.hid (hnew)
  clear hba hnew
  obtain ⟨g0, g1, g2'⟩ := G4.out.three
  obtain ⟨f0, f1, f2⟩ := F0.out.three
  go_wp2_with fail
  generalize hW6 : w6.alloc (.cells #[.int .i64 m1, .int .i64 m2, .int .i64 m3] 27) = W6 at *
  clear hW6
  generalize w6.heap.size = g9 at *
  refine (eqMove_calls m1 m2 m3 m1 m2 m3 _).mono ?_
  rintro e w7 ⟨rfl, hb⟩
  have hm : mvEqB (m1, m2, m3) (m1, m2, m3) = true := by unfold mvEqB; simp
  rw [hm]
  have X9 := Lib.hid (X8.out.below hb X8.out.lt)
  have G5 := Lib.hid (G4.out.below hb G4.out.lt)
  have R4 := Lib.hid (R3.out.below hb)
  have U3 := Lib.hid (U2.out.below hb U2.out.lt)
  have F1 := Lib.hid (F0.out.below hb F0.out.lt)
  have HB9 := Lib.hid (HB8.out.trans ((hb).mono HB8.out.size))
  clear X8 G4 R3 U2 F0 HB8
  clear hb g0 g1 g2' f0 f1 f2 hm
  have hI7 := Lib.hid (hI.below HB9.out)
  have U7 := U3
  have X7 := X9
  have R7 := R4
  obtain ⟨u0, u1, s0, s1⟩ := cells22 U7.out X7.out
  have zu := U7.out.lt
  have zx := X7.out.lt
  go_wp2_with fail
  go_region_held3 (fun w' => w'.cell? ⟨g8, 0, none⟩ = some (.int .i64 p) ∧ w'.cell? ⟨g8, 1, none⟩ = some (.slice (some ⟨g5, 0, none⟩) n n) ∧ w'.cell? ⟨w.heap.size, 0, none⟩ = some (.int .i64 p) ∧ w'.cell? ⟨w.heap.size, 1, none⟩ = some (.slice A n c))
    (first | exact cells22 U7.out X7.out | exact cells22 U8.out X8.out | exact cells22 U9.out X9.out | go_keep)
    (first
    | (go_at_call 8; refine (toState_calls A n c p L _ HL.out hn ?_).mono ?_; (exact hI7.out); rintro e w8 ⟨gr, rfl, hgr, hr8, hb8⟩; have U8 := Lib.hid (Box.below U7.out (undrew hb8) zu); have X8 := Lib.hid (Box.below X7.out (undrew hb8) zx))
    | (go_at_call 11; refine (eqState_calls (some ⟨g5, 0, none⟩) (some ⟨gr, 0, none⟩) n n n n p p L L _ HL.out HL.out hn hn ?_ ?_).mono ?_; (exact R7.out.below (undrew hb8)); (exact hr8.ints); rintro e w9 ⟨rfl, hb9⟩; have U9 := Lib.hid (Box.below U8.out hb9 (Box.lt U8.out)); have X9 := Lib.hid (Box.below X8.out hb9 (Box.lt X8.out))))
  clear U8 X8 U9 X9 u0 u1 s0 s1 zu zx hr8 hgr U7 X7 R7
  have X10 := Lib.hid (X9.out.below (undrew hb8) X9.out.lt)
  have G6 := Lib.hid (G5.out.below (undrew hb8) G5.out.lt)
  have R5 := Lib.hid (R4.out.below (undrew hb8))
  have U4 := Lib.hid (U3.out.below (undrew hb8) U3.out.lt)
  have F2 := Lib.hid (F1.out.below (undrew hb8) F1.out.lt)
  have HB10 := Lib.hid (HB9.out.trans (((undrew hb8)).mono HB9.out.size))
  clear X9 G5 R4 U3 F1 HB9
  have X11 := Lib.hid (X10.out.below hb9 X10.out.lt)
  have G7 := Lib.hid (G6.out.below hb9 G6.out.lt)
  have R6 := Lib.hid (R5.out.below hb9)
  have U5 := Lib.hid (U4.out.below hb9 U4.out.lt)
  have F3 := Lib.hid (F2.out.below hb9 F2.out.lt)
  have HB11 := Lib.hid (HB10.out.trans ((hb9).mono HB10.out.size))
  clear X10 G6 R5 U4 F2 HB10
  clear hb8 hb9 hI7
  go_wp2
  go_ret
  exact ⟨rfl, HB11.out⟩

theorem walk (p : Int) (A : Option Addr) (n c : Nat) (L : List Int) (a1 : Int) (w : World) (w0 : (Lit.int .i64 p).wf = true) (hA : ArgInts w A n L) (w1 : (Lit.int .i64 a1).wf = true) :
    Calls Try.prog 3 #[.agg #[.int .i64 p, .slice A n c], .int .i64 a1] w fun e w' => e = .returned (.bool true) ∧ Below w.heap.size w w' := by
  obtain ⟨hL, hm, hI⟩ := hA
  by_cases hn : n ≤ 1048576
  · exact core p A n c L a1 (fmM p L a1).1 (fmM p L a1).2.1 (fmM p L a1).2.2 (fmE p L a1) w hL hn hI (fun g W hW => specFirstMove_ret ⟨g, 0, none⟩ n n p L a1 W hL hn hW) (fun g W hW => implFirstMove_ret ⟨g, 0, none⟩ n n p L a1 W hL hn hW)
  · have h0 := szI_no hn
    go_enter Try.func3, Try.ntmps3
    go_wp2_with fail
    refine (szState_calls A n c p 1048576 _ hm (by omega) (by omega)).mono ?_
    rintro e w1 ⟨rfl, hb1⟩
    have HB1 := Lib.hid (((Below.refl w.heap.size w).alloc (Nat.le_refl _) _).trans (hb1.mono (by simp)))
    clear hb1
    go_wp2
    go_ret
    exact ⟨rfl, HB1.out⟩

set_option maxRecDepth 100000 in
theorem lifted (os : Os) (started : os.Started) (H : Type) (enc : TypeId × Value → H) :
    ReturnsInHanded {} Try.checked os 3 .any (Rows.fnExactFirstMoveSpec.pre6 enc Try.prog Try.f3 Rows.fnExactFirstMoveRow.domain false) (Rows.fnExactFirstMoveSpec.post enc Try.prog Try.f3 false true false false) := by
  refine returnsInHanded_of_change (C := Try.checked) own started (by kernel_rfl) Try.func3
    (ChangeSpec.witness6 (enc := enc) (C := Try.checked) false ⟨#[], #[.agg #[.int .i64 0, .slice none 0 0], .int .i64 0], []⟩ 8 (by kernel_rfl) (by kernel_rfl) (by kernel_rfl) (by kernel_rfl)) ?_
  intro W base args ds gs before hval0 hW hcnd _
  have hval : ∀ (j : Nat) t v, Try.f3.params[j]? = some t → args[j]? = some v → Value.okWide Try.prog W .any base t v := hval0
  have hW' := hW
  obtain ⟨p, q, hA0, hV, rfl, hfz, hnd⟩ := hW
  have hA : DataW.TrodAll enc Try.prog W 0 (fun _ => true) true Try.f3.params.toList args.toList ds p := hA0
  rw [Try.params3] at hA hval
  obtain ⟨v0, vs0, d0, ds0, p0, q0, hargs, rfl, rfl, h0, r0⟩ := trodAll_cons hA
  obtain ⟨v1, vs1, d1, ds1, p1, q1, rfl, rfl, rfl, h1, r1⟩ := trodAll_cons r0
  obtain ⟨rfl, rfl, rfl⟩ := trodAll_nil r1
  obtain rfl : args = #[v0, v1] := by cases args; simp_all
  obtain ⟨rfl, rfl⟩ := trodVars_none hV
  have lt0 : ∀ x ∈ p0, x.block < W.heap.size := by obtain ⟨m, hm⟩ := h0; exact DataW.trod_lt m _ _ _ hm
  have k0 := h0
  obtain ⟨a0, A0, n0, c0, L0, rfl, w0, hAI0⟩ := open_state (hval 0 24 v0 rfl rfl) h0
  have lt1 : ∀ x ∈ p1, x.block < W.heap.size := by obtain ⟨m, hm⟩ := h1; exact DataW.trod_lt m _ _ _ hm
  have k1 := h1
  obtain ⟨a1, rfl, rfl, rfl, w1⟩ := open_int Try.underlying2 (hval 1 2 v1 rfl rfl) h1
  clear hA0 hval0
  refine (walk a0 A0 n0 c0 L0 a1 W w0 hAI0 w1).mono fun e W' ⟨he, bel⟩ => ?_
  subst he
  exact ⟨_, rfl, _, _, _, [], _, [], hW', trodAll_mk1 (shut_bool Try.underlying4 _), (trodAll_cons_mk (Below.trod laidOut (by kernel_rfl) (of_decide_eq_true (by kernel_rfl)) k0 bel lt0) (trodAll_cons_mk (Below.trod laidOut (by kernel_rfl) (of_decide_eq_true (by kernel_rfl)) k1 bel lt1) trodAll_mk0)), rfl, bel.frame _, fun h => by cases h⟩

theorem over : Rows.fnExactFirstMoveRow.holds Try.pinned (OpenSpec.ofChange Rows.fnExactFirstMoveSpec) :=
  OpenClaim.holds_of_wide 3 Try.f3 rfl rfl rfl rfl rfl rfl rfl ⟨rfl, rfl, rfl, rfl, rfl⟩ rfl rfl rfl rfl rfl (by kernel_rfl) Try.func3 (by kernel_rfl)
    (of_decide_eq_true (by kernel_rfl)) (by unfold Func.isWrapper; first | (rw [if_pos (by decide +kernel)]; kernel_rfl) | (rw [if_neg (by decide +kernel)]; exact ⟨rfl, rfl⟩))
    (fun os started H enc _ => lifted os started H enc)

theorem proved : Rows.FnExactFirstMoveSaid := over
#print axioms proved
end Go.Proofs.Ytmpmkhfbfaicpaa.fnExactFirstMove
