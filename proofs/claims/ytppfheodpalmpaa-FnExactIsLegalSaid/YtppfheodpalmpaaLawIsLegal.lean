/- 'IsLegal' of the program answers at every argument as the specification's model, and leaves its arguments as they were. Conditions: none. -/
import Derived.Test.YtppfheodpalmpaaOpen
import Derived.Test.YtppfheodpalmpaaOpenMove
import Derived.Test.YtppfheodpalmpaaLegal
import Derived.Deep.RegionHeld3
namespace Go.Proofs.Ytppfheodpalmpaa.fnExactIsLegal
open Go.ChangeShapes Go.WideShapes Go.ChangeAt Go.RowKit Go.Joins
set_option linter.unusedVariables false

theorem szI_no {n : Nat} (h : ¬ n ≤ 1048576) : szI n 1048576 = -1 := by unfold szI; omega
theorem szI_yes {n : Nat} (h : n ≤ 1048576) : 0 ≤ szI n 1048576 := by unfold szI; omega

set_option maxHeartbeats 2000000 in
theorem walk (p : Int) (A : Option Addr) (n c : Nat) (L : List Int) (d f t : Int) (w : World) (w0 : (Lit.int .i64 p).wf = true) (hA : ArgInts w A n L) (wx : (Lit.int .i64 d).wf = true) (wy : (Lit.int .i64 f).wf = true) (wz : (Lit.int .i64 t).wf = true) :
    Calls Try.prog 4 #[.agg #[.int .i64 p, .slice A n c], .agg #[.int .i64 d, .int .i64 f, .int .i64 t]] w fun e w' => e = .returned (.bool true) ∧ Below w.heap.size w w' := by
  obtain ⟨hL, hm, hI⟩ := hA
  have hbS : Box ((w.alloc (.cells #[.int .i64 p, .slice A n c] 24)).alloc (.cells #[.int .i64 d, .int .i64 f, .int .i64 t] 37)) w.heap.size 24 #[.int .i64 p, .slice A n c] := (Box.new _ _ _).alloc _
  have hbM : Box ((w.alloc (.cells #[.int .i64 p, .slice A n c] 24)).alloc (.cells #[.int .i64 d, .int .i64 f, .int .i64 t] 37)) (w.heap.size + 1) 37 #[.int .i64 d, .int .i64 f, .int .i64 t] := by
    have := Box.new (w.alloc (.cells #[.int .i64 p, .slice A n c] 24)) 37 #[.int .i64 d, .int .i64 f, .int .i64 t]
    rwa [World.size_alloc] at this
  have hb0 : Below w.heap.size w ((w.alloc (.cells #[.int .i64 p, .slice A n c] 24)).alloc (.cells #[.int .i64 d, .int .i64 f, .int .i64 t] 37)) := ((Below.refl _ _).alloc (Nat.le_refl _) _).alloc (by simp) _
  have X0 := Lib.hid hbS
  have Y0 := Lib.hid hbM
  have HB0 := Lib.hid hb0
  clear hbS hbM hb0
  by_cases hn : n ≤ 1048576
  · have h0 := szI_yes hn
    have HL := Lib.hid hL
    clear hL
    go_enter Try.func4, Try.ntmps4
    go_wp2_with fail
    refine (szState_calls A n c p 1048576 _ hm (by omega) (by omega)).mono ?_
    rintro e w1 ⟨rfl, hb1⟩
    have X1 := Lib.hid (X0.out.below hb1 (by simp; omega))
    have Y1 := Lib.hid (Y0.out.below hb1 (by simp))
    have HB1 := Lib.hid (HB0.out.trans (hb1.mono (by simp; omega)))
    clear hb1
    have hI1 := Lib.hid (hI.below HB1.out)
    obtain ⟨s0, s1, m0, m1, m2⟩ := cells23 X1.out Y1.out
    have zx1 := X1.out.lt
    have zy1 := Y1.out.lt
    go_wp2_with fail
    go_region_held3 (fun w' => w'.cell? ⟨w.heap.size, 0, none⟩ = some (.int .i64 p) ∧ w'.cell? ⟨w.heap.size, 1, none⟩ = some (.slice A n c) ∧ w'.cell? ⟨w.heap.size + 1, 0, none⟩ = some (.int .i64 d) ∧ w'.cell? ⟨w.heap.size + 1, 1, none⟩ = some (.int .i64 f) ∧ w'.cell? ⟨w.heap.size + 1, 2, none⟩ = some (.int .i64 t))
      (first | exact cells23 X1.out Y1.out | exact cells23 X2.out Y2.out | exact cells23 X3.out Y3.out | exact cells23 X4.out Y4.out | go_keep)
      (first
      | (go_at_call 10; refine (toState_calls A n c p L _ HL.out hn ?_).mono ?_; (exact hI1.out); rintro e w2 ⟨g2, rfl, hg2, hr2, hb2⟩; have X2 := Lib.hid (Box.below X1.out (undrew hb2) zx1); have Y2 := Lib.hid (Box.below Y1.out (undrew hb2) zy1))
      | (go_at_call 18; refine (toMove_calls d f t _).mono ?_; rintro e w3 ⟨rfl, hb3⟩; have X3 := Lib.hid (Box.below X2.out hb3 (Box.lt X2.out)); have Y3 := Lib.hid (Box.below Y2.out hb3 (Box.lt Y2.out)))
      | (go_at_call 17; refine (specIsLegal_calls (some ⟨g2, 0, none⟩) n n p L d f t _ HL.out hn ?_ (Nat.le_refl _)).mono ?_; (exact hr2.ints.below hb3); rintro e w4 ⟨rfl, hb4⟩; have X4 := Lib.hid (Box.below X3.out hb4 (Box.lt X3.out)); have Y4 := Lib.hid (Box.below Y3.out hb4 (Box.lt Y3.out))))
    have q2 := Below.size hb2
    have q3 := Below.size hb3
    have hsz1 := HB1.out.size
    have HB4 := Lib.hid (((HB1.out.trans ((undrew hb2).mono hsz1)).trans (hb3.mono (Nat.le_trans hsz1 q2))).trans (hb4.mono (Nat.le_trans hsz1 (Nat.le_trans q2 q3))))
    clear hb2 hb3 hb4 hr2 hg2 q2 q3 s0 s1 m0 m1 m2 X1 Y1 X2 Y2 X3 Y3
    have hI4 := hI.below HB4.out
    obtain ⟨s0, s1, _, _, _⟩ := cells23 X4.out Y4.out
    go_wp2_with fail
    refine (toState_calls A n c p L _ HL.out hn hI4).mono ?_
    rintro e w5 ⟨g5, rfl, hg5, hr5, hb5⟩
    have X5 := Lib.hid ((X4.out.below hb5 X4.out.lt).alloc (.cells #[.int .i64 p, .slice (some ⟨g5, 0, none⟩) n n] 29))
    have Y5 := Lib.hid ((Y4.out.below hb5 Y4.out.lt).alloc (.cells #[.int .i64 p, .slice (some ⟨g5, 0, none⟩) n n] 29))
    have U5 := Lib.hid (Box.new w5 29 #[.int .i64 p, .slice (some ⟨g5, 0, none⟩) n n])
    have R5 := Lib.hid (hr5.below ((Below.refl _ _).alloc (Nat.le_refl _) (.cells #[.int .i64 p, .slice (some ⟨g5, 0, none⟩) n n] 29)))
    have HB5 := Lib.hid ((HB4.out.trans (hb5.mono HB4.out.size)).alloc (Nat.le_trans HB4.out.size hb5.size) (.cells #[.int .i64 p, .slice (some ⟨g5, 0, none⟩) n n] 29))
    clear hr5 hb5 s0 s1
    obtain ⟨u0, u1, m0, m1, m2⟩ := cells23 U5.out Y5.out
    have zu := U5.out.lt
    have zx := X5.out.lt
    have zy := Y5.out.lt
    go_wp2_with fail
    generalize hW5 : w5.alloc (.cells #[.int .i64 p, .slice (some ⟨g5, 0, none⟩) n n] 29) = W5 at *
    clear hW5
    go_region_held3 (fun w' => w'.cell? ⟨w5.heap.size, 0, none⟩ = some (.int .i64 p) ∧ w'.cell? ⟨w5.heap.size, 1, none⟩ = some (.slice (some ⟨g5, 0, none⟩) n n) ∧ w'.cell? ⟨w.heap.size + 1, 0, none⟩ = some (.int .i64 d) ∧ w'.cell? ⟨w.heap.size + 1, 1, none⟩ = some (.int .i64 f) ∧ w'.cell? ⟨w.heap.size + 1, 2, none⟩ = some (.int .i64 t))
      (first | exact cells23 U5.out Y5.out | exact cells23 U6.out Y6.out | exact cells23 U7.out Y7.out | go_keep)
      (first
      | (go_at_call 18; refine (toMove_calls d f t _).mono ?_; rintro e w6 ⟨rfl, hb6⟩; have U6 := Lib.hid (Box.below U5.out (undrew hb6) zu); have Y6 := Lib.hid (Box.below Y5.out (undrew hb6) zy); have X6 := Lib.hid (Box.below X5.out (undrew hb6) zx))
      | (go_at_call 19; refine (implIsLegal_calls (some ⟨g5, 0, none⟩) n n p L d f t _ HL.out hn ?_ (Nat.le_refl _) hn).mono ?_; (exact R5.out.ints.below (undrew hb6)); rintro e w7 ⟨rfl, hb7⟩; have U7 := Lib.hid (Box.below U6.out hb7 (Box.lt U6.out)); have Y7 := Lib.hid (Box.below Y6.out hb7 (Box.lt Y6.out)); have X7 := Lib.hid (Box.below X6.out hb7 (Box.lt X6.out))))
    have q6 := Below.size hb6
    have HB7 := Lib.hid ((HB5.out.trans ((undrew hb6).mono HB5.out.size)).trans (hb7.mono (Nat.le_trans HB5.out.size q6)))
    have R7 := Lib.hid ((R5.out.below (undrew hb6)).below hb7)
    clear hb6 hb7 q6 u0 u1 m0 m1 m2 U5 Y5 X5 U6 Y6 X6 zu zx zy R5
    have hI7 := Lib.hid (hI.below HB7.out)
    obtain ⟨u0, u1, s0, s1⟩ := cells22 U7.out X7.out
    have zu := U7.out.lt
    have zx := X7.out.lt
    go_wp2_with fail
    go_region_held3 (fun w' => w'.cell? ⟨w5.heap.size, 0, none⟩ = some (.int .i64 p) ∧ w'.cell? ⟨w5.heap.size, 1, none⟩ = some (.slice (some ⟨g5, 0, none⟩) n n) ∧ w'.cell? ⟨w.heap.size, 0, none⟩ = some (.int .i64 p) ∧ w'.cell? ⟨w.heap.size, 1, none⟩ = some (.slice A n c))
      (first | exact cells22 U7.out X7.out | exact cells22 U8.out X8.out | exact cells22 U9.out X9.out | go_keep)
      (first
      | (go_at_call 10; refine (toState_calls A n c p L _ HL.out hn ?_).mono ?_; (exact hI7.out); rintro e w8 ⟨g8, rfl, hg8, hr8, hb8⟩; have U8 := Lib.hid (Box.below U7.out (undrew hb8) zu); have X8 := Lib.hid (Box.below X7.out (undrew hb8) zx))
      | (go_at_call 13; refine (eqState_calls (some ⟨g5, 0, none⟩) (some ⟨g8, 0, none⟩) n n n n p p L L _ HL.out HL.out hn hn ?_ ?_).mono ?_; (exact R7.out.ints.below (undrew hb8)); (exact hr8.ints); rintro e w9 ⟨rfl, hb9⟩; have U9 := Lib.hid (Box.below U8.out hb9 (Box.lt U8.out)); have X9 := Lib.hid (Box.below X8.out hb9 (Box.lt X8.out))))
    have q8 := Below.size hb8
    have HB9 := Lib.hid ((HB7.out.trans ((undrew hb8).mono HB7.out.size)).trans (hb9.mono (Nat.le_trans HB7.out.size q8)))
    clear hb8 hb9 q8 u0 u1 s0 s1
    go_wp2
    go_ret
    exact ⟨rfl, HB9.out⟩
  · have h0 := szI_no hn
    go_enter Try.func4, Try.ntmps4
    go_wp2_with fail
    refine (szState_calls A n c p 1048576 _ hm (by omega) (by omega)).mono ?_
    rintro e w1 ⟨rfl, hb1⟩
    have HB1 := Lib.hid (HB0.out.trans (hb1.mono (by simp; omega)))
    clear hb1
    go_wp2
    go_ret
    exact ⟨rfl, HB1.out⟩

set_option maxRecDepth 100000 in
theorem lifted (os : Os) (started : os.Started) (H : Type) (enc : TypeId × Value → H) :
    ReturnsInHanded {} Try.checked os 4 .any (Rows.fnExactIsLegalSpec.pre6 enc Try.prog Try.f4 Rows.fnExactIsLegalRow.domain false) (Rows.fnExactIsLegalSpec.post enc Try.prog Try.f4 false true false false) := by
  refine returnsInHanded_of_change (C := Try.checked) own started (by kernel_rfl) Try.func4
    (ChangeSpec.witness6 (enc := enc) (C := Try.checked) false ⟨#[], #[.agg #[.int .i64 0, .slice none 0 0], .agg #[.int .i64 0, .int .i64 0, .int .i64 0]], []⟩ 8 (by kernel_rfl) (by kernel_rfl) (by kernel_rfl) (by kernel_rfl)) ?_
  intro W base args ds gs before hval0 hW hcnd _
  have hval : ∀ (j : Nat) t v, Try.f4.params[j]? = some t → args[j]? = some v → Value.okWide Try.prog W .any base t v := hval0
  have hW' := hW
  obtain ⟨p, q, hA0, hV, rfl, hfz, hnd⟩ := hW
  have hA : DataW.TrodAll enc Try.prog W 0 (fun _ => true) true Try.f4.params.toList args.toList ds p := hA0
  rw [Try.params4] at hA hval
  obtain ⟨v0, vs0, d0, ds0, p0, q0, hargs, rfl, rfl, h0, r0⟩ := trodAll_cons hA
  obtain ⟨v1, vs1, d1, ds1, p1, q1, rfl, rfl, rfl, h1, r1⟩ := trodAll_cons r0
  obtain ⟨rfl, rfl, rfl⟩ := trodAll_nil r1
  obtain rfl : args = #[v0, v1] := by cases args; simp_all
  obtain ⟨rfl, rfl⟩ := trodVars_none hV
  have lt0 : ∀ x ∈ p0, x.block < W.heap.size := by obtain ⟨m, hm⟩ := h0; exact DataW.trod_lt m _ _ _ hm
  have k0 := h0
  obtain ⟨a0, A0, n0, c0, L0, rfl, w0, hAI0⟩ := open_state (hval 0 24 v0 rfl rfl) h0
  have lt1 : ∀ x ∈ p1, x.block < W.heap.size := by obtain ⟨m, hm⟩ := h1; exact DataW.trod_lt m _ _ _ hm
  have k1 := h1
  obtain ⟨x1, y1, z1, rfl, wx1, wy1, wz1⟩ := open_move (hval 1 37 v1 rfl rfl) h1
  clear hA0 hval0
  refine (walk a0 A0 n0 c0 L0 x1 y1 z1 W w0 hAI0 wx1 wy1 wz1).mono fun e W' ⟨he, bel⟩ => ?_
  subst he
  exact ⟨_, rfl, _, _, _, [], _, [], hW', trodAll_mk1 (shut_bool Try.underlying4 _), (trodAll_cons_mk (Below.trod laidOut (by kernel_rfl) (of_decide_eq_true (by kernel_rfl)) k0 bel lt0) (trodAll_cons_mk (Below.trod laidOut (by kernel_rfl) (of_decide_eq_true (by kernel_rfl)) k1 bel lt1) trodAll_mk0)), rfl, bel.frame _, fun h => by cases h⟩

theorem over : Rows.fnExactIsLegalRow.holds Try.pinned (OpenSpec.ofChange Rows.fnExactIsLegalSpec) :=
  OpenClaim.holds_of_wide 4 Try.f4 rfl rfl rfl rfl rfl rfl rfl ⟨rfl, rfl, rfl, rfl, rfl⟩ rfl rfl rfl rfl rfl (by kernel_rfl) Try.func4 (by kernel_rfl)
    (of_decide_eq_true (by kernel_rfl)) (by unfold Func.isWrapper; first | (rw [if_pos (by decide +kernel)]; kernel_rfl) | (rw [if_neg (by decide +kernel)]; exact ⟨rfl, rfl⟩))
    (fun os started H enc _ => lifted os started H enc)

theorem proved : Rows.FnExactIsLegalSaid := over
#print axioms proved
end Go.Proofs.Ytppfheodpalmpaa.fnExactIsLegal
