/- 'StateAt' of the program answers at every argument as the specification's model; what it answers is its own memory. Conditions: none. -/
import Derived.Test.YtfkifodojhpegaaOpen
import Derived.Test.YtfkifodojhpegaaMark
import Derived.Test.YtfkifodojhpegaaStAt
import Derived.Test.YtfkifodojhpegaaHeld
import Derived.Deep.RegionHeld3
namespace Go.Proofs.Ytfkifodojhpegaa.fnExactStateAt
open Go.ChangeShapes Go.WideShapes Go.ChangeAt Go.RowKit Go.Joins
open Go.ChangeMaps (open_string)
set_option linter.unusedVariables false

set_option maxHeartbeats 2000000 in
theorem core (a0 : Int) (a1 : Int) (P E : Int) (L : List Int) (n : Nat) (hn : n ≤ 1048576) (hL : L.length = n) (hspec : ∀ w, Calls Try.prog 7 #[.int .i64 a0, .int .i64 a1] w (RetState w P n L E)) (himpl : ∀ w, Calls Try.prog 8 #[.int .i64 a0, .int .i64 a1] w (RetState w P n L E)) (w : World) :
    Calls Try.prog 3 #[.int .i64 a0, .int .i64 a1] w fun e w' => e = .returned (.bool true) ∧ Below w.heap.size w w' := by
  have HS := Lib.hid hspec
  have HP := Lib.hid himpl
  have HL := Lib.hid hL
  clear hspec himpl hL
  go_enter Try.func3, Try.ntmps3
  go_wp2_with fail
  refine (HS.out _).mono ?_
  rintro e w1 ⟨A0, c0, rfl, hO1, hb1⟩
  have HO1 := Lib.hid hO1
  have HB1 := Lib.hid hb1
  have z1 := hb1.size
  clear hO1 hb1
  go_wp2_with fail
  refine (HP.out _).mono ?_
  rintro e w2 ⟨A1, c1, rfl, hO2, hb2⟩
  have HX2 : Hid (Box w2 w1.heap.size 24 #[.int .i64 P, .slice A0 n c0]) := (Box.new w1 _ _).below hb2 (by simp)
  have HO2 := Lib.hid hO2
  have HO1_2 := Lib.hid ((HO1.out.below ((Below.refl _ _).alloc (Nat.le_refl _) _)).below hb2)
  have HB2 := Lib.hid (HB1.out.trans (((Below.refl _ w1).alloc z1 _).trans (hb2.mono (by simp; omega))))
  have z2 : w1.heap.size + 1 ≤ w2.heap.size := by have := hb2.size; simpa using this
  clear hO2 hb2
  obtain ⟨x0, x1, _, _⟩ := (HX2.out.alloc (.cells #[.int .i64 P, .slice A1 n c1] 24)).two
  go_wp2_with fail
  refine (eqState_calls A1 A0 n c1 n c0 P P L L _ HL.out HL.out hn hn (HO2.out.ints.below ((Below.refl _ _).alloc (Nat.le_refl _) _)) (HO1_2.out.ints.below ((Below.refl _ _).alloc (Nat.le_refl _) _))).mono ?_
  rintro e w3 ⟨rfl, hb3⟩
  have hb3' : Below w2.heap.size w2 w3 := ((Below.refl _ w2).alloc (Nat.le_refl _) _).trans (hb3.mono (by simp))
  have HX3 := Lib.hid (HX2.out.below hb3' (by omega))
  have HY3 : Hid (Box w3 w2.heap.size 24 #[.int .i64 P, .slice A1 n c1]) := (Box.new w2 _ _).below hb3 (by simp)
  have HO1_3 := Lib.hid (HO1_2.out.below hb3')
  have HO2_3 := Lib.hid (HO2.out.below hb3')
  have HB3 := Lib.hid (HB2.out.trans (hb3'.mono (by omega)))
  have z3 : w2.heap.size + 1 ≤ w3.heap.size := by have := hb3.size; simpa using this
  clear hb3 hb3' x0 x1
  obtain ⟨x0, x1, _, _⟩ := HX3.out.two
  obtain ⟨y0, y1, _, _⟩ := HY3.out.two
  go_wp2_with fail
  refine (markState_calls _ A1 n c1 P L 1 _ HO2_3.out hn (by omega) (by omega)).mono ?_
  rintro e w4 ⟨rfl, hO4, hg4⟩
  have HX4 := Lib.hid (HX3.out.grown hg4 (HO2_3.out.box_ne HX3.out (by decide)))
  have HY4 := Lib.hid (HY3.out.grown hg4 (HO2_3.out.box_ne HY3.out (by decide)))
  have HO1_4 := Lib.hid (HO1_3.out.kept hg4 (own_apart HO1.out HO2.out (by simp)))
  have HO4 := Lib.hid hO4
  have HB4 := Lib.hid (HB3.out.grown hg4 (by omega) (fun k hk => by have := own_bk HO2.out k hk; simp at this; omega))
  have z4 := hg4.size
  clear hO4 hg4 x0 x1 y0 y1
  obtain ⟨x0, x1, _, _⟩ := HX4.out.two
  obtain ⟨y0, y1, _, _⟩ := HY4.out.two
  go_wp2_with fail
  refine (heldState_calls A1 n c1 P 1 _ HO4.out.ints hn (by omega) (by omega)).mono ?_
  rintro e w5 ⟨rfl, hb5⟩
  have HX5 := Lib.hid (HX4.out.below hb5 (by omega))
  have HY5 := Lib.hid (HY4.out.below hb5 (by omega))
  have HO1_5 := Lib.hid (HO1_4.out.below hb5)
  have HO5 := Lib.hid (HO4.out.below hb5)
  have HB5 := Lib.hid (HB4.out.trans (hb5.mono (by omega)))
  have z5 := hb5.size
  clear hb5 x0 x1 y0 y1
  go_wp2_with fail
  refine (HP.out _).mono ?_
  rintro e w6 ⟨A6, c6, rfl, hO6, hb6⟩
  have HX6 := Lib.hid (HX5.out.below hb6 (by omega))
  have HY6 := Lib.hid (HY5.out.below hb6 (by omega))
  have HO1_6 := Lib.hid (HO1_5.out.below hb6)
  have HO5_6 := Lib.hid (HO5.out.below hb6)
  have HO6 := Lib.hid hO6
  have HB6 := Lib.hid (HB5.out.trans (hb6.mono (by omega)))
  have z6 := hb6.size
  clear hb6 hO6
  obtain ⟨x0, x1, _, _⟩ := (HX6.out.alloc (.cells #[.int .i64 P, .slice A6 n c6] 24)).two
  go_wp2_with fail
  refine (eqState_calls A6 A0 n c6 n c0 P P L L _ HL.out HL.out hn hn (HO6.out.ints.below ((Below.refl _ _).alloc (Nat.le_refl _) _)) (HO1_6.out.ints.below ((Below.refl _ _).alloc (Nat.le_refl _) _))).mono ?_
  rintro e w7 ⟨rfl, hb7⟩
  have hb7' : Below w6.heap.size w6 w7 := ((Below.refl _ w6).alloc (Nat.le_refl _) _).trans (hb7.mono (by simp))
  have HY7 := Lib.hid (HY6.out.below hb7' (by omega))
  have HO7 := Lib.hid (HO5_6.out.below hb7')
  have HB7 := Lib.hid (HB6.out.trans (hb7'.mono (by omega)))
  have z7 := hb7'.size
  clear hb7 hb7' x0 x1
  obtain ⟨y0, y1, _, _⟩ := HY7.out.two
  go_wp2_with fail
  refine (heldState_calls A1 n c1 P 1 _ HO7.out.ints hn (by omega) (by omega)).mono ?_
  rintro e w8 ⟨rfl, hb8⟩
  have HB8 := Lib.hid (HB7.out.trans (hb8.mono (by omega)))
  clear hb8 y0 y1
  go_wp2
  go_ret
  exact ⟨rfl, HB8.out⟩

theorem walk (a0 : Int) (a1 : Int) (w : World) (w0 : (Lit.int .i64 a0).wf = true) (w1 : (Lit.int .i64 a1).wf = true) :
    Calls Try.prog 3 #[.int .i64 a0, .int .i64 a1] w fun e w' => e = .returned (.bool true) ∧ Below w.heap.size w w' :=
  core a0 a1 (staP a0 a1) (staE a0 a1) (staL a0 a1) (staL a0 a1).length (by first | rfl | (have := staL_len a0 a1; omega)) (by first | rfl | (have := staL_len a0 a1; omega)) (fun W => specStateAt_ret a0 a1 W) (fun W => implStateAt_ret a0 a1 W) w

set_option maxRecDepth 100000 in
theorem lifted (os : Os) (started : os.Started) (H : Type) (enc : TypeId × Value → H) :
    ReturnsInHanded {} Try.checked os 3 .any (Rows.fnExactStateAtSpec.pre6 enc Try.prog Try.f3 Rows.fnExactStateAtRow.domain false) (Rows.fnExactStateAtSpec.post enc Try.prog Try.f3 false true false false) := by
  refine returnsInHanded_of_change (C := Try.checked) own started (by kernel_rfl) Try.func3
    (ChangeSpec.witness6 (enc := enc) (C := Try.checked) false ⟨#[], #[.int .i64 0, .int .i64 0], []⟩ 8 (by kernel_rfl) (by kernel_rfl) (by kernel_rfl) (by kernel_rfl)) ?_
  intro W base args ds gs before hval0 hW hcnd _
  have hval : ∀ (j : Nat) t v, Try.f3.params[j]? = some t → args[j]? = some v → Value.okWide Try.prog W .any base t v := hval0
  have hW' := hW
  obtain ⟨p, q, hA0, hV, rfl, hfz, hnd⟩ := hW
  have hA : DataW.TrodAll enc Try.prog W 0 (fun _ => true) true Try.f3.params.toList args.toList ds p := hA0
  rw [Try.params3] at hA hval
  obtain ⟨v0, vs0, d0, ds0, p0, q0, hargs, rfl, rfl, h0, r0⟩ := trodAll_cons hA
  obtain ⟨v1, vs1, d1, ds1, p1, q1, rfl, rfl, rfl, h1, r1⟩ := trodAll_cons r0
  obtain ⟨rfl, rfl, rfl⟩ := trodAll_nil r1
  obtain rfl : args = #[v0, v1] := by cases args; simp_all
  obtain ⟨rfl, rfl⟩ := trodVars_none hV
  have lt0 : ∀ x ∈ p0, x.block < W.heap.size := by obtain ⟨m, hm⟩ := h0; exact DataW.trod_lt m _ _ _ hm
  have k0 := h0
  obtain ⟨a0, rfl, rfl, rfl, w0⟩ := open_int Try.underlying2 (hval 0 2 v0 rfl rfl) h0
  have lt1 : ∀ x ∈ p1, x.block < W.heap.size := by obtain ⟨m, hm⟩ := h1; exact DataW.trod_lt m _ _ _ hm
  have k1 := h1
  obtain ⟨a1, rfl, rfl, rfl, w1⟩ := open_int Try.underlying2 (hval 1 2 v1 rfl rfl) h1
  clear hA0 hval0
  refine (walk a0 a1 W w0 w1).mono fun e W' ⟨he, bel⟩ => ?_
  subst he
  exact ⟨_, rfl, _, _, _, [], _, [], hW', trodAll_mk1 (shut_bool Try.underlying4 _), (trodAll_cons_mk (Below.trod laidOut (by kernel_rfl) (of_decide_eq_true (by kernel_rfl)) k0 bel lt0) (trodAll_cons_mk (Below.trod laidOut (by kernel_rfl) (of_decide_eq_true (by kernel_rfl)) k1 bel lt1) trodAll_mk0)), rfl, bel.frame _, fun h => by cases h⟩

theorem over : Rows.fnExactStateAtRow.holds Try.pinned (OpenSpec.ofChange Rows.fnExactStateAtSpec) :=
  OpenClaim.holds_of_wide 3 Try.f3 rfl rfl rfl rfl rfl rfl rfl ⟨rfl, rfl, rfl, rfl, rfl⟩ rfl rfl rfl rfl rfl (by kernel_rfl) Try.func3 (by kernel_rfl)
    (of_decide_eq_true (by kernel_rfl)) (by unfold Func.isWrapper; first | (rw [if_pos (by decide +kernel)]; kernel_rfl) | (rw [if_neg (by decide +kernel)]; exact ⟨rfl, rfl⟩))
    (fun os started H enc _ => lifted os started H enc)

theorem proved : Rows.FnExactStateAtSaid := over
#print axioms proved
end Go.Proofs.Ytfkifodojhpegaa.fnExactStateAt
