/- Words for rules: nine numbers; the laws' own copies and comparisons of them. -/
import Derived.Test.YtekakcpjfjmejaaBase
import Derived.Test.YtekakcpjfjmejaaProg
import Derived.Handy
import Derived.BigQuiet
import Derived.StillTailTactics
namespace Go.Proofs.Ytekakcpjfjmejaa
open Go.RowKit
set_option linter.unusedVariables false

/-- Three and nine cells of integers. -/
def z3 (r : Nat → Int) (k : Nat) : Array Value := #[.int .i64 (r k), .int .i64 (r (k + 1)), .int .i64 (r (k + 2))]
def z9 (r : Nat → Int) : Array Value := #[.int .i64 (r 0), .int .i64 (r 1), .int .i64 (r 2), .int .i64 (r 3), .int .i64 (r 4), .int .i64 (r 5), .int .i64 (r 6), .int .i64 (r 7), .int .i64 (r 8)]

/-- The world behind a copied row: three blocks more. -/
def w3 (w : World) (a b c : Int) : World := ((w.alloc (.cells #[.int .i64 a, .int .i64 b, .int .i64 c] 22)).alloc (.cells #[.int .i64 a, .int .i64 b, .int .i64 c] 22)).alloc (.cells #[.int .i64 a, .int .i64 b, .int .i64 c] 22)

set_option maxRecDepth 100000 in
theorem toInt64A3_calls (a b c : Int) (w : World) :
    Calls Try.prog 26 #[.agg #[.int .i64 a, .int .i64 b, .int .i64 c]] w fun e w' => e = .returned (.agg #[.int .i64 a, .int .i64 b, .int .i64 c]) ∧ w' = w3 w a b c := by
  go_enter Try.func26, Try.ntmps26
  go_wp2
  go_rounds 4
  go_returns
  exact ⟨rfl, rfl⟩

set_option maxRecDepth 100000 in
theorem toRules_calls (r : Nat → Int) (w : World) :
    Calls Try.prog 10 #[.agg (z9 r)] w fun e w' => e = .returned (.agg (z9 r)) ∧ Below w.heap.size w w' := by
  unfold z9
  generalize r 0 = a0
  generalize r 1 = a1
  generalize r 2 = a2
  generalize r 3 = a3
  generalize r 4 = a4
  generalize r 5 = a5
  generalize r 6 = a6
  generalize r 7 = a7
  generalize r 8 = a8
  go_enter Try.func10, Try.ntmps10
  go_wp2
  refine wp_loop_rounds 4 ?_
  rw [rounds_succ]
  go_wp2_with (refine (toInt64A3_calls _ _ _ _).mono ?_; rintro e w' ⟨rfl, rfl⟩; dsimp only [w3])
  rw [rounds_succ]
  go_wp2_with (refine (toInt64A3_calls _ _ _ _).mono ?_; rintro e w' ⟨rfl, rfl⟩; dsimp only [w3])
  rw [rounds_succ]
  go_wp2_with (refine (toInt64A3_calls _ _ _ _).mono ?_; rintro e w' ⟨rfl, rfl⟩; dsimp only [w3])
  rw [rounds_succ]
  go_wp2
  go_returns
  exact ⟨rfl, by go_grown⟩

set_option maxRecDepth 100000 in
theorem eqInt64A3_same (a b c : Int) (w : World) :
    Calls Try.prog 28 #[.agg #[.int .i64 a, .int .i64 b, .int .i64 c], .agg #[.int .i64 a, .int .i64 b, .int .i64 c]] w fun e w' => e = .returned (.bool true) ∧ ∃ m, w' = ((w.alloc (.cells #[.int .i64 a, .int .i64 b, .int .i64 c] 22)).alloc (.cells #[.int .i64 a, .int .i64 b, .int .i64 c] 22)).drewN m := by
  go_enter Try.func28, Try.ntmps28
  go_wp2
  refine wp_loop_rounds 4 ?_
  rw [rounds_succ]
  go_wp2_with fail
  go_quiet (fail)
  go_wp2
  rw [rounds_succ]
  go_wp2_with fail
  go_quiet (fail)
  go_wp2
  rw [rounds_succ]
  go_wp2_with fail
  go_quiet (fail)
  go_wp2
  rw [rounds_succ]
  go_wp2
  go_returns
  exact ⟨rfl, _, rfl⟩

theorem Box.nine {w : World} {b t : Nat} {r : Nat → Int} (h : Box w b t (z9 r)) : w.cell? ⟨b, 0, none⟩ = some (.int .i64 (r 0)) ∧ w.cell? ⟨b, 1, none⟩ = some (.int .i64 (r 1)) ∧ w.cell? ⟨b, 2, none⟩ = some (.int .i64 (r 2)) ∧ w.cell? ⟨b, 3, none⟩ = some (.int .i64 (r 3)) ∧ w.cell? ⟨b, 4, none⟩ = some (.int .i64 (r 4)) ∧ w.cell? ⟨b, 5, none⟩ = some (.int .i64 (r 5)) ∧ w.cell? ⟨b, 6, none⟩ = some (.int .i64 (r 6)) ∧ w.cell? ⟨b, 7, none⟩ = some (.int .i64 (r 7)) ∧ w.cell? ⟨b, 8, none⟩ = some (.int .i64 (r 8)) :=
  ⟨by simpa [z9] using h.cell 0, by simpa [z9] using h.cell 1, by simpa [z9] using h.cell 2, by simpa [z9] using h.cell 3, by simpa [z9] using h.cell 4, by simpa [z9] using h.cell 5, by simpa [z9] using h.cell 6, by simpa [z9] using h.cell 7, by simpa [z9] using h.cell 8⟩

theorem eqInt64A3_same' (a b c : Int) (w : World) :
    Calls Try.prog 28 #[.agg #[.int .i64 a, .int .i64 b, .int .i64 c], .agg #[.int .i64 a, .int .i64 b, .int .i64 c]] w fun e w' => e = .returned (.bool true) ∧ Below w.heap.size w w' :=
  (eqInt64A3_same a b c w).mono fun _ _ ⟨he, m, hw⟩ => ⟨he, by rw [hw]; exact belowDraws (((Below.refl _ _).alloc (Nat.le_refl _) _).alloc (by simp) _) _⟩

set_option maxRecDepth 100000 in
theorem eqRules_same (r : Nat → Int) (w : World) :
    Calls Try.prog 14 #[.agg (z9 r), .agg (z9 r)] w fun e w' => e = .returned (.bool true) ∧ Below w.heap.size w w' := by
  have X0 := Lib.hid ((Box.new w 25 (z9 r)).alloc (.cells (z9 r) 25))
  have Y0 : Hid (Box ((w.alloc (.cells (z9 r) 25)).alloc (.cells (z9 r) 25)) (w.heap.size + 1) 25 (z9 r)) := by
    have := Box.new (w.alloc (.cells (z9 r) 25)) 25 (z9 r)
    rw [World.size_alloc] at this
    exact this
  have B0 : Hid (Below w.heap.size w ((w.alloc (.cells (z9 r) 25)).alloc (.cells (z9 r) 25))) := ((Below.refl _ _).alloc (Nat.le_refl _) _).alloc (by simp) _
  go_enter Try.func14, Try.ntmps14
  go_wp2
  generalize ((w.alloc (.cells (z9 r) 25)).alloc (.cells (z9 r) 25)) = wa at *
  refine wp_loop_rounds 4 ?_
  rw [rounds_succ]
  obtain ⟨x0, x1, x2, x3, x4, x5, x6, x7, x8⟩ := X0.out.nine
  obtain ⟨y0, y1, y2, y3, y4, y5, y6, y7, y8⟩ := Y0.out.nine
  have X := Lib.hid (X0.out.draws 1)
  have Y := Lib.hid (Y0.out.draws 1)
  have BB := Lib.hid B0.out.drew
  go_wp2_with fail
  refine wp_region_still_tail 6 (by kernel_rfl) (by kernel_rfl) ?_
  simp only [List.take_succ_cons, List.take_zero, List.drop_succ_cons, List.drop_zero]
  change wpStill _ _ (World.drew _) _ _ _
  repeat still_step
  refine wpStill_nil ?_
  go_wp2_with (refine (eqInt64A3_same' _ _ _ _).mono ?_; rintro e w1 ⟨rfl, hb⟩; have X1 := Lib.hid (X.out.below hb X.out.lt); have Y1 := Lib.hid (Y.out.below hb Y.out.lt); have B1 := Lib.hid (BB.out.trans (hb.mono BB.out.size)); clear hb X Y BB x0 x1 x2 x3 x4 x5 x6 x7 x8 y0 y1 y2 y3 y4 y5 y6 y7 y8)
  rw [rounds_succ]
  obtain ⟨x0, x1, x2, x3, x4, x5, x6, x7, x8⟩ := X1.out.nine
  obtain ⟨y0, y1, y2, y3, y4, y5, y6, y7, y8⟩ := Y1.out.nine
  have X := Lib.hid (X1.out.draws 1)
  have Y := Lib.hid (Y1.out.draws 1)
  have BB := Lib.hid B1.out.drew
  go_wp2_with fail
  refine wp_region_still_tail 6 (by kernel_rfl) (by kernel_rfl) ?_
  simp only [List.take_succ_cons, List.take_zero, List.drop_succ_cons, List.drop_zero]
  change wpStill _ _ (World.drew _) _ _ _
  repeat still_step
  refine wpStill_nil ?_
  go_wp2_with (refine (eqInt64A3_same' _ _ _ _).mono ?_; rintro e w2 ⟨rfl, hb⟩; have X2 := Lib.hid (X.out.below hb X.out.lt); have Y2 := Lib.hid (Y.out.below hb Y.out.lt); have B2 := Lib.hid (BB.out.trans (hb.mono BB.out.size)); clear hb X Y BB x0 x1 x2 x3 x4 x5 x6 x7 x8 y0 y1 y2 y3 y4 y5 y6 y7 y8)
  rw [rounds_succ]
  obtain ⟨x0, x1, x2, x3, x4, x5, x6, x7, x8⟩ := X2.out.nine
  obtain ⟨y0, y1, y2, y3, y4, y5, y6, y7, y8⟩ := Y2.out.nine
  have X := Lib.hid (X2.out.draws 1)
  have Y := Lib.hid (Y2.out.draws 1)
  have BB := Lib.hid B2.out.drew
  go_wp2_with fail
  refine wp_region_still_tail 6 (by kernel_rfl) (by kernel_rfl) ?_
  simp only [List.take_succ_cons, List.take_zero, List.drop_succ_cons, List.drop_zero]
  change wpStill _ _ (World.drew _) _ _ _
  repeat still_step
  refine wpStill_nil ?_
  go_wp2_with (refine (eqInt64A3_same' _ _ _ _).mono ?_; rintro e w3 ⟨rfl, hb⟩; have X3 := Lib.hid (X.out.below hb X.out.lt); have Y3 := Lib.hid (Y.out.below hb Y.out.lt); have B3 := Lib.hid (BB.out.trans (hb.mono BB.out.size)); clear hb X Y BB x0 x1 x2 x3 x4 x5 x6 x7 x8 y0 y1 y2 y3 y4 y5 y6 y7 y8)
  rw [rounds_succ]
  go_wp2
  go_returns
  exact ⟨rfl, B3.out⟩

end Go.Proofs.Ytekakcpjfjmejaa
