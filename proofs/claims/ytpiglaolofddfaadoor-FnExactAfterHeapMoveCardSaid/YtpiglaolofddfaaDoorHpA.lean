/- Contracts: a move of a heap by the program: the piles behind it, the heap of piles; a move among moves. -/
import Derived.Test.YtpiglaolofddfaaDoorHpMv
import Derived.BigRegion
namespace Go.Proofs.YtpiglaolofddfaaDoor
open Go.RowKit
set_option linter.unusedVariables false

theorem withoutTop_calls (a b c d : Int) (w : World) :
    Calls Tryd.prog 44 #[.agg #[.int .i64 a, .int .i64 b, .int .i64 c, .int .i64 d]] w fun e w' => e = .returned (.agg #[.int .i64 b, .int .i64 c, .int .i64 d, .int .i64 4]) ∧ Below w.heap.size w w' := by
  go_enter Tryd.func44, Tryd.ntmps44
  have hcp := run_copy_cells (P := Tryd.prog) (((w.alloc (.cells #[.int .i64 a, .int .i64 b, .int .i64 c, .int .i64 d] 48)).alloc (.cells #[.int .i64 0, .int .i64 0, .int .i64 0, .int .i64 0] 48)).drew) 61 61 3 2 w.heap.size 0 4 4 ⟨w.heap.size, 1, none⟩ 3 3 [.int .i64 b, .int .i64 c, .int .i64 d] Tryd.underlying61 (by kernel_rfl) rfl
    (by intro j v hj; match j, hj with | 0, hj => simp at hj; simp [hj, Addr.add] | 1, hj => simp at hj; simp [hj, Addr.add] | 2, hj => simp at hj; simp [hj, Addr.add] | j + 3, hj => simp at hj)
    (by intro j hj; match j, hj with | 0, hj => simp | 1, hj => simp | 2, hj => simp | j + 3, hj => simp at hj; omega)
    (by intro j hj; simp)
    (by simp [Value.oneCell'])
  simp [World.setCells] at hcp
  go_wp2
  go_region
  go_wp2
  refine bodyPost_ret (v := .agg #[.int .i64 b, .int .i64 c, .int .i64 d, .int .i64 4]) (by simp [results, Tryd.results44, go_sem]) rfl ⟨rfl, (((Below.refl _ _).alloc (Nat.le_refl _) _).alloc (by simp) _).drew⟩

/-- The top of a pile is taken away, is put on one. -/
def outZ (Z : Nat → Int) (a : Nat) (k : Nat) : Int := if k = a * 4 + 3 then 4 else if k = a * 4 + 2 then Z (a * 4 + 3) else if k = a * 4 + 1 then Z (a * 4 + 2) else if k = a * 4 then Z (a * 4 + 1) else Z k
def inZ (Z : Nat → Int) (a : Nat) (x : Int) (k : Nat) : Int := if k = a * 4 + 3 then Z (a * 4 + 2) else if k = a * 4 + 2 then Z (a * 4 + 1) else if k = a * 4 + 1 then Z (a * 4) else if k = a * 4 then x else Z k
def mvZ (Z : Nat → Int) (f t : Nat) : Nat → Int := inZ (outZ Z f) t (Z (f * 4))

theorem outZ_box {w : World} {b t : Nat} {Z : Nat → Int} (f : Nat) (h : Box w b t (zA Z)) : Box ((((w.setCell ⟨b, f * 4, none⟩ (.int .i64 (Z (f * 4 + 1)))).setCell ⟨b, f * 4 + 1, none⟩ (.int .i64 (Z (f * 4 + 2)))).setCell ⟨b, f * 4 + 2, none⟩ (.int .i64 (Z (f * 4 + 3)))).setCell ⟨b, f * 4 + 3, none⟩ (.int .i64 4)) b t (zA (outZ Z f)) := by
  refine box_of_row (((((h.row12.set _ _).set _ _).set _ _).set _ _).congr (fun k _ => ?_))
  unfold outZ
  repeat' split
  all_goals rfl

set_option maxHeartbeats 4000000 in
theorem wtm_0_0 (Z : Nat → Int) (w : World) :
    Calls Tryd.prog 30 #[.agg (zA Z), .int .i64 0, .int .i64 0] w fun e w' => e = .returned (.agg (zA (mvZ Z 0 0))) ∧ Below w.heap.size w w' := by
  obtain ⟨W, hW⟩ : ∃ W, W = (w.alloc (.cells (zA Z) 50)).alloc (.cells (zA (fun _ => 0)) 50) := ⟨_, rfl⟩
  have hb0 : Below w.heap.size w W := by rw [hW]; exact ((Below.refl _ _).alloc (Nat.le_refl _) _).alloc (by simp) _
  have P0 : Hid (Box W w.heap.size 50 (zA Z)) := by
    have := (Box.new w 50 (zA Z)).alloc (.cells (zA (fun _ => 0)) 50)
    rw [← hW] at this
    exact this
  have R0 : Hid (Box W (w.heap.size + 1) 50 (zA (fun _ => 0))) := by
    have := Box.new (w.alloc (.cells (zA Z) 50)) 50 (zA (fun _ => 0))
    rw [← hW, show (w.alloc (.cells (zA Z) 50)).heap.size = w.heap.size + 1 by simp] at this
    exact this
  have HB0 := Lib.hid hb0
  have HW := Lib.hid hW
  clear hb0 hW
  simp only [zA] at HW
  simp only [zA]
  go_enter Tryd.func30, Tryd.ntmps30
  go_wp2_with fail
  rw [← HW.out]
  refine (withoutTop_calls _ _ _ _ _).mono ?_
  rintro e w1 ⟨rfl, hb1⟩
  have P1 := Lib.hid (P0.out.below hb1 P0.out.lt)
  have R1 := Lib.hid (R0.out.below hb1 R0.out.lt)
  have HB1 := Lib.hid (HB0.out.trans (hb1.mono HB0.out.size))
  clear hb1 P0 R0 HB0 HW
  obtain ⟨d0, d1, d2, d3, d4, d5, d6, d7, d8, d9, d10, d11⟩ := P1.out.z12
  have qf := P1.out.frozen
  go_wp2_with fail
  refine (with_calls _ _ _ _ _ _).mono ?_
  rintro e w3 ⟨rfl, hb3⟩
  have hP3 : ∃ Y, Box w3 w.heap.size 50 (zA Y) ∧ Y = outZ Z _ := ⟨_, Box.below (outZ_box 0 P1.out) hb3 (by have := P1.out.lt; simpa using this), rfl⟩
  obtain ⟨Y, hP3, hY⟩ := hP3
  have R3 : Hid (Box w3 (w.heap.size + 1) 50 (zA (fun _ => 0))) := Box.below ((((R1.out.other (by simp) _).other (by simp) _).other (by simp) _).other (by simp) _) hb3 (by have := R1.out.lt; simpa using this)
  have HB3 : Hid (Below w.heap.size w w3) := ((((HB1.out.setCell (by simp) _).setCell (by simp) _).setCell (by simp) _).setCell (by simp) _).trans (hb3.mono (by have := HB1.out.size; simpa using this))
  clear hb3 P1 R1 HB1 qf d0 d1 d2 d3 d4 d5 d6 d7 d8 d9 d10 d11
  obtain ⟨d0, d1, d2, d3, d4, d5, d6, d7, d8, d9, d10, d11⟩ := hP3.z12
  obtain ⟨e0, e1, e2, e3, e4, e5, e6, e7, e8, e9, e10, e11⟩ := R3.out.z12
  have qf := hP3.frozen
  have rf := R3.out.frozen
  have hy : ∀ k, Y k = outZ Z _ k := fun k => by rw [hY]
  simp only [hy, outZ] at d0 d1 d2 d3 d4 d5 d6 d7 d8 d9 d10 d11
  simp at d0 d1 d2 d3 d4 d5 d6 d7 d8 d9 d10 d11
  clear hY hy
  go_wp2
  refine bodyPost_ret (v := .agg #[.int .i64 (Z 0), .int .i64 (Z 1), .int .i64 (Z 2), .int .i64 (Z 3), .int .i64 (Z 4), .int .i64 (Z 5), .int .i64 (Z 6), .int .i64 (Z 7), .int .i64 (Z 8), .int .i64 (Z 9), .int .i64 (Z 10), .int .i64 (Z 11)]) (by simp [results, Tryd.results30, go_sem, e0, e1, e2, e3, e4, e5, e6, e7, e8, e9, e10, e11]) rfl ⟨by simp [mvZ, inZ, outZ], ?_⟩
  iterate 16 refine Below.setCell ?_ (by simp) _
  exact HB3.out

set_option maxHeartbeats 4000000 in
theorem wtm_0_1 (Z : Nat → Int) (w : World) :
    Calls Tryd.prog 30 #[.agg (zA Z), .int .i64 0, .int .i64 1] w fun e w' => e = .returned (.agg (zA (mvZ Z 0 1))) ∧ Below w.heap.size w w' := by
  obtain ⟨W, hW⟩ : ∃ W, W = (w.alloc (.cells (zA Z) 50)).alloc (.cells (zA (fun _ => 0)) 50) := ⟨_, rfl⟩
  have hb0 : Below w.heap.size w W := by rw [hW]; exact ((Below.refl _ _).alloc (Nat.le_refl _) _).alloc (by simp) _
  have P0 : Hid (Box W w.heap.size 50 (zA Z)) := by
    have := (Box.new w 50 (zA Z)).alloc (.cells (zA (fun _ => 0)) 50)
    rw [← hW] at this
    exact this
  have R0 : Hid (Box W (w.heap.size + 1) 50 (zA (fun _ => 0))) := by
    have := Box.new (w.alloc (.cells (zA Z) 50)) 50 (zA (fun _ => 0))
    rw [← hW, show (w.alloc (.cells (zA Z) 50)).heap.size = w.heap.size + 1 by simp] at this
    exact this
  have HB0 := Lib.hid hb0
  have HW := Lib.hid hW
  clear hb0 hW
  simp only [zA] at HW
  simp only [zA]
  go_enter Tryd.func30, Tryd.ntmps30
  go_wp2_with fail
  rw [← HW.out]
  refine (withoutTop_calls _ _ _ _ _).mono ?_
  rintro e w1 ⟨rfl, hb1⟩
  have P1 := Lib.hid (P0.out.below hb1 P0.out.lt)
  have R1 := Lib.hid (R0.out.below hb1 R0.out.lt)
  have HB1 := Lib.hid (HB0.out.trans (hb1.mono HB0.out.size))
  clear hb1 P0 R0 HB0 HW
  obtain ⟨d0, d1, d2, d3, d4, d5, d6, d7, d8, d9, d10, d11⟩ := P1.out.z12
  have qf := P1.out.frozen
  go_wp2_with fail
  refine (with_calls _ _ _ _ _ _).mono ?_
  rintro e w3 ⟨rfl, hb3⟩
  have hP3 : ∃ Y, Box w3 w.heap.size 50 (zA Y) ∧ Y = outZ Z _ := ⟨_, Box.below (outZ_box 0 P1.out) hb3 (by have := P1.out.lt; simpa using this), rfl⟩
  obtain ⟨Y, hP3, hY⟩ := hP3
  have R3 : Hid (Box w3 (w.heap.size + 1) 50 (zA (fun _ => 0))) := Box.below ((((R1.out.other (by simp) _).other (by simp) _).other (by simp) _).other (by simp) _) hb3 (by have := R1.out.lt; simpa using this)
  have HB3 : Hid (Below w.heap.size w w3) := ((((HB1.out.setCell (by simp) _).setCell (by simp) _).setCell (by simp) _).setCell (by simp) _).trans (hb3.mono (by have := HB1.out.size; simpa using this))
  clear hb3 P1 R1 HB1 qf d0 d1 d2 d3 d4 d5 d6 d7 d8 d9 d10 d11
  obtain ⟨d0, d1, d2, d3, d4, d5, d6, d7, d8, d9, d10, d11⟩ := hP3.z12
  obtain ⟨e0, e1, e2, e3, e4, e5, e6, e7, e8, e9, e10, e11⟩ := R3.out.z12
  have qf := hP3.frozen
  have rf := R3.out.frozen
  have hy : ∀ k, Y k = outZ Z _ k := fun k => by rw [hY]
  simp only [hy, outZ] at d0 d1 d2 d3 d4 d5 d6 d7 d8 d9 d10 d11
  simp at d0 d1 d2 d3 d4 d5 d6 d7 d8 d9 d10 d11
  clear hY hy
  go_wp2
  refine bodyPost_ret (v := .agg #[.int .i64 (Z 1), .int .i64 (Z 2), .int .i64 (Z 3), .int .i64 (4), .int .i64 (Z 0), .int .i64 (Z 4), .int .i64 (Z 5), .int .i64 (Z 6), .int .i64 (Z 8), .int .i64 (Z 9), .int .i64 (Z 10), .int .i64 (Z 11)]) (by simp [results, Tryd.results30, go_sem, e0, e1, e2, e3, e4, e5, e6, e7, e8, e9, e10, e11]) rfl ⟨by simp [mvZ, inZ, outZ], ?_⟩
  iterate 16 refine Below.setCell ?_ (by simp) _
  exact HB3.out

set_option maxHeartbeats 4000000 in
theorem wtm_0_2 (Z : Nat → Int) (w : World) :
    Calls Tryd.prog 30 #[.agg (zA Z), .int .i64 0, .int .i64 2] w fun e w' => e = .returned (.agg (zA (mvZ Z 0 2))) ∧ Below w.heap.size w w' := by
  obtain ⟨W, hW⟩ : ∃ W, W = (w.alloc (.cells (zA Z) 50)).alloc (.cells (zA (fun _ => 0)) 50) := ⟨_, rfl⟩
  have hb0 : Below w.heap.size w W := by rw [hW]; exact ((Below.refl _ _).alloc (Nat.le_refl _) _).alloc (by simp) _
  have P0 : Hid (Box W w.heap.size 50 (zA Z)) := by
    have := (Box.new w 50 (zA Z)).alloc (.cells (zA (fun _ => 0)) 50)
    rw [← hW] at this
    exact this
  have R0 : Hid (Box W (w.heap.size + 1) 50 (zA (fun _ => 0))) := by
    have := Box.new (w.alloc (.cells (zA Z) 50)) 50 (zA (fun _ => 0))
    rw [← hW, show (w.alloc (.cells (zA Z) 50)).heap.size = w.heap.size + 1 by simp] at this
    exact this
  have HB0 := Lib.hid hb0
  have HW := Lib.hid hW
  clear hb0 hW
  simp only [zA] at HW
  simp only [zA]
  go_enter Tryd.func30, Tryd.ntmps30
  go_wp2_with fail
  rw [← HW.out]
  refine (withoutTop_calls _ _ _ _ _).mono ?_
  rintro e w1 ⟨rfl, hb1⟩
  have P1 := Lib.hid (P0.out.below hb1 P0.out.lt)
  have R1 := Lib.hid (R0.out.below hb1 R0.out.lt)
  have HB1 := Lib.hid (HB0.out.trans (hb1.mono HB0.out.size))
  clear hb1 P0 R0 HB0 HW
  obtain ⟨d0, d1, d2, d3, d4, d5, d6, d7, d8, d9, d10, d11⟩ := P1.out.z12
  have qf := P1.out.frozen
  go_wp2_with fail
  refine (with_calls _ _ _ _ _ _).mono ?_
  rintro e w3 ⟨rfl, hb3⟩
  have hP3 : ∃ Y, Box w3 w.heap.size 50 (zA Y) ∧ Y = outZ Z _ := ⟨_, Box.below (outZ_box 0 P1.out) hb3 (by have := P1.out.lt; simpa using this), rfl⟩
  obtain ⟨Y, hP3, hY⟩ := hP3
  have R3 : Hid (Box w3 (w.heap.size + 1) 50 (zA (fun _ => 0))) := Box.below ((((R1.out.other (by simp) _).other (by simp) _).other (by simp) _).other (by simp) _) hb3 (by have := R1.out.lt; simpa using this)
  have HB3 : Hid (Below w.heap.size w w3) := ((((HB1.out.setCell (by simp) _).setCell (by simp) _).setCell (by simp) _).setCell (by simp) _).trans (hb3.mono (by have := HB1.out.size; simpa using this))
  clear hb3 P1 R1 HB1 qf d0 d1 d2 d3 d4 d5 d6 d7 d8 d9 d10 d11
  obtain ⟨d0, d1, d2, d3, d4, d5, d6, d7, d8, d9, d10, d11⟩ := hP3.z12
  obtain ⟨e0, e1, e2, e3, e4, e5, e6, e7, e8, e9, e10, e11⟩ := R3.out.z12
  have qf := hP3.frozen
  have rf := R3.out.frozen
  have hy : ∀ k, Y k = outZ Z _ k := fun k => by rw [hY]
  simp only [hy, outZ] at d0 d1 d2 d3 d4 d5 d6 d7 d8 d9 d10 d11
  simp at d0 d1 d2 d3 d4 d5 d6 d7 d8 d9 d10 d11
  clear hY hy
  go_wp2
  refine bodyPost_ret (v := .agg #[.int .i64 (Z 1), .int .i64 (Z 2), .int .i64 (Z 3), .int .i64 (4), .int .i64 (Z 4), .int .i64 (Z 5), .int .i64 (Z 6), .int .i64 (Z 7), .int .i64 (Z 0), .int .i64 (Z 8), .int .i64 (Z 9), .int .i64 (Z 10)]) (by simp [results, Tryd.results30, go_sem, e0, e1, e2, e3, e4, e5, e6, e7, e8, e9, e10, e11]) rfl ⟨by simp [mvZ, inZ, outZ], ?_⟩
  iterate 16 refine Below.setCell ?_ (by simp) _
  exact HB3.out

set_option maxHeartbeats 4000000 in
theorem wtm_1_0 (Z : Nat → Int) (w : World) :
    Calls Tryd.prog 30 #[.agg (zA Z), .int .i64 1, .int .i64 0] w fun e w' => e = .returned (.agg (zA (mvZ Z 1 0))) ∧ Below w.heap.size w w' := by
  obtain ⟨W, hW⟩ : ∃ W, W = (w.alloc (.cells (zA Z) 50)).alloc (.cells (zA (fun _ => 0)) 50) := ⟨_, rfl⟩
  have hb0 : Below w.heap.size w W := by rw [hW]; exact ((Below.refl _ _).alloc (Nat.le_refl _) _).alloc (by simp) _
  have P0 : Hid (Box W w.heap.size 50 (zA Z)) := by
    have := (Box.new w 50 (zA Z)).alloc (.cells (zA (fun _ => 0)) 50)
    rw [← hW] at this
    exact this
  have R0 : Hid (Box W (w.heap.size + 1) 50 (zA (fun _ => 0))) := by
    have := Box.new (w.alloc (.cells (zA Z) 50)) 50 (zA (fun _ => 0))
    rw [← hW, show (w.alloc (.cells (zA Z) 50)).heap.size = w.heap.size + 1 by simp] at this
    exact this
  have HB0 := Lib.hid hb0
  have HW := Lib.hid hW
  clear hb0 hW
  simp only [zA] at HW
  simp only [zA]
  go_enter Tryd.func30, Tryd.ntmps30
  go_wp2_with fail
  rw [← HW.out]
  refine (withoutTop_calls _ _ _ _ _).mono ?_
  rintro e w1 ⟨rfl, hb1⟩
  have P1 := Lib.hid (P0.out.below hb1 P0.out.lt)
  have R1 := Lib.hid (R0.out.below hb1 R0.out.lt)
  have HB1 := Lib.hid (HB0.out.trans (hb1.mono HB0.out.size))
  clear hb1 P0 R0 HB0 HW
  obtain ⟨d0, d1, d2, d3, d4, d5, d6, d7, d8, d9, d10, d11⟩ := P1.out.z12
  have qf := P1.out.frozen
  go_wp2_with fail
  refine (with_calls _ _ _ _ _ _).mono ?_
  rintro e w3 ⟨rfl, hb3⟩
  have hP3 : ∃ Y, Box w3 w.heap.size 50 (zA Y) ∧ Y = outZ Z _ := ⟨_, Box.below (outZ_box 1 P1.out) hb3 (by have := P1.out.lt; simpa using this), rfl⟩
  obtain ⟨Y, hP3, hY⟩ := hP3
  have R3 : Hid (Box w3 (w.heap.size + 1) 50 (zA (fun _ => 0))) := Box.below ((((R1.out.other (by simp) _).other (by simp) _).other (by simp) _).other (by simp) _) hb3 (by have := R1.out.lt; simpa using this)
  have HB3 : Hid (Below w.heap.size w w3) := ((((HB1.out.setCell (by simp) _).setCell (by simp) _).setCell (by simp) _).setCell (by simp) _).trans (hb3.mono (by have := HB1.out.size; simpa using this))
  clear hb3 P1 R1 HB1 qf d0 d1 d2 d3 d4 d5 d6 d7 d8 d9 d10 d11
  obtain ⟨d0, d1, d2, d3, d4, d5, d6, d7, d8, d9, d10, d11⟩ := hP3.z12
  obtain ⟨e0, e1, e2, e3, e4, e5, e6, e7, e8, e9, e10, e11⟩ := R3.out.z12
  have qf := hP3.frozen
  have rf := R3.out.frozen
  have hy : ∀ k, Y k = outZ Z _ k := fun k => by rw [hY]
  simp only [hy, outZ] at d0 d1 d2 d3 d4 d5 d6 d7 d8 d9 d10 d11
  simp at d0 d1 d2 d3 d4 d5 d6 d7 d8 d9 d10 d11
  clear hY hy
  go_wp2
  refine bodyPost_ret (v := .agg #[.int .i64 (Z 4), .int .i64 (Z 0), .int .i64 (Z 1), .int .i64 (Z 2), .int .i64 (Z 5), .int .i64 (Z 6), .int .i64 (Z 7), .int .i64 (4), .int .i64 (Z 8), .int .i64 (Z 9), .int .i64 (Z 10), .int .i64 (Z 11)]) (by simp [results, Tryd.results30, go_sem, e0, e1, e2, e3, e4, e5, e6, e7, e8, e9, e10, e11]) rfl ⟨by simp [mvZ, inZ, outZ], ?_⟩
  iterate 16 refine Below.setCell ?_ (by simp) _
  exact HB3.out

set_option maxHeartbeats 4000000 in
theorem wtm_1_1 (Z : Nat → Int) (w : World) :
    Calls Tryd.prog 30 #[.agg (zA Z), .int .i64 1, .int .i64 1] w fun e w' => e = .returned (.agg (zA (mvZ Z 1 1))) ∧ Below w.heap.size w w' := by
  obtain ⟨W, hW⟩ : ∃ W, W = (w.alloc (.cells (zA Z) 50)).alloc (.cells (zA (fun _ => 0)) 50) := ⟨_, rfl⟩
  have hb0 : Below w.heap.size w W := by rw [hW]; exact ((Below.refl _ _).alloc (Nat.le_refl _) _).alloc (by simp) _
  have P0 : Hid (Box W w.heap.size 50 (zA Z)) := by
    have := (Box.new w 50 (zA Z)).alloc (.cells (zA (fun _ => 0)) 50)
    rw [← hW] at this
    exact this
  have R0 : Hid (Box W (w.heap.size + 1) 50 (zA (fun _ => 0))) := by
    have := Box.new (w.alloc (.cells (zA Z) 50)) 50 (zA (fun _ => 0))
    rw [← hW, show (w.alloc (.cells (zA Z) 50)).heap.size = w.heap.size + 1 by simp] at this
    exact this
  have HB0 := Lib.hid hb0
  have HW := Lib.hid hW
  clear hb0 hW
  simp only [zA] at HW
  simp only [zA]
  go_enter Tryd.func30, Tryd.ntmps30
  go_wp2_with fail
  rw [← HW.out]
  refine (withoutTop_calls _ _ _ _ _).mono ?_
  rintro e w1 ⟨rfl, hb1⟩
  have P1 := Lib.hid (P0.out.below hb1 P0.out.lt)
  have R1 := Lib.hid (R0.out.below hb1 R0.out.lt)
  have HB1 := Lib.hid (HB0.out.trans (hb1.mono HB0.out.size))
  clear hb1 P0 R0 HB0 HW
  obtain ⟨d0, d1, d2, d3, d4, d5, d6, d7, d8, d9, d10, d11⟩ := P1.out.z12
  have qf := P1.out.frozen
  go_wp2_with fail
  refine (with_calls _ _ _ _ _ _).mono ?_
  rintro e w3 ⟨rfl, hb3⟩
  have hP3 : ∃ Y, Box w3 w.heap.size 50 (zA Y) ∧ Y = outZ Z _ := ⟨_, Box.below (outZ_box 1 P1.out) hb3 (by have := P1.out.lt; simpa using this), rfl⟩
  obtain ⟨Y, hP3, hY⟩ := hP3
  have R3 : Hid (Box w3 (w.heap.size + 1) 50 (zA (fun _ => 0))) := Box.below ((((R1.out.other (by simp) _).other (by simp) _).other (by simp) _).other (by simp) _) hb3 (by have := R1.out.lt; simpa using this)
  have HB3 : Hid (Below w.heap.size w w3) := ((((HB1.out.setCell (by simp) _).setCell (by simp) _).setCell (by simp) _).setCell (by simp) _).trans (hb3.mono (by have := HB1.out.size; simpa using this))
  clear hb3 P1 R1 HB1 qf d0 d1 d2 d3 d4 d5 d6 d7 d8 d9 d10 d11
  obtain ⟨d0, d1, d2, d3, d4, d5, d6, d7, d8, d9, d10, d11⟩ := hP3.z12
  obtain ⟨e0, e1, e2, e3, e4, e5, e6, e7, e8, e9, e10, e11⟩ := R3.out.z12
  have qf := hP3.frozen
  have rf := R3.out.frozen
  have hy : ∀ k, Y k = outZ Z _ k := fun k => by rw [hY]
  simp only [hy, outZ] at d0 d1 d2 d3 d4 d5 d6 d7 d8 d9 d10 d11
  simp at d0 d1 d2 d3 d4 d5 d6 d7 d8 d9 d10 d11
  clear hY hy
  go_wp2
  refine bodyPost_ret (v := .agg #[.int .i64 (Z 0), .int .i64 (Z 1), .int .i64 (Z 2), .int .i64 (Z 3), .int .i64 (Z 4), .int .i64 (Z 5), .int .i64 (Z 6), .int .i64 (Z 7), .int .i64 (Z 8), .int .i64 (Z 9), .int .i64 (Z 10), .int .i64 (Z 11)]) (by simp [results, Tryd.results30, go_sem, e0, e1, e2, e3, e4, e5, e6, e7, e8, e9, e10, e11]) rfl ⟨by simp [mvZ, inZ, outZ], ?_⟩
  iterate 16 refine Below.setCell ?_ (by simp) _
  exact HB3.out

set_option maxHeartbeats 4000000 in
theorem wtm_1_2 (Z : Nat → Int) (w : World) :
    Calls Tryd.prog 30 #[.agg (zA Z), .int .i64 1, .int .i64 2] w fun e w' => e = .returned (.agg (zA (mvZ Z 1 2))) ∧ Below w.heap.size w w' := by
  obtain ⟨W, hW⟩ : ∃ W, W = (w.alloc (.cells (zA Z) 50)).alloc (.cells (zA (fun _ => 0)) 50) := ⟨_, rfl⟩
  have hb0 : Below w.heap.size w W := by rw [hW]; exact ((Below.refl _ _).alloc (Nat.le_refl _) _).alloc (by simp) _
  have P0 : Hid (Box W w.heap.size 50 (zA Z)) := by
    have := (Box.new w 50 (zA Z)).alloc (.cells (zA (fun _ => 0)) 50)
    rw [← hW] at this
    exact this
  have R0 : Hid (Box W (w.heap.size + 1) 50 (zA (fun _ => 0))) := by
    have := Box.new (w.alloc (.cells (zA Z) 50)) 50 (zA (fun _ => 0))
    rw [← hW, show (w.alloc (.cells (zA Z) 50)).heap.size = w.heap.size + 1 by simp] at this
    exact this
  have HB0 := Lib.hid hb0
  have HW := Lib.hid hW
  clear hb0 hW
  simp only [zA] at HW
  simp only [zA]
  go_enter Tryd.func30, Tryd.ntmps30
  go_wp2_with fail
  rw [← HW.out]
  refine (withoutTop_calls _ _ _ _ _).mono ?_
  rintro e w1 ⟨rfl, hb1⟩
  have P1 := Lib.hid (P0.out.below hb1 P0.out.lt)
  have R1 := Lib.hid (R0.out.below hb1 R0.out.lt)
  have HB1 := Lib.hid (HB0.out.trans (hb1.mono HB0.out.size))
  clear hb1 P0 R0 HB0 HW
  obtain ⟨d0, d1, d2, d3, d4, d5, d6, d7, d8, d9, d10, d11⟩ := P1.out.z12
  have qf := P1.out.frozen
  go_wp2_with fail
  refine (with_calls _ _ _ _ _ _).mono ?_
  rintro e w3 ⟨rfl, hb3⟩
  have hP3 : ∃ Y, Box w3 w.heap.size 50 (zA Y) ∧ Y = outZ Z _ := ⟨_, Box.below (outZ_box 1 P1.out) hb3 (by have := P1.out.lt; simpa using this), rfl⟩
  obtain ⟨Y, hP3, hY⟩ := hP3
  have R3 : Hid (Box w3 (w.heap.size + 1) 50 (zA (fun _ => 0))) := Box.below ((((R1.out.other (by simp) _).other (by simp) _).other (by simp) _).other (by simp) _) hb3 (by have := R1.out.lt; simpa using this)
  have HB3 : Hid (Below w.heap.size w w3) := ((((HB1.out.setCell (by simp) _).setCell (by simp) _).setCell (by simp) _).setCell (by simp) _).trans (hb3.mono (by have := HB1.out.size; simpa using this))
  clear hb3 P1 R1 HB1 qf d0 d1 d2 d3 d4 d5 d6 d7 d8 d9 d10 d11
  obtain ⟨d0, d1, d2, d3, d4, d5, d6, d7, d8, d9, d10, d11⟩ := hP3.z12
  obtain ⟨e0, e1, e2, e3, e4, e5, e6, e7, e8, e9, e10, e11⟩ := R3.out.z12
  have qf := hP3.frozen
  have rf := R3.out.frozen
  have hy : ∀ k, Y k = outZ Z _ k := fun k => by rw [hY]
  simp only [hy, outZ] at d0 d1 d2 d3 d4 d5 d6 d7 d8 d9 d10 d11
  simp at d0 d1 d2 d3 d4 d5 d6 d7 d8 d9 d10 d11
  clear hY hy
  go_wp2
  refine bodyPost_ret (v := .agg #[.int .i64 (Z 0), .int .i64 (Z 1), .int .i64 (Z 2), .int .i64 (Z 3), .int .i64 (Z 5), .int .i64 (Z 6), .int .i64 (Z 7), .int .i64 (4), .int .i64 (Z 4), .int .i64 (Z 8), .int .i64 (Z 9), .int .i64 (Z 10)]) (by simp [results, Tryd.results30, go_sem, e0, e1, e2, e3, e4, e5, e6, e7, e8, e9, e10, e11]) rfl ⟨by simp [mvZ, inZ, outZ], ?_⟩
  iterate 16 refine Below.setCell ?_ (by simp) _
  exact HB3.out

set_option maxHeartbeats 4000000 in
theorem wtm_2_0 (Z : Nat → Int) (w : World) :
    Calls Tryd.prog 30 #[.agg (zA Z), .int .i64 2, .int .i64 0] w fun e w' => e = .returned (.agg (zA (mvZ Z 2 0))) ∧ Below w.heap.size w w' := by
  obtain ⟨W, hW⟩ : ∃ W, W = (w.alloc (.cells (zA Z) 50)).alloc (.cells (zA (fun _ => 0)) 50) := ⟨_, rfl⟩
  have hb0 : Below w.heap.size w W := by rw [hW]; exact ((Below.refl _ _).alloc (Nat.le_refl _) _).alloc (by simp) _
  have P0 : Hid (Box W w.heap.size 50 (zA Z)) := by
    have := (Box.new w 50 (zA Z)).alloc (.cells (zA (fun _ => 0)) 50)
    rw [← hW] at this
    exact this
  have R0 : Hid (Box W (w.heap.size + 1) 50 (zA (fun _ => 0))) := by
    have := Box.new (w.alloc (.cells (zA Z) 50)) 50 (zA (fun _ => 0))
    rw [← hW, show (w.alloc (.cells (zA Z) 50)).heap.size = w.heap.size + 1 by simp] at this
    exact this
  have HB0 := Lib.hid hb0
  have HW := Lib.hid hW
  clear hb0 hW
  simp only [zA] at HW
  simp only [zA]
  go_enter Tryd.func30, Tryd.ntmps30
  go_wp2_with fail
  rw [← HW.out]
  refine (withoutTop_calls _ _ _ _ _).mono ?_
  rintro e w1 ⟨rfl, hb1⟩
  have P1 := Lib.hid (P0.out.below hb1 P0.out.lt)
  have R1 := Lib.hid (R0.out.below hb1 R0.out.lt)
  have HB1 := Lib.hid (HB0.out.trans (hb1.mono HB0.out.size))
  clear hb1 P0 R0 HB0 HW
  obtain ⟨d0, d1, d2, d3, d4, d5, d6, d7, d8, d9, d10, d11⟩ := P1.out.z12
  have qf := P1.out.frozen
  go_wp2_with fail
  refine (with_calls _ _ _ _ _ _).mono ?_
  rintro e w3 ⟨rfl, hb3⟩
  have hP3 : ∃ Y, Box w3 w.heap.size 50 (zA Y) ∧ Y = outZ Z _ := ⟨_, Box.below (outZ_box 2 P1.out) hb3 (by have := P1.out.lt; simpa using this), rfl⟩
  obtain ⟨Y, hP3, hY⟩ := hP3
  have R3 : Hid (Box w3 (w.heap.size + 1) 50 (zA (fun _ => 0))) := Box.below ((((R1.out.other (by simp) _).other (by simp) _).other (by simp) _).other (by simp) _) hb3 (by have := R1.out.lt; simpa using this)
  have HB3 : Hid (Below w.heap.size w w3) := ((((HB1.out.setCell (by simp) _).setCell (by simp) _).setCell (by simp) _).setCell (by simp) _).trans (hb3.mono (by have := HB1.out.size; simpa using this))
  clear hb3 P1 R1 HB1 qf d0 d1 d2 d3 d4 d5 d6 d7 d8 d9 d10 d11
  obtain ⟨d0, d1, d2, d3, d4, d5, d6, d7, d8, d9, d10, d11⟩ := hP3.z12
  obtain ⟨e0, e1, e2, e3, e4, e5, e6, e7, e8, e9, e10, e11⟩ := R3.out.z12
  have qf := hP3.frozen
  have rf := R3.out.frozen
  have hy : ∀ k, Y k = outZ Z _ k := fun k => by rw [hY]
  simp only [hy, outZ] at d0 d1 d2 d3 d4 d5 d6 d7 d8 d9 d10 d11
  simp at d0 d1 d2 d3 d4 d5 d6 d7 d8 d9 d10 d11
  clear hY hy
  go_wp2
  refine bodyPost_ret (v := .agg #[.int .i64 (Z 8), .int .i64 (Z 0), .int .i64 (Z 1), .int .i64 (Z 2), .int .i64 (Z 4), .int .i64 (Z 5), .int .i64 (Z 6), .int .i64 (Z 7), .int .i64 (Z 9), .int .i64 (Z 10), .int .i64 (Z 11), .int .i64 (4)]) (by simp [results, Tryd.results30, go_sem, e0, e1, e2, e3, e4, e5, e6, e7, e8, e9, e10, e11]) rfl ⟨by simp [mvZ, inZ, outZ], ?_⟩
  iterate 16 refine Below.setCell ?_ (by simp) _
  exact HB3.out

set_option maxHeartbeats 4000000 in
theorem wtm_2_1 (Z : Nat → Int) (w : World) :
    Calls Tryd.prog 30 #[.agg (zA Z), .int .i64 2, .int .i64 1] w fun e w' => e = .returned (.agg (zA (mvZ Z 2 1))) ∧ Below w.heap.size w w' := by
  obtain ⟨W, hW⟩ : ∃ W, W = (w.alloc (.cells (zA Z) 50)).alloc (.cells (zA (fun _ => 0)) 50) := ⟨_, rfl⟩
  have hb0 : Below w.heap.size w W := by rw [hW]; exact ((Below.refl _ _).alloc (Nat.le_refl _) _).alloc (by simp) _
  have P0 : Hid (Box W w.heap.size 50 (zA Z)) := by
    have := (Box.new w 50 (zA Z)).alloc (.cells (zA (fun _ => 0)) 50)
    rw [← hW] at this
    exact this
  have R0 : Hid (Box W (w.heap.size + 1) 50 (zA (fun _ => 0))) := by
    have := Box.new (w.alloc (.cells (zA Z) 50)) 50 (zA (fun _ => 0))
    rw [← hW, show (w.alloc (.cells (zA Z) 50)).heap.size = w.heap.size + 1 by simp] at this
    exact this
  have HB0 := Lib.hid hb0
  have HW := Lib.hid hW
  clear hb0 hW
  simp only [zA] at HW
  simp only [zA]
  go_enter Tryd.func30, Tryd.ntmps30
  go_wp2_with fail
  rw [← HW.out]
  refine (withoutTop_calls _ _ _ _ _).mono ?_
  rintro e w1 ⟨rfl, hb1⟩
  have P1 := Lib.hid (P0.out.below hb1 P0.out.lt)
  have R1 := Lib.hid (R0.out.below hb1 R0.out.lt)
  have HB1 := Lib.hid (HB0.out.trans (hb1.mono HB0.out.size))
  clear hb1 P0 R0 HB0 HW
  obtain ⟨d0, d1, d2, d3, d4, d5, d6, d7, d8, d9, d10, d11⟩ := P1.out.z12
  have qf := P1.out.frozen
  go_wp2_with fail
  refine (with_calls _ _ _ _ _ _).mono ?_
  rintro e w3 ⟨rfl, hb3⟩
  have hP3 : ∃ Y, Box w3 w.heap.size 50 (zA Y) ∧ Y = outZ Z _ := ⟨_, Box.below (outZ_box 2 P1.out) hb3 (by have := P1.out.lt; simpa using this), rfl⟩
  obtain ⟨Y, hP3, hY⟩ := hP3
  have R3 : Hid (Box w3 (w.heap.size + 1) 50 (zA (fun _ => 0))) := Box.below ((((R1.out.other (by simp) _).other (by simp) _).other (by simp) _).other (by simp) _) hb3 (by have := R1.out.lt; simpa using this)
  have HB3 : Hid (Below w.heap.size w w3) := ((((HB1.out.setCell (by simp) _).setCell (by simp) _).setCell (by simp) _).setCell (by simp) _).trans (hb3.mono (by have := HB1.out.size; simpa using this))
  clear hb3 P1 R1 HB1 qf d0 d1 d2 d3 d4 d5 d6 d7 d8 d9 d10 d11
  obtain ⟨d0, d1, d2, d3, d4, d5, d6, d7, d8, d9, d10, d11⟩ := hP3.z12
  obtain ⟨e0, e1, e2, e3, e4, e5, e6, e7, e8, e9, e10, e11⟩ := R3.out.z12
  have qf := hP3.frozen
  have rf := R3.out.frozen
  have hy : ∀ k, Y k = outZ Z _ k := fun k => by rw [hY]
  simp only [hy, outZ] at d0 d1 d2 d3 d4 d5 d6 d7 d8 d9 d10 d11
  simp at d0 d1 d2 d3 d4 d5 d6 d7 d8 d9 d10 d11
  clear hY hy
  go_wp2
  refine bodyPost_ret (v := .agg #[.int .i64 (Z 0), .int .i64 (Z 1), .int .i64 (Z 2), .int .i64 (Z 3), .int .i64 (Z 8), .int .i64 (Z 4), .int .i64 (Z 5), .int .i64 (Z 6), .int .i64 (Z 9), .int .i64 (Z 10), .int .i64 (Z 11), .int .i64 (4)]) (by simp [results, Tryd.results30, go_sem, e0, e1, e2, e3, e4, e5, e6, e7, e8, e9, e10, e11]) rfl ⟨by simp [mvZ, inZ, outZ], ?_⟩
  iterate 16 refine Below.setCell ?_ (by simp) _
  exact HB3.out

set_option maxHeartbeats 4000000 in
theorem wtm_2_2 (Z : Nat → Int) (w : World) :
    Calls Tryd.prog 30 #[.agg (zA Z), .int .i64 2, .int .i64 2] w fun e w' => e = .returned (.agg (zA (mvZ Z 2 2))) ∧ Below w.heap.size w w' := by
  obtain ⟨W, hW⟩ : ∃ W, W = (w.alloc (.cells (zA Z) 50)).alloc (.cells (zA (fun _ => 0)) 50) := ⟨_, rfl⟩
  have hb0 : Below w.heap.size w W := by rw [hW]; exact ((Below.refl _ _).alloc (Nat.le_refl _) _).alloc (by simp) _
  have P0 : Hid (Box W w.heap.size 50 (zA Z)) := by
    have := (Box.new w 50 (zA Z)).alloc (.cells (zA (fun _ => 0)) 50)
    rw [← hW] at this
    exact this
  have R0 : Hid (Box W (w.heap.size + 1) 50 (zA (fun _ => 0))) := by
    have := Box.new (w.alloc (.cells (zA Z) 50)) 50 (zA (fun _ => 0))
    rw [← hW, show (w.alloc (.cells (zA Z) 50)).heap.size = w.heap.size + 1 by simp] at this
    exact this
  have HB0 := Lib.hid hb0
  have HW := Lib.hid hW
  clear hb0 hW
  simp only [zA] at HW
  simp only [zA]
  go_enter Tryd.func30, Tryd.ntmps30
  go_wp2_with fail
  rw [← HW.out]
  refine (withoutTop_calls _ _ _ _ _).mono ?_
  rintro e w1 ⟨rfl, hb1⟩
  have P1 := Lib.hid (P0.out.below hb1 P0.out.lt)
  have R1 := Lib.hid (R0.out.below hb1 R0.out.lt)
  have HB1 := Lib.hid (HB0.out.trans (hb1.mono HB0.out.size))
  clear hb1 P0 R0 HB0 HW
  obtain ⟨d0, d1, d2, d3, d4, d5, d6, d7, d8, d9, d10, d11⟩ := P1.out.z12
  have qf := P1.out.frozen
  go_wp2_with fail
  refine (with_calls _ _ _ _ _ _).mono ?_
  rintro e w3 ⟨rfl, hb3⟩
  have hP3 : ∃ Y, Box w3 w.heap.size 50 (zA Y) ∧ Y = outZ Z _ := ⟨_, Box.below (outZ_box 2 P1.out) hb3 (by have := P1.out.lt; simpa using this), rfl⟩
  obtain ⟨Y, hP3, hY⟩ := hP3
  have R3 : Hid (Box w3 (w.heap.size + 1) 50 (zA (fun _ => 0))) := Box.below ((((R1.out.other (by simp) _).other (by simp) _).other (by simp) _).other (by simp) _) hb3 (by have := R1.out.lt; simpa using this)
  have HB3 : Hid (Below w.heap.size w w3) := ((((HB1.out.setCell (by simp) _).setCell (by simp) _).setCell (by simp) _).setCell (by simp) _).trans (hb3.mono (by have := HB1.out.size; simpa using this))
  clear hb3 P1 R1 HB1 qf d0 d1 d2 d3 d4 d5 d6 d7 d8 d9 d10 d11
  obtain ⟨d0, d1, d2, d3, d4, d5, d6, d7, d8, d9, d10, d11⟩ := hP3.z12
  obtain ⟨e0, e1, e2, e3, e4, e5, e6, e7, e8, e9, e10, e11⟩ := R3.out.z12
  have qf := hP3.frozen
  have rf := R3.out.frozen
  have hy : ∀ k, Y k = outZ Z _ k := fun k => by rw [hY]
  simp only [hy, outZ] at d0 d1 d2 d3 d4 d5 d6 d7 d8 d9 d10 d11
  simp at d0 d1 d2 d3 d4 d5 d6 d7 d8 d9 d10 d11
  clear hY hy
  go_wp2
  refine bodyPost_ret (v := .agg #[.int .i64 (Z 0), .int .i64 (Z 1), .int .i64 (Z 2), .int .i64 (Z 3), .int .i64 (Z 4), .int .i64 (Z 5), .int .i64 (Z 6), .int .i64 (Z 7), .int .i64 (Z 8), .int .i64 (Z 9), .int .i64 (Z 10), .int .i64 (Z 11)]) (by simp [results, Tryd.results30, go_sem, e0, e1, e2, e3, e4, e5, e6, e7, e8, e9, e10, e11]) rfl ⟨by simp [mvZ, inZ, outZ], ?_⟩
  iterate 16 refine Below.setCell ?_ (by simp) _
  exact HB3.out

theorem withTopMoved_calls (Z : Nat → Int) (f t : Nat) (hf : f < 3) (ht : t < 3) (w : World) :
    Calls Tryd.prog 30 #[.agg (zA Z), .int .i64 (f : Int), .int .i64 (t : Int)] w fun e w' => e = .returned (.agg (zA (mvZ Z f t))) ∧ Below w.heap.size w w' := by
  obtain rfl | rfl | rfl : f = 0 ∨ f = 1 ∨ f = 2 := by omega
  · obtain rfl | rfl | rfl : t = 0 ∨ t = 1 ∨ t = 2 := by omega
    · exact wtm_0_0 Z w
    · exact wtm_0_1 Z w
    · exact wtm_0_2 Z w
  · obtain rfl | rfl | rfl : t = 0 ∨ t = 1 ∨ t = 2 := by omega
    · exact wtm_1_0 Z w
    · exact wtm_1_1 Z w
    · exact wtm_1_2 Z w
  · obtain rfl | rfl | rfl : t = 0 ∨ t = 1 ∨ t = 2 := by omega
    · exact wtm_2_0 Z w
    · exact wtm_2_1 Z w
    · exact wtm_2_2 Z w

end Go.Proofs.YtpiglaolofddfaaDoor
