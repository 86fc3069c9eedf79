/- Contracts: the array of a word; two such arrays are compared. -/
import Derived.Test.YtnfjdggiaodhmaaPegs
import Derived.Test.YtnfjdggiaodhmaaArrEq
import Derived.Test.YtnfjdggiaodhmaaWord
namespace Go.Proofs.Ytnfjdggiaodhmaa
open Go.RowKit
set_option linter.unusedVariables false

theorem cells8W : Try.prog.cellsOf 65 = 8 := by kernel_rfl
theorem cells1W : Try.prog.cellsOf 2 = 1 := by kernel_rfl
theorem keyT8W : Try.prog.keyTypeAt 2 65 = true := by kernel_rfl

theorem keyLits8W (f : Nat → Int) (h : ∀ i, i < 8 → (Lit.int .i64 (f i)).wf = true) : Try.prog.keyLits 2 65 (Value.agg (arr8 f)).cells.toList = some (lits8 f) := by
  have one : ∀ i, i < 8 → Try.prog.keyLits 1 2 [.int .i64 (f i)] = some [.int .i64 (f i)] := by
    intro i hi
    simp [Program.keyLits, Try.underlying2, h i hi]
  have e0 := one 0 (by omega)
  have e1 := one 1 (by omega)
  have e2 := one 2 (by omega)
  have e3 := one 3 (by omega)
  have e4 := one 4 (by omega)
  have e5 := one 5 (by omega)
  have e6 := one 6 (by omega)
  have e7 := one 7 (by omega)
  unfold Program.keyLits
  simp [Try.underlying65, cells8W, cells1W, arr8, lits8, Value.cells, List.range_succ, e0, e1, e2, e3, e4, e5, e6, e7]

theorem eq8W (f g : Nat → Int) (hf : ∀ i, i < 8 → (Lit.int .i64 (f i)).wf = true) (hg : ∀ i, i < 8 → (Lit.int .i64 (g i)).wf = true) (W : World) :
    ∃ r : Bool, (Op.equalIn 10000 65 (.agg (arr8 f)) (.agg (arr8 g))).run Try.prog W = .ok r W ∧ (r = true ↔ lits8 f = lits8 g) := by
  have E := run_equalIn_deep (P := Try.prog) 9998 2 65 keyT8W
  exact E W 2 2 (.agg (arr8 f)) (.agg (arr8 g)) _ _ (by simp [Value.formed, Try.underlying65, arr8, cells8W]) (by simp [Value.formed, Try.underlying65, arr8, cells8W]) (keyLits8W f hf) (keyLits8W g hg)

theorem eq8W_yes (f g : Nat → Int) (hf : ∀ i, i < 8 → (Lit.int .i64 (f i)).wf = true) (hg : ∀ i, i < 8 → (Lit.int .i64 (g i)).wf = true) (h : ∀ i, i < 8 → f i = g i) (W : World) :
    (Op.equalIn 10000 65 (.agg #[.int .i64 (f 0), .int .i64 (f 1), .int .i64 (f 2), .int .i64 (f 3), .int .i64 (f 4), .int .i64 (f 5), .int .i64 (f 6), .int .i64 (f 7)]) (.agg #[.int .i64 (g 0), .int .i64 (g 1), .int .i64 (g 2), .int .i64 (g 3), .int .i64 (g 4), .int .i64 (g 5), .int .i64 (g 6), .int .i64 (g 7)])).run Try.prog W = .ok true W := by
  obtain ⟨r, hr, hi⟩ := eq8W f g hf hg W
  have : r = true := hi.2 (by unfold lits8; rw [h 0 (by omega), h 1 (by omega), h 2 (by omega), h 3 (by omega), h 4 (by omega), h 5 (by omega), h 6 (by omega), h 7 (by omega)])
  subst this
  exact hr
theorem eq8W_no (f g : Nat → Int) (hf : ∀ i, i < 8 → (Lit.int .i64 (f i)).wf = true) (hg : ∀ i, i < 8 → (Lit.int .i64 (g i)).wf = true) {k : Nat} (hk : k < 8) (h : f k ≠ g k) (W : World) :
    (Op.equalIn 10000 65 (.agg #[.int .i64 (f 0), .int .i64 (f 1), .int .i64 (f 2), .int .i64 (f 3), .int .i64 (f 4), .int .i64 (f 5), .int .i64 (f 6), .int .i64 (f 7)]) (.agg #[.int .i64 (g 0), .int .i64 (g 1), .int .i64 (g 2), .int .i64 (g 3), .int .i64 (g 4), .int .i64 (g 5), .int .i64 (g 6), .int .i64 (g 7)])).run Try.prog W = .ok false W := by
  obtain ⟨r, hr, hi⟩ := eq8W f g hf hg W
  have : r = false := by
    cases r
    · rfl
    · have e := hi.1 rfl
      unfold lits8 at e
      simp only [List.cons.injEq, Lit.int.injEq, true_and, and_true] at e
      have hk' : k = 0 ∨ k = 1 ∨ k = 2 ∨ k = 3 ∨ k = 4 ∨ k = 5 ∨ k = 6 ∨ k = 7 := by omega
      rcases hk' with rfl | rfl | rfl | rfl | rfl | rfl | rfl | rfl <;> exact absurd (by omega) h
  subst this
  exact hr

set_option maxHeartbeats 1000000 in
theorem arrayOf_calls (A : Option Addr) (n c : Nat) (L : List Int) (w : World) (hL : L.length = n) (hn : n ≤ 8) (hI : Ints w A L) :
    Calls Try.prog 43 #[.slice A n c] w fun e w' => e = .returned (.agg #[.int .i64 (padI L 0), .int .i64 (padI L 1), .int .i64 (padI L 2), .int .i64 (padI L 3), .int .i64 (padI L 4), .int .i64 (padI L 5), .int .i64 (padI L 6), .int .i64 (padI L 7)]) ∧ Below w.heap.size w w' := by
  have hmk0 := run_make_row' (P := Try.prog) 22 2 (.int .i64 0) 8 Try.underlying22 Try.infoI rfl .i64 .i64 8 (by omega) (by omega)
  obtain ⟨Z, HZ⟩ : ∃ Z : List Value, Hid (Z = List.replicate 8 (Value.int .i64 0)) := ⟨_, rfl⟩
  have hmc : madeCells #[Value.int .i64 0] 8 = Z.toArray := by
    apply Array.ext'
    rw [toList_madeCells_one, HZ.out]
  rw [hmc] at hmk0
  have hmk : ∀ W : World, (Instr.makeSlice 22 (.int .i64 8) (.int .i64 8)).run Try.prog W = .ok (.slice (some ⟨W.heap.size, 0, none⟩) 8 8) (W.alloc (.cells Z.toArray 2)) := hmk0
  clear hmk0 hmc
  have HL : Hid (L.length = n) := hL
  have hzl : Hid (Z.length = 8) := by unfold Hid; rw [HZ.out]; simp
  have HG : Hid (((w.alloc (.cells #[.int .i64 0, .int .i64 0, .int .i64 0, .int .i64 0, .int .i64 0, .int .i64 0, .int .i64 0, .int .i64 0] 65)).alloc (.cells Z.toArray 2)).heap[w.heap.size + 1]? = some (.cells Z.toArray 2 (0, 0))) := by
    have := Box.new (w.alloc (.cells #[.int .i64 0, .int .i64 0, .int .i64 0, .int .i64 0, .int .i64 0, .int .i64 0, .int .i64 0, .int .i64 0] 65)) 2 Z.toArray
    simp only [World.size_alloc] at this
    exact this
  have HB : Hid (Below w.heap.size w ((w.alloc (.cells #[.int .i64 0, .int .i64 0, .int .i64 0, .int .i64 0, .int .i64 0, .int .i64 0, .int .i64 0, .int .i64 0] 65)).alloc (.cells Z.toArray 2))) := ((Below.refl _ _).alloc (Nat.le_refl _) _).alloc (by simp) _
  have HR : Hid (Box ((w.alloc (.cells #[.int .i64 0, .int .i64 0, .int .i64 0, .int .i64 0, .int .i64 0, .int .i64 0, .int .i64 0, .int .i64 0] 65)).alloc (.cells Z.toArray 2)) w.heap.size 65 #[.int .i64 0, .int .i64 0, .int .i64 0, .int .i64 0, .int .i64 0, .int .i64 0, .int .i64 0, .int .i64 0]) := by
    have := Box.new w 65 #[.int .i64 0, .int .i64 0, .int .i64 0, .int .i64 0, .int .i64 0, .int .i64 0, .int .i64 0, .int .i64 0]
    exact this.alloc _
  have HPOS : Hid (0 < (L.map (Value.int .i64)).length → (some (⟨w.heap.size + 1, 0, none⟩ : Addr)) = some ⟨w.heap.size + 1, 0, none⟩ ∧ ∃ ad, A = some ad ∧ ∀ j v, (L.map (Value.int .i64))[j]? = some v → ((w.alloc (.cells #[.int .i64 0, .int .i64 0, .int .i64 0, .int .i64 0, .int .i64 0, .int .i64 0, .int .i64 0, .int .i64 0] 65)).alloc (.cells Z.toArray 2)).cell? (ad.add j) = some v) := by
    intro h
    refine ⟨rfl, ?_⟩
    obtain ⟨ad, rfl, _⟩ := hI 0 (by simpa using h)
    exact ⟨ad, rfl, (hI.below HB.out).news⟩
  have HS : Hid ((L.map (Value.int .i64)).length = Nat.min n 8) := by unfold Hid; rw [List.length_map, HL.out]; exact (Nat.min_eq_left hn).symm
  have HF : Hid (0 + (L.map (Value.int .i64)).length ≤ Z.length) := by unfold Hid; rw [hzl.out]; simp [HL.out]; exact hn
  have HPD : Hid (splice Z 0 (L.map (Value.int .i64)) = [.int .i64 (padI L 0), .int .i64 (padI L 1), .int .i64 (padI L 2), .int .i64 (padI L 3), .int .i64 (padI L 4), .int .i64 (padI L 5), .int .i64 (padI L 6), .int .i64 (padI L 7)]) := by
    unfold Hid
    rw [HZ.out]
    exact list8 (by rw [length_splice _ _ _ (by simp [HL.out]; exact hn)]; simp) (pad_splice (L := L) (by rw [hL]; exact hn))
  have hat := fun W : World => run_arrayAt (P := Try.prog) (w := W) 65 2 8 (some ⟨w.heap.size + 1, 0, none⟩) 8 8 Try.underlying65 (Nat.le_refl _)
  clear hI hL
  go_enter Try.func43, Try.ntmps43
  go_wp2_with (with_reducible refine wpList_copy_splice rfl (.tmp 5) (.tmp 6) 22 22 rfl 2 Try.underlying22 Try.sizeI2 (some ⟨w.heap.size + 1, 0, none⟩) A 8 8 n c rfl rfl (w.heap.size + 1) 0 Z 2 HG.out (L.map (Value.int .i64)) HS.out HPOS.out HF.out (ints_oneCell _ _) (w.heap.size + 1) _ (Below.refl _ _) (Nat.le_refl _) ?_; intro w1 hg1 hb1; have HR1 := Lib.hid (Box.below HR.out hb1 (by omega)); have HB1 := Lib.hid (HB.out.trans (hb1.mono (by omega))); clear hb1; have HX := Lib.hid (box8 (HPD.out) hg1); obtain ⟨x0, x1, x2, x3, x4, x5, x6, x7⟩ := cells8 HX.out; obtain ⟨r0, r1, r2, r3, r4, r5, r6, r7⟩ := cells8 HR1.out; have f0 := HR1.out.frozen 0; have f1 := HR1.out.frozen 1; have f2 := HR1.out.frozen 2; have f3 := HR1.out.frozen 3; have f4 := HR1.out.frozen 4; have f5 := HR1.out.frozen 5; have f6 := HR1.out.frozen 6; have f7 := HR1.out.frozen 7)
  generalize padI L 0 = p0 at *
  generalize padI L 1 = p1 at *
  generalize padI L 2 = p2 at *
  generalize padI L 3 = p3 at *
  generalize padI L 4 = p4 at *
  generalize padI L 5 = p5 at *
  generalize padI L 6 = p6 at *
  generalize padI L 7 = p7 at *
  clear x0 x1 x2 x3 x4 x5 x6 x7 hmk hat
  have hbx := Lib.hid ((((((((HR1.out.set 0 (.int .i64 p0)).set 1 (.int .i64 p1)).set 2 (.int .i64 p2)).set 3 (.int .i64 p3)).set 4 (.int .i64 p4)).set 5 (.int .i64 p5)).set 6 (.int .i64 p6)).set 7 (.int .i64 p7))
  refine bodyPost_ret (results_cell_row rfl _ _ w.heap.size 65 #[.int .i64 p0, .int .i64 p1, .int .i64 p2, .int .i64 p3, .int .i64 p4, .int .i64 p5, .int .i64 p6, .int .i64 p7] (0, 0) _ rfl hbx.out Try.underlying65 rfl (by kernel_rfl)) rfl ⟨rfl, ?_⟩
  exact ((((((((HB1.out.setCell (by simp) _).setCell (by simp) _).setCell (by simp) _).setCell (by simp) _).setCell (by simp) _).setCell (by simp) _).setCell (by simp) _).setCell (by simp) _)

end Go.Proofs.Ytnfjdggiaodhmaa
