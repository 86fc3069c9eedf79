/- Contracts: the pegs of a state as an array. -/
import Derived.Test.YtfdjlgpdbgmdkaaState1
import Derived.Test.YtfdjlgpdbgmdkaaMark
import Derived.Test.YtfdjlgpdbgmdkaaNews
import Derived.Laws.CopyOwn
import Derived.WalkLawsBesides
import Derived.Laws.Rows
namespace Go.Proofs.Ytfdjlgpdbgmdkaa
open Go.RowKit
set_option linter.unusedVariables false

theorem Try.sizeI2 : (Try.prog.info? 2).map (·.size) = some 1 := by kernel_rfl

/-- Eight numbers: those of the list, then noughts. -/
def padI (L : List Int) (i : Nat) : Int := L[i]?.getD 0
def padV (L : List Int) (i : Nat) : Value := .int .i64 (padI L i)
theorem pad_splice {L : List Int} (h : L.length ≤ 8) : ∀ i, i < 8 → (splice (List.replicate 8 (Value.int .i64 0)) 0 (L.map (Value.int .i64)))[i]? = some (padV L i) := by
  intro i hi
  unfold splice padV padI
  rw [List.take_zero, List.nil_append, Nat.zero_add]
  by_cases hl : i < L.length
  · rw [List.getElem?_append_left (by simpa using hl)]
    simp [hl]
  · rw [List.getElem?_append_right (by simp; omega)]
    have e : L[i]?.getD 0 = 0 := by rw [List.getElem?_eq_none (by omega)]; rfl
    rw [e, List.getElem?_drop, List.getElem?_replicate, if_pos (by simp; omega)]
/-- A list of eight. -/
theorem list8 {l : List Value} (h : l.length = 8) {f : Nat → Value} (hf : ∀ i, i < 8 → l[i]? = some (f i)) : l = [f 0, f 1, f 2, f 3, f 4, f 5, f 6, f 7] := by
  apply List.ext_getElem?
  intro i
  by_cases hi : i < 8
  · rw [hf i hi]
    have : i = 0 ∨ i = 1 ∨ i = 2 ∨ i = 3 ∨ i = 4 ∨ i = 5 ∨ i = 6 ∨ i = 7 := by omega
    rcases this with rfl | rfl | rfl | rfl | rfl | rfl | rfl | rfl <;> rfl
  · rw [List.getElem?_eq_none (by omega), List.getElem?_eq_none (by simp; omega)]

theorem box8 {w : World} {g t : Nat} {l : List Value} {a b c d e f x y : Value} (h : l = [a, b, c, d, e, f, x, y]) (hb : Hid (w.heap[g]? = some (.cells l.toArray t (0, 0)))) : Box w g t #[a, b, c, d, e, f, x, y] := by
  subst h
  exact hb.out
theorem cells8 {w : World} {g t : Nat} {a b c d e f x y : Value} (h : Box w g t #[a, b, c, d, e, f, x, y]) :
    w.cell? ⟨g, 0, none⟩ = some a ∧ w.cell? ⟨g, 1, none⟩ = some b ∧ w.cell? ⟨g, 2, none⟩ = some c ∧ w.cell? ⟨g, 3, none⟩ = some d ∧ w.cell? ⟨g, 4, none⟩ = some e ∧ w.cell? ⟨g, 5, none⟩ = some f ∧ w.cell? ⟨g, 6, none⟩ = some x ∧ w.cell? ⟨g, 7, none⟩ = some y :=
  ⟨h.cell 0, h.cell 1, h.cell 2, h.cell 3, h.cell 4, h.cell 5, h.cell 6, h.cell 7⟩

set_option maxHeartbeats 1000000 in
theorem pegsOf_calls (A : Option Addr) (n c : Nat) (p : Int) (L : List Int) (w : World) (hL : L.length = n) (hn : n ≤ 8) (hI : Ints w A L) :
    Calls Try.prog 62 #[.agg #[.int .i64 p, .slice A n c]] w fun e w' => e = .returned (.agg #[.int .i64 (padI L 0), .int .i64 (padI L 1), .int .i64 (padI L 2), .int .i64 (padI L 3), .int .i64 (padI L 4), .int .i64 (padI L 5), .int .i64 (padI L 6), .int .i64 (padI L 7)]) ∧ Below w.heap.size w w' := by
  have hmk0 := run_make_row' (P := Try.prog) 24 2 (.int .i64 0) 8 Try.underlying24 Try.infoI rfl .i64 .i64 8 (by omega) (by omega)
  obtain ⟨Z, HZ⟩ : ∃ Z : List Value, Hid (Z = List.replicate 8 (Value.int .i64 0)) := ⟨_, rfl⟩
  have hmc : madeCells #[Value.int .i64 0] 8 = Z.toArray := by
    apply Array.ext'
    rw [toList_madeCells_one, HZ.out]
  rw [hmc] at hmk0
  have hmk : ∀ W : World, (Instr.makeSlice 24 (.int .i64 8) (.int .i64 8)).run Try.prog W = .ok (.slice (some ⟨W.heap.size, 0, none⟩) 8 8) (W.alloc (.cells Z.toArray 2)) := hmk0
  clear hmk0 hmc
  have HL : Hid (L.length = n) := hL
  have hzl : Hid (Z.length = 8) := by unfold Hid; rw [HZ.out]; simp
  have HG : Hid ((((w.alloc (.cells #[.int .i64 p, .slice A n c] 26)).alloc (.cells #[.int .i64 0, .int .i64 0, .int .i64 0, .int .i64 0, .int .i64 0, .int .i64 0, .int .i64 0, .int .i64 0] 80)).alloc (.cells Z.toArray 2)).heap[w.heap.size + 1 + 1]? = some (.cells Z.toArray 2 (0, 0))) := by
    have := Box.new ((w.alloc (.cells #[.int .i64 p, .slice A n c] 26)).alloc (.cells #[.int .i64 0, .int .i64 0, .int .i64 0, .int .i64 0, .int .i64 0, .int .i64 0, .int .i64 0, .int .i64 0] 80)) 2 Z.toArray
    simp only [World.size_alloc] at this
    exact this
  have HB : Hid (Below w.heap.size w (((w.alloc (.cells #[.int .i64 p, .slice A n c] 26)).alloc (.cells #[.int .i64 0, .int .i64 0, .int .i64 0, .int .i64 0, .int .i64 0, .int .i64 0, .int .i64 0, .int .i64 0] 80)).alloc (.cells Z.toArray 2))) := (((Below.refl _ _).alloc (Nat.le_refl _) _).alloc (by simp) _).alloc (by simp; omega) _
  have HR : Hid (Box (((w.alloc (.cells #[.int .i64 p, .slice A n c] 26)).alloc (.cells #[.int .i64 0, .int .i64 0, .int .i64 0, .int .i64 0, .int .i64 0, .int .i64 0, .int .i64 0, .int .i64 0] 80)).alloc (.cells Z.toArray 2)) (w.heap.size + 1) 80 #[.int .i64 0, .int .i64 0, .int .i64 0, .int .i64 0, .int .i64 0, .int .i64 0, .int .i64 0, .int .i64 0]) := by
    have := Box.new (w.alloc (.cells #[.int .i64 p, .slice A n c] 26)) 80 #[.int .i64 0, .int .i64 0, .int .i64 0, .int .i64 0, .int .i64 0, .int .i64 0, .int .i64 0, .int .i64 0]
    rw [World.size_alloc] at this
    exact this.alloc _
  have HPOS : Hid (0 < (L.map (Value.int .i64)).length → (some (⟨w.heap.size + 1 + 1, 0, none⟩ : Addr)) = some ⟨w.heap.size + 1 + 1, 0, none⟩ ∧ ∃ ad, A = some ad ∧ ∀ j v, (L.map (Value.int .i64))[j]? = some v → (((w.alloc (.cells #[.int .i64 p, .slice A n c] 26)).alloc (.cells #[.int .i64 0, .int .i64 0, .int .i64 0, .int .i64 0, .int .i64 0, .int .i64 0, .int .i64 0, .int .i64 0] 80)).alloc (.cells Z.toArray 2)).cell? (ad.add j) = some v) := by
    intro h
    refine ⟨rfl, ?_⟩
    obtain ⟨ad, rfl, _⟩ := hI 0 (by simpa using h)
    exact ⟨ad, rfl, (hI.below HB.out).news⟩
  have HS : Hid ((L.map (Value.int .i64)).length = Nat.min n 8) := by unfold Hid; rw [List.length_map, HL.out]; exact (Nat.min_eq_left hn).symm
  have HF : Hid (0 + (L.map (Value.int .i64)).length ≤ Z.length) := by unfold Hid; rw [hzl.out]; simp [HL.out]; exact hn
  have HPD : Hid (splice Z 0 (L.map (Value.int .i64)) = [.int .i64 (padI L 0), .int .i64 (padI L 1), .int .i64 (padI L 2), .int .i64 (padI L 3), .int .i64 (padI L 4), .int .i64 (padI L 5), .int .i64 (padI L 6), .int .i64 (padI L 7)]) := by
    unfold Hid
    rw [HZ.out]
    exact list8 (by rw [length_splice _ _ _ (by simp [HL.out]; exact hn)]; simp) (pad_splice (L := L) (by rw [hL]; exact hn))
  have hat := fun W : World => run_arrayAt (P := Try.prog) (w := W) 80 2 8 (some ⟨w.heap.size + 1 + 1, 0, none⟩) 8 8 Try.underlying80 (Nat.le_refl _)
  clear hI hL
  go_enter Try.func62, Try.ntmps62
  go_wp2_with (with_reducible refine wpList_copy_splice rfl (.tmp 5) (.tmp 7) 24 24 rfl 2 Try.underlying24 Try.sizeI2 (some ⟨w.heap.size + 1 + 1, 0, none⟩) A 8 8 n c rfl rfl (w.heap.size + 1 + 1) 0 Z 2 HG.out (L.map (Value.int .i64)) HS.out HPOS.out HF.out (ints_oneCell _ _) (w.heap.size + 1 + 1) _ (Below.refl _ _) (Nat.le_refl _) ?_; intro w1 hg1 hb1; have HR1 := Lib.hid (Box.below HR.out hb1 (by omega)); have HB1 := Lib.hid (HB.out.trans (hb1.mono (by omega))); clear hb1; have HX := Lib.hid (box8 (HPD.out) hg1); obtain ⟨x0, x1, x2, x3, x4, x5, x6, x7⟩ := cells8 HX.out; obtain ⟨r0, r1, r2, r3, r4, r5, r6, r7⟩ := cells8 HR1.out; have f0 := HR1.out.frozen 0; have f1 := HR1.out.frozen 1; have f2 := HR1.out.frozen 2; have f3 := HR1.out.frozen 3; have f4 := HR1.out.frozen 4; have f5 := HR1.out.frozen 5; have f6 := HR1.out.frozen 6; have f7 := HR1.out.frozen 7)
  generalize padI L 0 = p0 at *
  generalize padI L 1 = p1 at *
  generalize padI L 2 = p2 at *
  generalize padI L 3 = p3 at *
  generalize padI L 4 = p4 at *
  generalize padI L 5 = p5 at *
  generalize padI L 6 = p6 at *
  generalize padI L 7 = p7 at *
  clear x0 x1 x2 x3 x4 x5 x6 x7 hmk hat
  have hbx := Lib.hid ((((((((HR1.out.set 0 (.int .i64 p0)).set 1 (.int .i64 p1)).set 2 (.int .i64 p2)).set 3 (.int .i64 p3)).set 4 (.int .i64 p4)).set 5 (.int .i64 p5)).set 6 (.int .i64 p6)).set 7 (.int .i64 p7))
  refine bodyPost_ret (results_cell_row rfl _ _ (w.heap.size + 1) 80 #[.int .i64 p0, .int .i64 p1, .int .i64 p2, .int .i64 p3, .int .i64 p4, .int .i64 p5, .int .i64 p6, .int .i64 p7] (0, 0) _ rfl hbx.out Try.underlying80 rfl (by kernel_rfl)) rfl ⟨rfl, ?_⟩
  exact ((((((((HB1.out.setCell (by simp) _).setCell (by simp) _).setCell (by simp) _).setCell (by simp) _).setCell (by simp) _).setCell (by simp) _).setCell (by simp) _).setCell (by simp) _)

end Go.Proofs.Ytfdjlgpdbgmdkaa
