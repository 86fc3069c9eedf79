/- Contracts: letters exchanged; the word of a state. -/
import Derived.Test.YtnfjdggiaodhmaaWord
import Derived.Test.YtnfjdggiaodhmaaWays
import Derived.Test.YtnfjdggiaodhmaaCode
import Derived.Test.YtnfjdggiaodhmaaMark
import Derived.BigQuiet
import Derived.Deep.DeepCutAuto
namespace Go.Proofs.Ytnfjdggiaodhmaa
open Go.RowKit
set_option linter.unusedVariables false

/-- The letters of the three pegs, those of both pegs other than a exchanged. -/
def exch (t : Int × Int × Int) (a : Int) : Int × Int × Int :=
  if a = 0 then (t.1, t.2.2, t.2.1) else if a = 1 then (t.2.2, t.2.1, t.1) else (t.2.1, t.1, t.2.2)
def selT (t : Int × Int × Int) (a : Int) : Int := if a = 0 then t.1 else if a = 1 then t.2.1 else t.2.2
def ltr : List Int → Int × Int × Int
  | [] => (0, 1, 2)
  | x :: r => exch (ltr r) x
def wosL : List Int → List Int
  | [] => []
  | x :: r => selT (ltr r) x :: wosL r
theorem wosL_len : ∀ L, (wosL L).length = L.length
  | [] => rfl
  | x :: r => by rw [wosL, List.length_cons, wosL_len r, List.length_cons]
theorem ltr_drop {L : List Int} {d : Nat} (h : d < L.length) : ltr (L.drop d) = exch (ltr (L.drop (d + 1))) (L[d]?.getD 0) := by
  rw [List.drop_eq_getElem_cons h, List.getElem?_eq_getElem h, Option.getD_some]
  rfl
theorem wosL_at : ∀ (L : List Int) (d : Nat), d < L.length → (wosL L)[d]?.getD 0 = selT (ltr (L.drop (d + 1))) (L[d]?.getD 0)
  | [], d, h => absurd h (by simp)
  | x :: r, 0, h => by simp [wosL]
  | x :: r, d + 1, h => by
    have := wosL_at r d (by simpa using h)
    simpa [wosL] using this

theorem thirdPeg2_calls (a b : Int) (w : World) (ha : 0 ≤ a ∧ a ≤ 2) (hb : 0 ≤ b ∧ b ≤ 2) :
    Calls Try.prog 50 #[.int .i64 a, .int .i64 b] w fun e w' => e = .returned (.int .i64 (3 - a - b)) ∧ w = w' := by
  go_enter Try.func50, Try.ntmps50
  go_wp2
  go_ret
  exact ⟨rfl, rfl⟩

set_option maxHeartbeats 2000000 in
theorem othersExchanged_zero (x y z : Int) (w : World) :
    Calls Try.prog 40 #[.agg #[.int .i64 x, .int .i64 y, .int .i64 z], .int .i64 0] w fun e w' => e = .returned (.agg #[.int .i64 x, .int .i64 z, .int .i64 y]) ∧ Below w.heap.size w w' := by
  obtain ⟨hX, hY, hB⟩ : Box ((w.alloc (.cells #[.int .i64 x, .int .i64 y, .int .i64 z] 59)).alloc (.cells #[.int .i64 0, .int .i64 0, .int .i64 0] 59)) w.heap.size 59 #[.int .i64 x, .int .i64 y, .int .i64 z] ∧
      Box ((w.alloc (.cells #[.int .i64 x, .int .i64 y, .int .i64 z] 59)).alloc (.cells #[.int .i64 0, .int .i64 0, .int .i64 0] 59)) (w.heap.size + 1) 59 #[.int .i64 0, .int .i64 0, .int .i64 0] ∧
      Below w.heap.size w ((w.alloc (.cells #[.int .i64 x, .int .i64 y, .int .i64 z] 59)).alloc (.cells #[.int .i64 0, .int .i64 0, .int .i64 0] 59)) := by
    refine ⟨(Box.new _ _ _).alloc _, ?_, ((Below.refl _ _).alloc (Nat.le_refl _) _).alloc (by simp) _⟩
    have := Box.new (w.alloc (.cells #[.int .i64 x, .int .i64 y, .int .i64 z] 59)) 59 #[.int .i64 0, .int .i64 0, .int .i64 0]
    rwa [World.size_alloc] at this
  have X0 := Lib.hid hX
  have Y0 := Lib.hid hY
  have HB0 := Lib.hid hB
  have hne : ¬ w.heap.size + 1 = w.heap.size := by omega
  obtain ⟨x0, x1, x2⟩ := hX.three
  have f0 := hX.frozen 0
  have f1 := hX.frozen 1
  have f2 := hX.frozen 2
  have g0 := hY.frozen 0
  have g1 := hY.frozen 1
  have g2 := hY.frozen 2
  clear hX hY hB
  go_enter Try.func40, Try.ntmps40
  go_wp2_with fail
  refine (thirdPeg2_calls 0 1 _ (by omega) (by omega)).mono ?_
  rintro e w' ⟨rfl, rfl⟩
  go_wp2_with fail
  generalize (w.alloc (.cells #[.int .i64 x, .int .i64 y, .int .i64 z] 59)).alloc (.cells #[.int .i64 0, .int .i64 0, .int .i64 0] 59) = w1 at *
  go_region
  have W2 : Hid (Box ((w1.setCell ⟨w.heap.size, 1, none⟩ (.int .i64 z)).setCell ⟨w.heap.size, 2, none⟩ (.int .i64 y)).drew w.heap.size 59 #[.int .i64 x, .int .i64 z, .int .i64 y]) := (X0.out.set 1 _).set 2 _
  have Y2 : Hid (Box ((w1.setCell ⟨w.heap.size, 1, none⟩ (.int .i64 z)).setCell ⟨w.heap.size, 2, none⟩ (.int .i64 y)).drew (w.heap.size + 1) 59 #[.int .i64 0, .int .i64 0, .int .i64 0]) := (Y0.out.other (by simp) _).other (by simp) _
  have HB2 : Hid (Below w.heap.size w ((w1.setCell ⟨w.heap.size, 1, none⟩ (.int .i64 z)).setCell ⟨w.heap.size, 2, none⟩ (.int .i64 y)).drew) := Lib.hid (((HB0.out.setCell (Nat.le_refl _) _).setCell (Nat.le_refl _) _).drew)
  clear x0 x1 x2 f0 f1 f2 g0 g1 g2 X0 Y0 HB0
  generalize ((w1.setCell ⟨w.heap.size, 1, none⟩ (.int .i64 z)).setCell ⟨w.heap.size, 2, none⟩ (.int .i64 y)).drew = w2 at *
  obtain ⟨x0, x1, x2⟩ := W2.out.three
  obtain ⟨y0, y1, y2⟩ := Y2.out.three
  have g0 := Y2.out.frozen 0
  have g1 := Y2.out.frozen 1
  have g2 := Y2.out.frozen 2
  go_wp2
  have hb5 : Hid (Box (((w2.setCell ⟨w.heap.size + 1, 0, none⟩ (.int .i64 x)).setCell ⟨w.heap.size + 1, 1, none⟩ (.int .i64 z)).setCell ⟨w.heap.size + 1, 2, none⟩ (.int .i64 y)) (w.heap.size + 1) 59 #[.int .i64 x, .int .i64 z, .int .i64 y]) := ((Y2.out.set 0 _).set 1 _).set 2 _
  refine bodyPost_ret (results_cell_row rfl _ _ (w.heap.size + 1) 59 #[.int .i64 x, .int .i64 z, .int .i64 y] (0, 0) _ rfl hb5.out Try.underlying59 rfl (by kernel_rfl)) rfl ⟨rfl, ?_⟩
  exact ((HB2.out.setCell (by simp) _).setCell (by simp) _).setCell (by simp) _

set_option maxHeartbeats 2000000 in
theorem othersExchanged_one (x y z : Int) (w : World) :
    Calls Try.prog 40 #[.agg #[.int .i64 x, .int .i64 y, .int .i64 z], .int .i64 1] w fun e w' => e = .returned (.agg #[.int .i64 z, .int .i64 y, .int .i64 x]) ∧ Below w.heap.size w w' := by
  obtain ⟨hX, hY, hB⟩ : Box ((w.alloc (.cells #[.int .i64 x, .int .i64 y, .int .i64 z] 59)).alloc (.cells #[.int .i64 0, .int .i64 0, .int .i64 0] 59)) w.heap.size 59 #[.int .i64 x, .int .i64 y, .int .i64 z] ∧
      Box ((w.alloc (.cells #[.int .i64 x, .int .i64 y, .int .i64 z] 59)).alloc (.cells #[.int .i64 0, .int .i64 0, .int .i64 0] 59)) (w.heap.size + 1) 59 #[.int .i64 0, .int .i64 0, .int .i64 0] ∧
      Below w.heap.size w ((w.alloc (.cells #[.int .i64 x, .int .i64 y, .int .i64 z] 59)).alloc (.cells #[.int .i64 0, .int .i64 0, .int .i64 0] 59)) := by
    refine ⟨(Box.new _ _ _).alloc _, ?_, ((Below.refl _ _).alloc (Nat.le_refl _) _).alloc (by simp) _⟩
    have := Box.new (w.alloc (.cells #[.int .i64 x, .int .i64 y, .int .i64 z] 59)) 59 #[.int .i64 0, .int .i64 0, .int .i64 0]
    rwa [World.size_alloc] at this
  have X0 := Lib.hid hX
  have Y0 := Lib.hid hY
  have HB0 := Lib.hid hB
  have hne : ¬ w.heap.size + 1 = w.heap.size := by omega
  obtain ⟨x0, x1, x2⟩ := hX.three
  have f0 := hX.frozen 0
  have f1 := hX.frozen 1
  have f2 := hX.frozen 2
  have g0 := hY.frozen 0
  have g1 := hY.frozen 1
  have g2 := hY.frozen 2
  clear hX hY hB
  go_enter Try.func40, Try.ntmps40
  go_wp2_with fail
  refine (thirdPeg2_calls 1 2 _ (by omega) (by omega)).mono ?_
  rintro e w' ⟨rfl, rfl⟩
  go_wp2_with fail
  generalize (w.alloc (.cells #[.int .i64 x, .int .i64 y, .int .i64 z] 59)).alloc (.cells #[.int .i64 0, .int .i64 0, .int .i64 0] 59) = w1 at *
  go_region
  have W2 : Hid (Box ((w1.setCell ⟨w.heap.size, 2, none⟩ (.int .i64 x)).setCell ⟨w.heap.size, 0, none⟩ (.int .i64 z)).drew w.heap.size 59 #[.int .i64 z, .int .i64 y, .int .i64 x]) := (X0.out.set 2 _).set 0 _
  have Y2 : Hid (Box ((w1.setCell ⟨w.heap.size, 2, none⟩ (.int .i64 x)).setCell ⟨w.heap.size, 0, none⟩ (.int .i64 z)).drew (w.heap.size + 1) 59 #[.int .i64 0, .int .i64 0, .int .i64 0]) := (Y0.out.other (by simp) _).other (by simp) _
  have HB2 : Hid (Below w.heap.size w ((w1.setCell ⟨w.heap.size, 2, none⟩ (.int .i64 x)).setCell ⟨w.heap.size, 0, none⟩ (.int .i64 z)).drew) := Lib.hid (((HB0.out.setCell (Nat.le_refl _) _).setCell (Nat.le_refl _) _).drew)
  clear x0 x1 x2 f0 f1 f2 g0 g1 g2 X0 Y0 HB0
  generalize ((w1.setCell ⟨w.heap.size, 2, none⟩ (.int .i64 x)).setCell ⟨w.heap.size, 0, none⟩ (.int .i64 z)).drew = w2 at *
  obtain ⟨x0, x1, x2⟩ := W2.out.three
  obtain ⟨y0, y1, y2⟩ := Y2.out.three
  have g0 := Y2.out.frozen 0
  have g1 := Y2.out.frozen 1
  have g2 := Y2.out.frozen 2
  go_wp2
  have hb5 : Hid (Box (((w2.setCell ⟨w.heap.size + 1, 0, none⟩ (.int .i64 z)).setCell ⟨w.heap.size + 1, 1, none⟩ (.int .i64 y)).setCell ⟨w.heap.size + 1, 2, none⟩ (.int .i64 x)) (w.heap.size + 1) 59 #[.int .i64 z, .int .i64 y, .int .i64 x]) := ((Y2.out.set 0 _).set 1 _).set 2 _
  refine bodyPost_ret (results_cell_row rfl _ _ (w.heap.size + 1) 59 #[.int .i64 z, .int .i64 y, .int .i64 x] (0, 0) _ rfl hb5.out Try.underlying59 rfl (by kernel_rfl)) rfl ⟨rfl, ?_⟩
  exact ((HB2.out.setCell (by simp) _).setCell (by simp) _).setCell (by simp) _

set_option maxHeartbeats 2000000 in
theorem othersExchanged_two (x y z : Int) (w : World) :
    Calls Try.prog 40 #[.agg #[.int .i64 x, .int .i64 y, .int .i64 z], .int .i64 2] w fun e w' => e = .returned (.agg #[.int .i64 y, .int .i64 x, .int .i64 z]) ∧ Below w.heap.size w w' := by
  obtain ⟨hX, hY, hB⟩ : Box ((w.alloc (.cells #[.int .i64 x, .int .i64 y, .int .i64 z] 59)).alloc (.cells #[.int .i64 0, .int .i64 0, .int .i64 0] 59)) w.heap.size 59 #[.int .i64 x, .int .i64 y, .int .i64 z] ∧
      Box ((w.alloc (.cells #[.int .i64 x, .int .i64 y, .int .i64 z] 59)).alloc (.cells #[.int .i64 0, .int .i64 0, .int .i64 0] 59)) (w.heap.size + 1) 59 #[.int .i64 0, .int .i64 0, .int .i64 0] ∧
      Below w.heap.size w ((w.alloc (.cells #[.int .i64 x, .int .i64 y, .int .i64 z] 59)).alloc (.cells #[.int .i64 0, .int .i64 0, .int .i64 0] 59)) := by
    refine ⟨(Box.new _ _ _).alloc _, ?_, ((Below.refl _ _).alloc (Nat.le_refl _) _).alloc (by simp) _⟩
    have := Box.new (w.alloc (.cells #[.int .i64 x, .int .i64 y, .int .i64 z] 59)) 59 #[.int .i64 0, .int .i64 0, .int .i64 0]
    rwa [World.size_alloc] at this
  have X0 := Lib.hid hX
  have Y0 := Lib.hid hY
  have HB0 := Lib.hid hB
  have hne : ¬ w.heap.size + 1 = w.heap.size := by omega
  obtain ⟨x0, x1, x2⟩ := hX.three
  have f0 := hX.frozen 0
  have f1 := hX.frozen 1
  have f2 := hX.frozen 2
  have g0 := hY.frozen 0
  have g1 := hY.frozen 1
  have g2 := hY.frozen 2
  clear hX hY hB
  go_enter Try.func40, Try.ntmps40
  go_wp2_with fail
  refine (thirdPeg2_calls 2 0 _ (by omega) (by omega)).mono ?_
  rintro e w' ⟨rfl, rfl⟩
  go_wp2_with fail
  generalize (w.alloc (.cells #[.int .i64 x, .int .i64 y, .int .i64 z] 59)).alloc (.cells #[.int .i64 0, .int .i64 0, .int .i64 0] 59) = w1 at *
  go_region
  have W2 : Hid (Box ((w1.setCell ⟨w.heap.size, 0, none⟩ (.int .i64 y)).setCell ⟨w.heap.size, 1, none⟩ (.int .i64 x)).drew w.heap.size 59 #[.int .i64 y, .int .i64 x, .int .i64 z]) := (X0.out.set 0 _).set 1 _
  have Y2 : Hid (Box ((w1.setCell ⟨w.heap.size, 0, none⟩ (.int .i64 y)).setCell ⟨w.heap.size, 1, none⟩ (.int .i64 x)).drew (w.heap.size + 1) 59 #[.int .i64 0, .int .i64 0, .int .i64 0]) := (Y0.out.other (by simp) _).other (by simp) _
  have HB2 : Hid (Below w.heap.size w ((w1.setCell ⟨w.heap.size, 0, none⟩ (.int .i64 y)).setCell ⟨w.heap.size, 1, none⟩ (.int .i64 x)).drew) := Lib.hid (((HB0.out.setCell (Nat.le_refl _) _).setCell (Nat.le_refl _) _).drew)
  clear x0 x1 x2 f0 f1 f2 g0 g1 g2 X0 Y0 HB0
  generalize ((w1.setCell ⟨w.heap.size, 0, none⟩ (.int .i64 y)).setCell ⟨w.heap.size, 1, none⟩ (.int .i64 x)).drew = w2 at *
  obtain ⟨x0, x1, x2⟩ := W2.out.three
  obtain ⟨y0, y1, y2⟩ := Y2.out.three
  have g0 := Y2.out.frozen 0
  have g1 := Y2.out.frozen 1
  have g2 := Y2.out.frozen 2
  go_wp2
  have hb5 : Hid (Box (((w2.setCell ⟨w.heap.size + 1, 0, none⟩ (.int .i64 y)).setCell ⟨w.heap.size + 1, 1, none⟩ (.int .i64 x)).setCell ⟨w.heap.size + 1, 2, none⟩ (.int .i64 z)) (w.heap.size + 1) 59 #[.int .i64 y, .int .i64 x, .int .i64 z]) := ((Y2.out.set 0 _).set 1 _).set 2 _
  refine bodyPost_ret (results_cell_row rfl _ _ (w.heap.size + 1) 59 #[.int .i64 y, .int .i64 x, .int .i64 z] (0, 0) _ rfl hb5.out Try.underlying59 rfl (by kernel_rfl)) rfl ⟨rfl, ?_⟩
  exact ((HB2.out.setCell (by simp) _).setCell (by simp) _).setCell (by simp) _

theorem othersExchanged_calls (t : Int × Int × Int) (a : Int) (w : World) (ha : 0 ≤ a ∧ a ≤ 2) :
    Calls Try.prog 40 #[.agg #[.int .i64 t.1, .int .i64 t.2.1, .int .i64 t.2.2], .int .i64 a] w fun e w' => e = .returned (.agg #[.int .i64 (exch t a).1, .int .i64 (exch t a).2.1, .int .i64 (exch t a).2.2]) ∧ Below w.heap.size w w' := by
  have : a = 0 ∨ a = 1 ∨ a = 2 := by omega
  rcases this with rfl | rfl | rfl
  · exact othersExchanged_zero _ _ _ w
  · exact othersExchanged_one _ _ _ w
  · exact othersExchanged_two _ _ _ w

def woV (p : Int) (L : List Int) : List Int := if code1 p L = 0 then wosL L else []
theorem woV_len (p : Int) (L : List Int) : (woV p L).length ≤ 8 := by
  unfold woV
  split
  · next h =>
    have := (state_facts (code1_zero h).1 rfl).2.2.1
    rw [wosL_len]
    exact this
  · simp

set_option maxHeartbeats 4000000 in
theorem implWordOfState_ret (A : Option Addr) (n c : Nat) (p : Int) (L : List Int) (w : World) (hL : L.length = n) (hn : n ≤ 1048576) (hI : Ints w A L) :
    Calls Try.prog 19 #[.agg #[.int .i64 p, .slice A n c]] w (RetInts w (woV p L).length (woV p L) (code1 p L)) := by
  have HL := Lib.hid hL
  have hX : Box ((w.alloc (.cells #[.int .i64 p, .slice A n c] 35)).alloc (.cells #[.int .i64 p, .slice A n c] 35)) (w.heap.size + 1) 35 #[.int .i64 p, .slice A n c] := by
    have := Box.new (w.alloc (.cells #[.int .i64 p, .slice A n c] 35)) 35 #[.int .i64 p, .slice A n c]
    rwa [World.size_alloc] at this
  have Y0 := Lib.hid hX
  have X0 := Lib.hid ((Box.new w 35 #[.int .i64 p, .slice A n c]).alloc (.cells #[.int .i64 p, .slice A n c] 35))
  have HB0 := Lib.hid (((Below.refl w.heap.size w).alloc (Nat.le_refl _) (.cells #[.int .i64 p, .slice A n c] 35)).alloc (by simp) (.cells #[.int .i64 p, .slice A n c] 35))
  have HI0 := Lib.hid (hI.below HB0.out)
  have HIw := Lib.hid hI
  clear hX hI
  by_cases hz : code1 p L = 0
  · obtain ⟨hs, rfl⟩ := code1_zero hz
    have hf := state_facts hs hL
    have HS := Lib.hid hs
    have hz' : (code1 3 L != 0) = false := by simpa using hz
    have hv : woV 3 L = wosL L := by unfold woV; rw [if_pos hz]
    rw [hv, hz]
    have HZ := Lib.hid hz
    have HWL := Lib.hid ((wosL_len L).trans hL)
    have hmk := run_make_row' (P := Try.prog) 22 2 (.int .i64 0) 8 Try.underlying22 Try.infoI rfl .i64 .i64 n (by omega) (by omega)
    clear hL hz hv hs
    go_enter Try.func19, Try.ntmps19
    go_wp2_with fail
    refine (codeOfStates_one (w.heap.size + 1) A n c 3 L _ Y0.out HL.out hn HI0.out).mono ?_
    rintro e w1 ⟨rfl, hb1⟩
    have X1 := Lib.hid (X0.out.below hb1 X0.out.lt)
    have HB1 := Lib.hid (HB0.out.trans (hb1.mono HB0.out.size))
    have HI1 := Lib.hid (HI0.out.below hb1)
    have hsz : w.heap.size < w1.heap.size := X1.out.lt
    clear hb1 X0 Y0 HB0 HI0
    obtain ⟨x0, x1, _, _⟩ := X1.out.two
    have X2 := Lib.hid ((X1.out.alloc (.cells (madeCells #[Value.int .i64 0] n) 2)).alloc (.cells #[.int .i64 0, .int .i64 1, .int .i64 2] 59))
    have T2 : Hid (Box ((w1.alloc (.cells (madeCells #[Value.int .i64 0] n) 2)).alloc (.cells #[.int .i64 0, .int .i64 1, .int .i64 2] 59)) (w1.heap.size + 1) 59 #[.int .i64 0, .int .i64 1, .int .i64 2]) := by
      have := Box.new (w1.alloc (.cells (madeCells #[Value.int .i64 0] n) 2)) 59 #[.int .i64 0, .int .i64 1, .int .i64 2]
      rwa [World.size_alloc] at this
    have R2 := Lib.hid ((World.rowIs_made w1 (.int .i64 0) n 2).alloc (.cells #[.int .i64 0, .int .i64 1, .int .i64 2] 59))
    have HB2 := Lib.hid ((HB1.out.alloc (by omega) (.cells (madeCells #[Value.int .i64 0] n) 2)).alloc (by simp; omega) (.cells #[.int .i64 0, .int .i64 1, .int .i64 2] 59))
    go_wp2
    clear hmk x0 x1 hz' HI1
    have hs2 : w1.heap.size + 1 < ((w1.alloc (.cells (madeCells #[Value.int .i64 0] n) 2)).alloc (.cells #[.int .i64 0, .int .i64 1, .int .i64 2] 59)).heap.size := T2.out.lt
    go_loopw [7, 8] (fun i _ wr => ∃ m : Nat, m ≤ n ∧ i = .int .i64 ((m : Int) - 1) ∧ Box wr w.heap.size 35 #[.int .i64 3, .slice A n c] ∧ Box wr (w1.heap.size + 1) 59 #[.int .i64 (ltr (L.drop m)).1, .int .i64 (ltr (L.drop m)).2.1, .int .i64 (ltr (L.drop m)).2.2] ∧ wr.rowIs w1.heap.size 2 n (downto (wosL L) m) ∧ Below w.heap.size w wr) (fun i _ _ => (intOf i + 1).toNat)
    case atStart =>
      refine ⟨n, Nat.le_refl _, rfl, X2.out, ?_, R2.out.congr (fun i hi => by simp [downto, hi]), HB2.out⟩
      rw [List.drop_of_length_le (by rw [HL.out]; exact Nat.le_refl _)]
      exact T2.out
    case round =>
      obtain ⟨m, hm, rfl, hx, ht, hr, hb⟩ := hrel
      have HX := Lib.hid hx
      have HT := Lib.hid ht
      have HR := Lib.hid hr
      have HB := Lib.hid hb
      have hlt1 := ht.lt
      clear X2 T2 R2 HB2 hs2
      cases m with
      | zero =>
        clear hx ht hr hb
        go_wp2
        go_ret2
        refine ⟨_, n, by rw [HWL.out]; rfl, ?_, HB.out⟩
        have hro : Row wr w1.heap.size 2 (wosL L) := by
          unfold Row
          rw [HWL.out]
          exact HR.out.congr (fun i hi => by simp [downto])
        have := hro.own (B := w.heap.size) (by omega) (by rw [HWL.out]; omega)
        rw [HWL.out] at this ⊢
        exact this
      | succ d =>
        have hd : d < L.length := by rw [HL.out]; omega
        have hx2 := state_at HS.out d hd
        obtain ⟨x, hxe⟩ := Int.eq_ofNat_of_zero_le hx2.1
        have hx3 : x < 3 := by omega
        have HLD := Lib.hid (ltr_drop hd)
        have HWA := Lib.hid (wosL_at L d hd)
        rw [hxe] at HLD HWA
        obtain ⟨ad, rfl, had, hc0⟩ := HIw.out d hd
        have hc : wr.cell? (ad.add d) = some (.int .i64 x) := by
          rw [hb.cell (p := ad.add d) (by rw [add_block]; exact had), hc0, ← hxe]
          simp
        obtain ⟨t, hte⟩ : ∃ t, ltr (L.drop (d + 1)) = t := ⟨_, rfl⟩
        rw [hte] at ht HLD HWA
        have HT' : Hid (Box wr (w1.heap.size + 1) 59 #[.int .i64 t.1, .int .i64 t.2.1, .int .i64 t.2.2]) := ht
        have hcx : wr.cell? ⟨w1.heap.size + 1, x, none⟩ = some (.int .i64 (selT t x)) := by
          have h3 := ht.three
          have : x = 0 ∨ x = 1 ∨ x = 2 := by omega
          rcases this with rfl | rfl | rfl
          · exact h3.1
          · exact h3.2.1
          · exact h3.2.2
        have hx30 : (x : Int) < 3 := by omega
        have hx00 : (0 : Int) ≤ (x : Int) := by omega
        have hfz := hr.frozen d
        have hold := hr.cell (i := d) (by omega)
        have hi0 : (0 : Int) ≤ (d : Int) := by omega
        have hi1 : (d : Int) < (n : Int) := by omega
        have hi2 : ((d + 1 : Nat) : Int) - 1 = (d : Int) := by omega
        rw [hi2]
        have HDS := Lib.hid (downto_step (wosL L) d)
        have T1 := Lib.hid (ht.other (a := ⟨w1.heap.size, d, none⟩) (by simp) (.int .i64 (selT t x)))
        have HX1 := Lib.hid (hx.other (a := ⟨w1.heap.size, d, none⟩) (by simp; omega) (.int .i64 (selT t x)))
        have R1 := Lib.hid (hr.set d (.int .i64 (selT t x)))
        have HB1' := Lib.hid (show Below w.heap.size w (wr.setCell ⟨w1.heap.size, d, none⟩ (.int .i64 (selT t x))) from hb.setCell (by show w.heap.size ≤ w1.heap.size; omega) _)
        obtain ⟨x0, x1, _, _⟩ := hx.two
        obtain ⟨t0, t1, t2⟩ := T1.out.three
        have hszw : w.heap.size ≤ (wr.setCell ⟨w1.heap.size, d, none⟩ (.int .i64 (selT t x))).heap.size := HB1'.out.size
        clear hx ht hr hb hc0 hte hi2 HT HX HR HB
        go_wp2_with fail
        refine (othersExchanged_calls t x _ (by omega)).mono ?_
        rintro e w3 ⟨rfl, hb3⟩
        have T3 := Lib.hid (T1.out.below hb3 T1.out.lt)
        have X3 := Lib.hid (HX1.out.below hb3 HX1.out.lt)
        have R3 := Lib.hid (R1.out.of_block (hb3.block _ R1.out.lt))
        have HB3 := Lib.hid (HB1'.out.trans (hb3.mono hszw))
        clear hb3 t0 t1 t2 x0 x1 hszw
        obtain ⟨t0, t1, t2⟩ := T3.out.three
        have g0 := T3.out.frozen 0
        have g1 := T3.out.frozen 1
        have g2 := T3.out.frozen 2
        go_wp2
        go_roundw
        case rel =>
          refine ⟨d, by omega, rfl, ?_, ?_, ?_, ?_⟩
          · exact ((X3.out.other (by show w.heap.size ≠ w1.heap.size + 1; omega) _).other (by show w.heap.size ≠ w1.heap.size + 1; omega) _).other (by show w.heap.size ≠ w1.heap.size + 1; omega) _
          · rw [HLD.out]
            exact ((T3.out.set 0 _).set 1 _).set 2 _
          · exact (((R3.out.setOther (by simp) _).setOther (by simp) _).setOther (by simp) _).congr (fun j _ => by rw [← HDS.out j, HWA.out])
          · exact ((HB3.out.setCell (by show w.heap.size ≤ w1.heap.size + 1; omega) _).setCell (by show w.heap.size ≤ w1.heap.size + 1; omega) _).setCell (by show w.heap.size ≤ w1.heap.size + 1; omega) _
        case measure => simp [intOf]
  · have hz' : (code1 p L != 0) = true := by simpa using hz
    have hv : woV p L = [] := by unfold woV; rw [if_neg hz]
    rw [hv]
    clear hL hv
    go_enter Try.func19, Try.ntmps19
    go_wp2_with fail
    refine (codeOfStates_one (w.heap.size + 1) A n c p L _ Y0.out HL.out hn HI0.out).mono ?_
    rintro e w1 ⟨rfl, hb1⟩
    have HB1 := Lib.hid (HB0.out.trans (hb1.mono HB0.out.size))
    clear hb1
    go_wp2
    go_ret2
    exact retInts_zero rfl HB1.out

def WMade (w1 : World) (n : Nat) (t4 t5 : Value) (wc : World) : Prop :=
  ∃ gl go : Nat, t4 = .slice (some ⟨gl, 0, none⟩) 3 3 ∧ t5 = .slice (some ⟨go, 0, none⟩) n n ∧ gl ≠ go ∧ w1.heap.size ≤ gl ∧ w1.heap.size ≤ go ∧ Box wc gl 2 #[.int .i64 0, .int .i64 1, .int .i64 2] ∧ wc.rowIs go 2 n (fun _ => .int .i64 0) ∧ Below w1.heap.size w1 wc

set_option maxHeartbeats 4000000 in
theorem specWordOfState_ret (A : Option Addr) (n c : Nat) (p : Int) (L : List Int) (w : World) (hL : L.length = n) (hn : n ≤ 1048576) (hI : Ints w A L) :
    Calls Try.prog 17 #[.agg #[.int .i64 p, .slice A n c]] w (RetInts w (woV p L).length (woV p L) (code1 p L)) := by
  have HL := Lib.hid hL
  have X0 := Lib.hid (Box.new w 35 #[.int .i64 p, .slice A n c])
  have HB0 := Lib.hid ((Below.refl w.heap.size w).alloc (Nat.le_refl _) (.cells #[.int .i64 p, .slice A n c] 35))
  have HI0 := Lib.hid (hI.below HB0.out)
  have HIw := Lib.hid hI
  clear hI
  by_cases hs : stateB p L = true
  · have hf := state_facts hs hL
    have HS := Lib.hid hs
    by_cases hp : p = 3
    · subst hp
      have hz : code1 3 L = 0 := by unfold code1; rw [if_pos hs]; rfl
      have hv : woV 3 L = wosL L := by unfold woV; rw [if_pos hz]
      rw [hv, hz]
      have hd3 : ((3 : Int) != 3) = false := rfl
      have HWL := Lib.hid ((wosL_len L).trans hL)
      have hmk := run_make_row' (P := Try.prog) 22 2 (.int .i64 0) 8 Try.underlying22 Try.infoI rfl .i64 .i64 n (by omega) (by omega)
      clear hL hz hv
      go_enter Try.func17, Try.ntmps17
      go_wp2_with fail
      refine (l01Is_calls A n c 3 L _ HL.out hn HI0.out).mono ?_
      rintro e w1 ⟨rfl, hb1⟩
      have X1 := Lib.hid (X0.out.below hb1 X0.out.lt)
      have HB1 := Lib.hid (HB0.out.trans (hb1.mono HB0.out.size))
      have hsz : w.heap.size < w1.heap.size := X1.out.lt
      clear hb1 X0 HB0 HI0
      obtain ⟨x0, x1, _, _⟩ := X1.out.two
      go_upto_region 5 with (fail)
      go_cut [4, 5] (fun t4 t5 wc => WMade w1 n t4 t5 wc)
      case first =>
        go_region
        all_goals
          go_wp2_with fail
          go_meet
          case rel =>
            first
            | exact ⟨w1.heap.size, w1.heap.size + 1, rfl, rfl, by omega, Nat.le_refl _, by omega, (Box.new w1 _ _).alloc _, by
                have := World.rowIs_made (w1.alloc (.cells #[.int .i64 0, .int .i64 1, .int .i64 2] 2)) (.int .i64 0) n 2
                rw [World.size_alloc] at this
                exact this, ((((Below.refl _ _).alloc (Nat.le_refl _) _).alloc (by simp) _).drew)⟩
            | exact ⟨w1.heap.size + 1, w1.heap.size, rfl, rfl, by omega, by omega, Nat.le_refl _, by
                have := Box.new (w1.alloc (.cells (madeCells #[Value.int .i64 0] n) 2)) 2 #[.int .i64 0, .int .i64 1, .int .i64 2]
                rw [World.size_alloc] at this
                exact this, (World.rowIs_made w1 (.int .i64 0) n 2).alloc _, ((((Below.refl _ _).alloc (Nat.le_refl _) _).alloc (by simp) _).drew)⟩
      case rest =>
        obtain ⟨gl, go, rfl, rfl, hne, hgl, hgo, hbx, hrow, hbel⟩ := hcut
        have X2 := Lib.hid (X1.out.below hbel X1.out.lt)
        have T2 := Lib.hid hbx
        have R2 := Lib.hid hrow
        have HB2 := Lib.hid (HB1.out.trans (hbel.mono HB1.out.size))
        obtain ⟨y0, y1, _, _⟩ := X2.out.two
        clear hbx hrow hbel x0 x1 hmk hs
        go_wp2
        clear y0 y1
        go_loopw [6, 7, 8, 9, 10] (fun i _ _ _ _ wr => ∃ m : Nat, m ≤ n ∧ i = .int .i64 ((m : Int) - 1) ∧ Box wr w.heap.size 35 #[.int .i64 3, .slice A n c] ∧ Box wr gl 2 #[.int .i64 (ltr (L.drop m)).1, .int .i64 (ltr (L.drop m)).2.1, .int .i64 (ltr (L.drop m)).2.2] ∧ wr.rowIs go 2 n (downto (wosL L) m) ∧ Below w.heap.size w wr) (fun i _ _ _ _ _ => (intOf i + 1).toNat)
        case atStart =>
          refine ⟨n, Nat.le_refl _, rfl, X2.out, ?_, R2.out.congr (fun i hi => by simp [downto, hi]), HB2.out⟩
          rw [List.drop_of_length_le (by rw [HL.out]; exact Nat.le_refl _)]
          exact T2.out
        case round =>
          obtain ⟨m, hm, rfl, hx, ht, hr, hb⟩ := hrel
          have HX := Lib.hid hx
          have HT := Lib.hid ht
          have HR := Lib.hid hr
          have HB := Lib.hid hb
          clear X2 T2 R2 HB2
          cases m with
          | zero =>
            clear hx ht hr hb
            go_wp2
            go_ret2
            refine ⟨_, n, by rw [HWL.out]; rfl, ?_, HB.out⟩
            have hro : Row wr go 2 (wosL L) := by
              unfold Row
              rw [HWL.out]
              exact HR.out.congr (fun i hi => by simp [downto])
            have := hro.own (B := w.heap.size) (by omega) (by rw [HWL.out]; omega)
            rw [HWL.out] at this ⊢
            exact this
          | succ d =>
          have hd : d < L.length := by rw [HL.out]; omega
          have hx2 := state_at HS.out d hd
          obtain ⟨x, hxe⟩ := Int.eq_ofNat_of_zero_le hx2.1
          have hx3 : x = 0 ∨ x = 1 ∨ x = 2 := by omega
          have HLD := Lib.hid (ltr_drop hd)
          have HWA := Lib.hid (wosL_at L d hd)
          rw [hxe] at HLD HWA
          obtain ⟨ad, rfl, had, hc0⟩ := HIw.out d hd
          have hc : wr.cell? (ad.add d) = some (.int .i64 x) := by
            rw [hb.cell (p := ad.add d) (by rw [add_block]; exact had), hc0, ← hxe]
            simp
          obtain ⟨t, hte⟩ : ∃ t, ltr (L.drop (d + 1)) = t := ⟨_, rfl⟩
          rw [hte] at ht HLD HWA
          have hfz := hr.frozen d
          have hold := hr.cell (i := d) (by omega)
          have hi0 : (0 : Int) ≤ (d : Int) := by omega
          have hi1 : (d : Int) < (n : Int) := by omega
          have hi2 : ((d + 1 : Nat) : Int) - 1 = (d : Int) := by omega
          rw [hi2]
          have HDS := Lib.hid (downto_step (wosL L) d)
          clear hxe hx2
          rcases hx3 with rfl | rfl | rfl
          · have T1 := Lib.hid (show Box (wr.setCell ⟨go, d, none⟩ (.int .i64 t.1)) gl 2 #[.int .i64 t.1, .int .i64 t.2.1, .int .i64 t.2.2] from ht.other (by exact hne) _)
            have T2 := Lib.hid (show Box ((wr.setCell ⟨go, d, none⟩ (.int .i64 t.1)).setCell ⟨gl, 1, none⟩ (.int .i64 t.2.2)) gl 2 ((#[.int .i64 t.1, .int .i64 t.2.1, .int .i64 t.2.2] : Array Value).setIfInBounds 1 (.int .i64 t.2.2)) from T1.out.set 1 _)
            have HX1 := Lib.hid (show Box (wr.setCell ⟨go, d, none⟩ (.int .i64 t.1)) w.heap.size 35 #[.int .i64 3, .slice (some ad) n c] from hx.other (by show w.heap.size ≠ go; omega) _)
            have R1 := Lib.hid (hr.set d (.int .i64 t.1))
            have HB1' := Lib.hid (show Below w.heap.size w (wr.setCell ⟨go, d, none⟩ (.int .i64 t.1)) from hb.setCell (by show w.heap.size ≤ go; omega) _)
            obtain ⟨x0, x1, _, _⟩ := hx.two
            obtain ⟨l0, l1, l2⟩ := ht.three
            obtain ⟨t0, t1, t2⟩ := T1.out.three
            have f0 := T1.out.frozen 1
            have f1 := T2.out.frozen 2
            clear hx ht hr hb hc0 hte hi2 HX HT HR HB
            go_wp2
            go_roundw
            case rel =>
              refine ⟨d, by omega, rfl, ?_, ?_, ?_, ?_⟩
              · exact (HX1.out.other (by show w.heap.size ≠ gl; omega) _).other (by show w.heap.size ≠ gl; omega) _
              · rw [HLD.out]
                exact T2.out.set 2 _
              · exact ((R1.out.setOther (by exact fun e => hne e.symm) _).setOther (by exact fun e => hne e.symm) _).congr (fun j _ => by rw [← HDS.out j, HWA.out]; rfl)
              · exact (HB1'.out.setCell (by show w.heap.size ≤ gl; omega) _).setCell (by show w.heap.size ≤ gl; omega) _
            case measure => simp [intOf]
          · have T1 := Lib.hid (show Box (wr.setCell ⟨go, d, none⟩ (.int .i64 t.2.1)) gl 2 #[.int .i64 t.1, .int .i64 t.2.1, .int .i64 t.2.2] from ht.other (by exact hne) _)
            have T2 := Lib.hid (show Box ((wr.setCell ⟨go, d, none⟩ (.int .i64 t.2.1)).setCell ⟨gl, 2, none⟩ (.int .i64 t.1)) gl 2 ((#[.int .i64 t.1, .int .i64 t.2.1, .int .i64 t.2.2] : Array Value).setIfInBounds 2 (.int .i64 t.1)) from T1.out.set 2 _)
            have HX1 := Lib.hid (show Box (wr.setCell ⟨go, d, none⟩ (.int .i64 t.2.1)) w.heap.size 35 #[.int .i64 3, .slice (some ad) n c] from hx.other (by show w.heap.size ≠ go; omega) _)
            have R1 := Lib.hid (hr.set d (.int .i64 t.2.1))
            have HB1' := Lib.hid (show Below w.heap.size w (wr.setCell ⟨go, d, none⟩ (.int .i64 t.2.1)) from hb.setCell (by show w.heap.size ≤ go; omega) _)
            obtain ⟨x0, x1, _, _⟩ := hx.two
            obtain ⟨l0, l1, l2⟩ := ht.three
            obtain ⟨t0, t1, t2⟩ := T1.out.three
            have f0 := T1.out.frozen 2
            have f1 := T2.out.frozen 0
            clear hx ht hr hb hc0 hte hi2 HX HT HR HB
            go_wp2
            go_roundw
            case rel =>
              refine ⟨d, by omega, rfl, ?_, ?_, ?_, ?_⟩
              · exact (HX1.out.other (by show w.heap.size ≠ gl; omega) _).other (by show w.heap.size ≠ gl; omega) _
              · rw [HLD.out]
                exact T2.out.set 0 _
              · exact ((R1.out.setOther (by exact fun e => hne e.symm) _).setOther (by exact fun e => hne e.symm) _).congr (fun j _ => by rw [← HDS.out j, HWA.out]; rfl)
              · exact (HB1'.out.setCell (by show w.heap.size ≤ gl; omega) _).setCell (by show w.heap.size ≤ gl; omega) _
            case measure => simp [intOf]
          · have T1 := Lib.hid (show Box (wr.setCell ⟨go, d, none⟩ (.int .i64 t.2.2)) gl 2 #[.int .i64 t.1, .int .i64 t.2.1, .int .i64 t.2.2] from ht.other (by exact hne) _)
            have T2 := Lib.hid (show Box ((wr.setCell ⟨go, d, none⟩ (.int .i64 t.2.2)).setCell ⟨gl, 0, none⟩ (.int .i64 t.2.1)) gl 2 ((#[.int .i64 t.1, .int .i64 t.2.1, .int .i64 t.2.2] : Array Value).setIfInBounds 0 (.int .i64 t.2.1)) from T1.out.set 0 _)
            have HX1 := Lib.hid (show Box (wr.setCell ⟨go, d, none⟩ (.int .i64 t.2.2)) w.heap.size 35 #[.int .i64 3, .slice (some ad) n c] from hx.other (by show w.heap.size ≠ go; omega) _)
            have R1 := Lib.hid (hr.set d (.int .i64 t.2.2))
            have HB1' := Lib.hid (show Below w.heap.size w (wr.setCell ⟨go, d, none⟩ (.int .i64 t.2.2)) from hb.setCell (by show w.heap.size ≤ go; omega) _)
            obtain ⟨x0, x1, _, _⟩ := hx.two
            obtain ⟨l0, l1, l2⟩ := ht.three
            obtain ⟨t0, t1, t2⟩ := T1.out.three
            have f0 := T1.out.frozen 0
            have f1 := T2.out.frozen 1
            clear hx ht hr hb hc0 hte hi2 HX HT HR HB
            go_wp2
            go_roundw
            case rel =>
              refine ⟨d, by omega, rfl, ?_, ?_, ?_, ?_⟩
              · exact (HX1.out.other (by show w.heap.size ≠ gl; omega) _).other (by show w.heap.size ≠ gl; omega) _
              · rw [HLD.out]
                exact T2.out.set 1 _
              · exact ((R1.out.setOther (by exact fun e => hne e.symm) _).setOther (by exact fun e => hne e.symm) _).congr (fun j _ => by rw [← HDS.out j, HWA.out]; rfl)
              · exact (HB1'.out.setCell (by show w.heap.size ≤ gl; omega) _).setCell (by show w.heap.size ≤ gl; omega) _
            case measure => simp [intOf]
    · have hz : code1 p L = 2 := by unfold code1; rw [if_pos hs, if_neg hp]
      have hv : woV p L = [] := by unfold woV; rw [if_neg (by omega)]
      have hd3 : (p != 3) = true := by simpa using hp
      rw [hv, hz]
      clear hL hz hv hp
      go_enter Try.func17, Try.ntmps17
      go_wp2_with fail
      refine (l01Is_calls A n c p L _ HL.out hn HI0.out).mono ?_
      rintro e w1 ⟨rfl, hb1⟩
      have X1 := Lib.hid (X0.out.below hb1 X0.out.lt)
      have HB1 := Lib.hid (HB0.out.trans (hb1.mono HB0.out.size))
      clear hb1 X0 HB0 HI0
      obtain ⟨x0, x1, _, _⟩ := X1.out.two
      go_wp2
      go_ret2
      exact retInts_zero rfl HB1.out
  · have hs' : stateB p L = false := by simpa using hs
    have hz : code1 p L = 1 := by unfold code1; rw [hs']; rfl
    have hv : woV p L = [] := by unfold woV; rw [if_neg (by omega)]
    rw [hv, hz]
    clear hL hz hv hs
    go_enter Try.func17, Try.ntmps17
    go_wp2_with fail
    refine (l01Is_calls A n c p L _ HL.out hn HI0.out).mono ?_
    rintro e w1 ⟨rfl, hb1⟩
    have HB1 := Lib.hid (HB0.out.trans (hb1.mono HB0.out.size))
    clear hb1
    go_wp2
    go_ret2
    exact retInts_zero rfl HB1.out

end Go.Proofs.Ytnfjdggiaodhmaa
