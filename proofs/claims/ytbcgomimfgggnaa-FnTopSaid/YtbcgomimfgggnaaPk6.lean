/- Contracts: the law's copies and sizes. · Contracts: words, by the specification's model and by the program. · Contracts: letters exchanged; the word of a state. · Contracts: the pegs of a state as an array. · Two arrays of eight numbers are compared. · Contracts: the array of a word; two such arrays are compared. · Contracts: the code of one word and of two words, by the program; two words, by the specification's model. · Contracts: the distance to an extreme word. · Contracts: the greatest place at which two words differ. · Contracts: straight and detour numbers, by the program. · Contracts: DetourNumber, by the specification's model and by the program. · Contracts: the straight number and the detour numbers of two words, as a list. · Contracts: StraightNumber, by the specification's model and by the program. -/
import Derived.Test.YtbcgomimfgggnaaPk1
import Derived.Test.YtbcgomimfgggnaaPk2
import Derived.BigQuiet
import Derived.Deep.DeepCutAuto
import Derived.Test.YtbcgomimfgggnaaPk4
import Derived.Laws.CopyOwn
import Derived.WalkLawsBesides
import Derived.Laws.Rows
import Derived.Test.YtbcgomimfgggnaaRows
import Derived.DeepKeys
import Derived.Laws.StructEq
import Derived.StillTailTactics
import Derived.Deep.RegionHeld3
namespace Go.Proofs.Ytbcgomimfgggnaa
open Go.RowKit
set_option linter.unusedVariables false
set_option maxRecDepth 100000

theorem szInt64S_calls (A : Option Addr) (n c : Nat) (left : Int) (w : World) (hn : n ≤ 9223372036854775807) (h0 : 0 ≤ left) (h1 : left ≤ 1048576) :
    Calls Try.prog 53 #[.slice A n c, .int .i64 left] w fun e w' => e = .returned (.int .i64 (szI n left)) ∧ w = w' := by
  by_cases h : left < n
  · go_enter Try.func53, Try.ntmps53
    go_wp2
    go_ret
    exact ⟨ret_int (by unfold szI; omega), rfl⟩
  · go_enter Try.func53, Try.ntmps53
    go_wp2
    go_ret
    exact ⟨ret_int (by unfold szI; omega), rfl⟩

theorem szI_lo (n : Nat) (left : Int) (h0 : 0 ≤ left) : -1 ≤ szI n left := by unfold szI; omega
theorem szI_hi (n : Nat) (left : Int) (h0 : 0 ≤ left) : szI n left ≤ left := by unfold szI; omega

theorem szState_calls (A : Option Addr) (n c : Nat) (p left : Int) (w : World) (hn : n ≤ 9223372036854775807) (h0 : 0 ≤ left) (h1 : left ≤ 1048576) :
    Calls Try.prog 27 #[.agg #[.int .i64 p, .slice A n c], .int .i64 left] w fun e w' => e = .returned (.int .i64 (szI n left)) ∧ Below w.heap.size w w' := by
  go_enter Try.func27, Try.ntmps27
  go_wp2_with (go_at_call 53; refine (szInt64S_calls A n c left _ hn h0 h1).mono ?_; rintro e w' ⟨rfl, rfl⟩)
  all_goals
    go_ret
    exact ⟨ret_int (by have := szI_lo n left h0; omega), (Below.refl _ _).alloc (Nat.le_refl _) _⟩

set_option maxHeartbeats 400000 in
theorem toInt64S_calls (A : Option Addr) (n c : Nat) (L : List Int) (w : World) (hL : L.length = n) (hn : n ≤ 1048576) (hI : Ints w A L) :
    Calls Try.prog 54 #[.slice A n c] w fun e w' => ∃ g, e = .returned (.slice (some ⟨g, 0, none⟩) n n) ∧ w.heap.size ≤ g ∧ Row w' g 2 L ∧ Below w.heap.size w w' := by
  have hmk := run_make_row' (P := Try.prog) 28 2 (.int .i64 0) 8 Try.underlying28 Try.infoI rfl .i64 .i64 n (by omega) (by omega)
  have HL : Hid (L.length = n) := hL
  clear hL
  go_enter Try.func54, Try.ntmps54
  go_wp2
  go_loopw [4] (fun i wr => ∃ k : Nat, k ≤ n ∧ i = .int .i64 k ∧ wr.rowIs w.heap.size 2 n (upto L k) ∧ Below w.heap.size w wr) (fun i _ => n - (intOf i).toNat)
  case atStart =>
    exact ⟨0, Nat.zero_le _, rfl, (World.rowIs_made _ _ _ _).congr (fun i _ => by simp [upto]), (Below.refl _ _).alloc (Nat.le_refl _) _⟩
  case round =>
    obtain ⟨k, hk, rfl, hrow, hb⟩ := hrel
    by_cases hlt : k < n
    · obtain ⟨ad, rfl, had, hc⟩ := (hI.below hb) k (by rw [HL.out]; exact hlt)
      have hfz := hrow.frozen k
      have hold := hrow.cell hlt
      go_wp2
      go_roundw
      case rel => exact ⟨k + 1, by omega, by go_num, (hrow.set k _).congr (fun j _ => upto_step L k j), hb.setCell (Nat.le_refl _) _⟩
      case measure => simp [intOf]; omega
    · obtain rfl : k = n := by omega
      go_wp2
      go_ret
      exact ⟨_, rfl, Nat.le_refl _, by
        unfold Row
        rw [HL.out]
        exact hrow.congr (fun j hj => by simp [upto, hj]), hb⟩

set_option maxHeartbeats 400000 in
theorem toState_calls (A : Option Addr) (n c : Nat) (p : Int) (L : List Int) (w : World) (hL : L.length = n) (hn : n ≤ 1048576) (hI : Ints w A L) :
    Calls Try.prog 28 #[.agg #[.int .i64 p, .slice A n c]] w fun e w' => ∃ g, e = .returned (.agg #[.int .i64 p, .slice (some ⟨g, 0, none⟩) n n]) ∧ w.heap.size ≤ g ∧ Row w' g 2 L ∧ Below w.heap.size w w' := by
  go_enter Try.func28, Try.ntmps28
  go_wp2_with fail
  refine (toInt64S_calls A n c L _ hL hn (hI.below ((((Below.refl _ _).alloc (Nat.le_refl _) _).alloc (by simp) _).alloc (by simp; omega) _))).mono ?_
  rintro e w1 ⟨g, rfl, hg, hrow, hb⟩
  obtain ⟨hc, hf⟩ := keptCells hb
  have hz : w.heap.size + 3 ≤ w1.heap.size := by have := hb.size; simp at this; omega
  have hg' : w.heap.size + 3 ≤ g := by simp at hg; omega
  have HB := Lib.hid hb
  have HR := Lib.hid hrow
  clear hb hrow hg
  go_wp2
  refine bodyPost_ret (v := .agg #[.int .i64 p, .slice (some ⟨g, 0, none⟩) n n]) (by simp [results, Try.results28, go_sem, hc]) rfl ⟨g, rfl, by omega, ?_, ?_⟩
  · exact ((HR.out.setOther (by simp; omega) _).setOther (by simp; omega) _).setOther (by simp; omega) _
  · exact ((((((Below.refl _ _).alloc (Nat.le_refl _) _).alloc (by simp) _).alloc (by simp; omega) _).trans (HB.out.mono (by simp; omega))).setCell (by simp; omega) _).setCell (by simp) _ |>.setCell (by simp) _

end Go.Proofs.Ytbcgomimfgggnaa

namespace Go.Proofs.Ytbcgomimfgggnaa
open Go.RowKit
set_option linter.unusedVariables false
set_option maxRecDepth 100000

theorem implIsSierpinskiWord_calls (p : Int) (A : Option Addr) (n c : Nat) (L : List Int) (w : World) (hL : L.length = n) (hn : n ≤ 1048576) (hI : Ints w A L) :
    Calls Try.prog 63 #[.int .i64 p, .slice A n c] w fun e w' => e = .returned (.bool (stateB p L)) ∧ Below w.heap.size w w' := by
  go_enter Try.func63, Try.ntmps63
  go_wp2_with fail
  refine (implIsState_calls A n c p L _ hL hn hI).mono ?_
  rintro e w1 ⟨rfl, hb⟩
  go_wp2
  go_ret
  exact ⟨rfl, hb⟩

end Go.Proofs.Ytbcgomimfgggnaa

namespace Go.Proofs.Ytbcgomimfgggnaa
open Go.RowKit
set_option linter.unusedVariables false
set_option maxRecDepth 100000

/-- The letters of the three pegs, those of both pegs other than a exchanged. -/
def exch (t : Int × Int × Int) (a : Int) : Int × Int × Int :=
  if a = 0 then (t.1, t.2.2, t.2.1) else if a = 1 then (t.2.2, t.2.1, t.1) else (t.2.1, t.1, t.2.2)
def selT (t : Int × Int × Int) (a : Int) : Int := if a = 0 then t.1 else if a = 1 then t.2.1 else t.2.2
def ltr : List Int → Int × Int × Int
  | [] => (0, 1, 2)
  | x :: r => exch (ltr r) x
def wosL : List Int → List Int
  | [] => []
  | x :: r => selT (ltr r) x :: wosL r
theorem wosL_len : ∀ L, (wosL L).length = L.length
  | [] => rfl
  | x :: r => by rw [wosL, List.length_cons, wosL_len r, List.length_cons]
theorem ltr_drop {L : List Int} {d : Nat} (h : d < L.length) : ltr (L.drop d) = exch (ltr (L.drop (d + 1))) (L[d]?.getD 0) := by
  rw [List.drop_eq_getElem_cons h, List.getElem?_eq_getElem h, Option.getD_some]
  rfl
theorem wosL_at : ∀ (L : List Int) (d : Nat), d < L.length → (wosL L)[d]?.getD 0 = selT (ltr (L.drop (d + 1))) (L[d]?.getD 0)
  | [], d, h => absurd h (by simp)
  | x :: r, 0, h => by simp [wosL]
  | x :: r, d + 1, h => by
    have := wosL_at r d (by simpa using h)
    simpa [wosL] using this

theorem thirdPeg2_calls (a b : Int) (w : World) (ha : 0 ≤ a ∧ a ≤ 2) (hb : 0 ≤ b ∧ b ≤ 2) :
    Calls Try.prog 62 #[.int .i64 a, .int .i64 b] w fun e w' => e = .returned (.int .i64 (3 - a - b)) ∧ w = w' := by
  go_enter Try.func62, Try.ntmps62
  go_wp2
  go_ret
  exact ⟨rfl, rfl⟩

set_option maxHeartbeats 2000000 in
theorem othersExchanged_zero (x y z : Int) (w : World) :
    Calls Try.prog 39 #[.agg #[.int .i64 x, .int .i64 y, .int .i64 z], .int .i64 0] w fun e w' => e = .returned (.agg #[.int .i64 x, .int .i64 z, .int .i64 y]) ∧ Below w.heap.size w w' := by
  obtain ⟨hX, hY, hB⟩ : Box ((w.alloc (.cells #[.int .i64 x, .int .i64 y, .int .i64 z] 60)).alloc (.cells #[.int .i64 0, .int .i64 0, .int .i64 0] 60)) w.heap.size 60 #[.int .i64 x, .int .i64 y, .int .i64 z] ∧
      Box ((w.alloc (.cells #[.int .i64 x, .int .i64 y, .int .i64 z] 60)).alloc (.cells #[.int .i64 0, .int .i64 0, .int .i64 0] 60)) (w.heap.size + 1) 60 #[.int .i64 0, .int .i64 0, .int .i64 0] ∧
      Below w.heap.size w ((w.alloc (.cells #[.int .i64 x, .int .i64 y, .int .i64 z] 60)).alloc (.cells #[.int .i64 0, .int .i64 0, .int .i64 0] 60)) := by
    refine ⟨(Box.new _ _ _).alloc _, ?_, ((Below.refl _ _).alloc (Nat.le_refl _) _).alloc (by simp) _⟩
    have := Box.new (w.alloc (.cells #[.int .i64 x, .int .i64 y, .int .i64 z] 60)) 60 #[.int .i64 0, .int .i64 0, .int .i64 0]
    rwa [World.size_alloc] at this
  have X0 := Lib.hid hX
  have Y0 := Lib.hid hY
  have HB0 := Lib.hid hB
  have hne : ¬ w.heap.size + 1 = w.heap.size := by omega
  obtain ⟨x0, x1, x2⟩ := hX.three
  have f0 := hX.frozen 0
  have f1 := hX.frozen 1
  have f2 := hX.frozen 2
  have g0 := hY.frozen 0
  have g1 := hY.frozen 1
  have g2 := hY.frozen 2
  clear hX hY hB
  go_enter Try.func39, Try.ntmps39
  go_wp2_with fail
  refine (thirdPeg2_calls 0 1 _ (by omega) (by omega)).mono ?_
  rintro e w' ⟨rfl, rfl⟩
  go_wp2_with fail
  generalize (w.alloc (.cells #[.int .i64 x, .int .i64 y, .int .i64 z] 60)).alloc (.cells #[.int .i64 0, .int .i64 0, .int .i64 0] 60) = w1 at *
  go_region
  have W2 : Hid (Box ((w1.setCell ⟨w.heap.size, 1, none⟩ (.int .i64 z)).setCell ⟨w.heap.size, 2, none⟩ (.int .i64 y)).drew w.heap.size 60 #[.int .i64 x, .int .i64 z, .int .i64 y]) := (X0.out.set 1 _).set 2 _
  have Y2 : Hid (Box ((w1.setCell ⟨w.heap.size, 1, none⟩ (.int .i64 z)).setCell ⟨w.heap.size, 2, none⟩ (.int .i64 y)).drew (w.heap.size + 1) 60 #[.int .i64 0, .int .i64 0, .int .i64 0]) := (Y0.out.other (by simp) _).other (by simp) _
  have HB2 : Hid (Below w.heap.size w ((w1.setCell ⟨w.heap.size, 1, none⟩ (.int .i64 z)).setCell ⟨w.heap.size, 2, none⟩ (.int .i64 y)).drew) := Lib.hid (((HB0.out.setCell (Nat.le_refl _) _).setCell (Nat.le_refl _) _).drew)
  clear x0 x1 x2 f0 f1 f2 g0 g1 g2 X0 Y0 HB0
  generalize ((w1.setCell ⟨w.heap.size, 1, none⟩ (.int .i64 z)).setCell ⟨w.heap.size, 2, none⟩ (.int .i64 y)).drew = w2 at *
  obtain ⟨x0, x1, x2⟩ := W2.out.three
  obtain ⟨y0, y1, y2⟩ := Y2.out.three
  have g0 := Y2.out.frozen 0
  have g1 := Y2.out.frozen 1
  have g2 := Y2.out.frozen 2
  go_wp2
  have hb5 : Hid (Box (((w2.setCell ⟨w.heap.size + 1, 0, none⟩ (.int .i64 x)).setCell ⟨w.heap.size + 1, 1, none⟩ (.int .i64 z)).setCell ⟨w.heap.size + 1, 2, none⟩ (.int .i64 y)) (w.heap.size + 1) 60 #[.int .i64 x, .int .i64 z, .int .i64 y]) := ((Y2.out.set 0 _).set 1 _).set 2 _
  refine bodyPost_ret (results_cell_row rfl _ _ (w.heap.size + 1) 60 #[.int .i64 x, .int .i64 z, .int .i64 y] (0, 0) _ rfl hb5.out Try.underlying60 rfl (by kernel_rfl)) rfl ⟨rfl, ?_⟩
  exact ((HB2.out.setCell (by simp) _).setCell (by simp) _).setCell (by simp) _

set_option maxHeartbeats 2000000 in
theorem othersExchanged_one (x y z : Int) (w : World) :
    Calls Try.prog 39 #[.agg #[.int .i64 x, .int .i64 y, .int .i64 z], .int .i64 1] w fun e w' => e = .returned (.agg #[.int .i64 z, .int .i64 y, .int .i64 x]) ∧ Below w.heap.size w w' := by
  obtain ⟨hX, hY, hB⟩ : Box ((w.alloc (.cells #[.int .i64 x, .int .i64 y, .int .i64 z] 60)).alloc (.cells #[.int .i64 0, .int .i64 0, .int .i64 0] 60)) w.heap.size 60 #[.int .i64 x, .int .i64 y, .int .i64 z] ∧
      Box ((w.alloc (.cells #[.int .i64 x, .int .i64 y, .int .i64 z] 60)).alloc (.cells #[.int .i64 0, .int .i64 0, .int .i64 0] 60)) (w.heap.size + 1) 60 #[.int .i64 0, .int .i64 0, .int .i64 0] ∧
      Below w.heap.size w ((w.alloc (.cells #[.int .i64 x, .int .i64 y, .int .i64 z] 60)).alloc (.cells #[.int .i64 0, .int .i64 0, .int .i64 0] 60)) := by
    refine ⟨(Box.new _ _ _).alloc _, ?_, ((Below.refl _ _).alloc (Nat.le_refl _) _).alloc (by simp) _⟩
    have := Box.new (w.alloc (.cells #[.int .i64 x, .int .i64 y, .int .i64 z] 60)) 60 #[.int .i64 0, .int .i64 0, .int .i64 0]
    rwa [World.size_alloc] at this
  have X0 := Lib.hid hX
  have Y0 := Lib.hid hY
  have HB0 := Lib.hid hB
  have hne : ¬ w.heap.size + 1 = w.heap.size := by omega
  obtain ⟨x0, x1, x2⟩ := hX.three
  have f0 := hX.frozen 0
  have f1 := hX.frozen 1
  have f2 := hX.frozen 2
  have g0 := hY.frozen 0
  have g1 := hY.frozen 1
  have g2 := hY.frozen 2
  clear hX hY hB
  go_enter Try.func39, Try.ntmps39
  go_wp2_with fail
  refine (thirdPeg2_calls 1 2 _ (by omega) (by omega)).mono ?_
  rintro e w' ⟨rfl, rfl⟩
  go_wp2_with fail
  generalize (w.alloc (.cells #[.int .i64 x, .int .i64 y, .int .i64 z] 60)).alloc (.cells #[.int .i64 0, .int .i64 0, .int .i64 0] 60) = w1 at *
  go_region
  have W2 : Hid (Box ((w1.setCell ⟨w.heap.size, 2, none⟩ (.int .i64 x)).setCell ⟨w.heap.size, 0, none⟩ (.int .i64 z)).drew w.heap.size 60 #[.int .i64 z, .int .i64 y, .int .i64 x]) := (X0.out.set 2 _).set 0 _
  have Y2 : Hid (Box ((w1.setCell ⟨w.heap.size, 2, none⟩ (.int .i64 x)).setCell ⟨w.heap.size, 0, none⟩ (.int .i64 z)).drew (w.heap.size + 1) 60 #[.int .i64 0, .int .i64 0, .int .i64 0]) := (Y0.out.other (by simp) _).other (by simp) _
  have HB2 : Hid (Below w.heap.size w ((w1.setCell ⟨w.heap.size, 2, none⟩ (.int .i64 x)).setCell ⟨w.heap.size, 0, none⟩ (.int .i64 z)).drew) := Lib.hid (((HB0.out.setCell (Nat.le_refl _) _).setCell (Nat.le_refl _) _).drew)
  clear x0 x1 x2 f0 f1 f2 g0 g1 g2 X0 Y0 HB0
  generalize ((w1.setCell ⟨w.heap.size, 2, none⟩ (.int .i64 x)).setCell ⟨w.heap.size, 0, none⟩ (.int .i64 z)).drew = w2 at *
  obtain ⟨x0, x1, x2⟩ := W2.out.three
  obtain ⟨y0, y1, y2⟩ := Y2.out.three
  have g0 := Y2.out.frozen 0
  have g1 := Y2.out.frozen 1
  have g2 := Y2.out.frozen 2
  go_wp2
  have hb5 : Hid (Box (((w2.setCell ⟨w.heap.size + 1, 0, none⟩ (.int .i64 z)).setCell ⟨w.heap.size + 1, 1, none⟩ (.int .i64 y)).setCell ⟨w.heap.size + 1, 2, none⟩ (.int .i64 x)) (w.heap.size + 1) 60 #[.int .i64 z, .int .i64 y, .int .i64 x]) := ((Y2.out.set 0 _).set 1 _).set 2 _
  refine bodyPost_ret (results_cell_row rfl _ _ (w.heap.size + 1) 60 #[.int .i64 z, .int .i64 y, .int .i64 x] (0, 0) _ rfl hb5.out Try.underlying60 rfl (by kernel_rfl)) rfl ⟨rfl, ?_⟩
  exact ((HB2.out.setCell (by simp) _).setCell (by simp) _).setCell (by simp) _

set_option maxHeartbeats 2000000 in
theorem othersExchanged_two (x y z : Int) (w : World) :
    Calls Try.prog 39 #[.agg #[.int .i64 x, .int .i64 y, .int .i64 z], .int .i64 2] w fun e w' => e = .returned (.agg #[.int .i64 y, .int .i64 x, .int .i64 z]) ∧ Below w.heap.size w w' := by
  obtain ⟨hX, hY, hB⟩ : Box ((w.alloc (.cells #[.int .i64 x, .int .i64 y, .int .i64 z] 60)).alloc (.cells #[.int .i64 0, .int .i64 0, .int .i64 0] 60)) w.heap.size 60 #[.int .i64 x, .int .i64 y, .int .i64 z] ∧
      Box ((w.alloc (.cells #[.int .i64 x, .int .i64 y, .int .i64 z] 60)).alloc (.cells #[.int .i64 0, .int .i64 0, .int .i64 0] 60)) (w.heap.size + 1) 60 #[.int .i64 0, .int .i64 0, .int .i64 0] ∧
      Below w.heap.size w ((w.alloc (.cells #[.int .i64 x, .int .i64 y, .int .i64 z] 60)).alloc (.cells #[.int .i64 0, .int .i64 0, .int .i64 0] 60)) := by
    refine ⟨(Box.new _ _ _).alloc _, ?_, ((Below.refl _ _).alloc (Nat.le_refl _) _).alloc (by simp) _⟩
    have := Box.new (w.alloc (.cells #[.int .i64 x, .int .i64 y, .int .i64 z] 60)) 60 #[.int .i64 0, .int .i64 0, .int .i64 0]
    rwa [World.size_alloc] at this
  have X0 := Lib.hid hX
  have Y0 := Lib.hid hY
  have HB0 := Lib.hid hB
  have hne : ¬ w.heap.size + 1 = w.heap.size := by omega
  obtain ⟨x0, x1, x2⟩ := hX.three
  have f0 := hX.frozen 0
  have f1 := hX.frozen 1
  have f2 := hX.frozen 2
  have g0 := hY.frozen 0
  have g1 := hY.frozen 1
  have g2 := hY.frozen 2
  clear hX hY hB
  go_enter Try.func39, Try.ntmps39
  go_wp2_with fail
  refine (thirdPeg2_calls 2 0 _ (by omega) (by omega)).mono ?_
  rintro e w' ⟨rfl, rfl⟩
  go_wp2_with fail
  generalize (w.alloc (.cells #[.int .i64 x, .int .i64 y, .int .i64 z] 60)).alloc (.cells #[.int .i64 0, .int .i64 0, .int .i64 0] 60) = w1 at *
  go_region
  have W2 : Hid (Box ((w1.setCell ⟨w.heap.size, 0, none⟩ (.int .i64 y)).setCell ⟨w.heap.size, 1, none⟩ (.int .i64 x)).drew w.heap.size 60 #[.int .i64 y, .int .i64 x, .int .i64 z]) := (X0.out.set 0 _).set 1 _
  have Y2 : Hid (Box ((w1.setCell ⟨w.heap.size, 0, none⟩ (.int .i64 y)).setCell ⟨w.heap.size, 1, none⟩ (.int .i64 x)).drew (w.heap.size + 1) 60 #[.int .i64 0, .int .i64 0, .int .i64 0]) := (Y0.out.other (by simp) _).other (by simp) _
  have HB2 : Hid (Below w.heap.size w ((w1.setCell ⟨w.heap.size, 0, none⟩ (.int .i64 y)).setCell ⟨w.heap.size, 1, none⟩ (.int .i64 x)).drew) := Lib.hid (((HB0.out.setCell (Nat.le_refl _) _).setCell (Nat.le_refl _) _).drew)
  clear x0 x1 x2 f0 f1 f2 g0 g1 g2 X0 Y0 HB0
  generalize ((w1.setCell ⟨w.heap.size, 0, none⟩ (.int .i64 y)).setCell ⟨w.heap.size, 1, none⟩ (.int .i64 x)).drew = w2 at *
  obtain ⟨x0, x1, x2⟩ := W2.out.three
  obtain ⟨y0, y1, y2⟩ := Y2.out.three
  have g0 := Y2.out.frozen 0
  have g1 := Y2.out.frozen 1
  have g2 := Y2.out.frozen 2
  go_wp2
  have hb5 : Hid (Box (((w2.setCell ⟨w.heap.size + 1, 0, none⟩ (.int .i64 y)).setCell ⟨w.heap.size + 1, 1, none⟩ (.int .i64 x)).setCell ⟨w.heap.size + 1, 2, none⟩ (.int .i64 z)) (w.heap.size + 1) 60 #[.int .i64 y, .int .i64 x, .int .i64 z]) := ((Y2.out.set 0 _).set 1 _).set 2 _
  refine bodyPost_ret (results_cell_row rfl _ _ (w.heap.size + 1) 60 #[.int .i64 y, .int .i64 x, .int .i64 z] (0, 0) _ rfl hb5.out Try.underlying60 rfl (by kernel_rfl)) rfl ⟨rfl, ?_⟩
  exact ((HB2.out.setCell (by simp) _).setCell (by simp) _).setCell (by simp) _

theorem othersExchanged_calls (t : Int × Int × Int) (a : Int) (w : World) (ha : 0 ≤ a ∧ a ≤ 2) :
    Calls Try.prog 39 #[.agg #[.int .i64 t.1, .int .i64 t.2.1, .int .i64 t.2.2], .int .i64 a] w fun e w' => e = .returned (.agg #[.int .i64 (exch t a).1, .int .i64 (exch t a).2.1, .int .i64 (exch t a).2.2]) ∧ Below w.heap.size w w' := by
  have : a = 0 ∨ a = 1 ∨ a = 2 := by omega
  rcases this with rfl | rfl | rfl
  · exact othersExchanged_zero _ _ _ w
  · exact othersExchanged_one _ _ _ w
  · exact othersExchanged_two _ _ _ w

def woV (p : Int) (L : List Int) : List Int := if code1 p L = 0 then wosL L else []
theorem woV_len (p : Int) (L : List Int) : (woV p L).length ≤ 8 := by
  unfold woV
  split
  · next h =>
    have := (state_facts (code1_zero h).1 rfl).2.2.1
    rw [wosL_len]
    exact this
  · simp

set_option maxHeartbeats 4000000 in
theorem implWordOfState_ret (A : Option Addr) (n c : Nat) (p : Int) (L : List Int) (w : World) (hL : L.length = n) (hn : n ≤ 1048576) (hI : Ints w A L) :
    Calls Try.prog 11 #[.agg #[.int .i64 p, .slice A n c]] w (RetInts w (woV p L).length (woV p L) (code1 p L)) := by
  have HL := Lib.hid hL
  have hX : Box ((w.alloc (.cells #[.int .i64 p, .slice A n c] 30)).alloc (.cells #[.int .i64 p, .slice A n c] 30)) (w.heap.size + 1) 30 #[.int .i64 p, .slice A n c] := by
    have := Box.new (w.alloc (.cells #[.int .i64 p, .slice A n c] 30)) 30 #[.int .i64 p, .slice A n c]
    rwa [World.size_alloc] at this
  have Y0 := Lib.hid hX
  have X0 := Lib.hid ((Box.new w 30 #[.int .i64 p, .slice A n c]).alloc (.cells #[.int .i64 p, .slice A n c] 30))
  have HB0 := Lib.hid (((Below.refl w.heap.size w).alloc (Nat.le_refl _) (.cells #[.int .i64 p, .slice A n c] 30)).alloc (by simp) (.cells #[.int .i64 p, .slice A n c] 30))
  have HI0 := Lib.hid (hI.below HB0.out)
  have HIw := Lib.hid hI
  clear hX hI
  by_cases hz : code1 p L = 0
  · obtain ⟨hs, rfl⟩ := code1_zero hz
    have hf := state_facts hs hL
    have HS := Lib.hid hs
    have hz' : (code1 3 L != 0) = false := by simpa using hz
    have hv : woV 3 L = wosL L := by unfold woV; rw [if_pos hz]
    rw [hv, hz]
    have HZ := Lib.hid hz
    have HWL := Lib.hid ((wosL_len L).trans hL)
    have hmk := run_make_row' (P := Try.prog) 28 2 (.int .i64 0) 8 Try.underlying28 Try.infoI rfl .i64 .i64 n (by omega) (by omega)
    clear hL hz hv hs
    go_enter Try.func11, Try.ntmps11
    go_wp2_with fail
    refine (codeOfStates_one (w.heap.size + 1) A n c 3 L _ Y0.out HL.out hn HI0.out).mono ?_
    rintro e w1 ⟨rfl, hb1⟩
    have X1 := Lib.hid (X0.out.below hb1 X0.out.lt)
    have HB1 := Lib.hid (HB0.out.trans (hb1.mono HB0.out.size))
    have HI1 := Lib.hid (HI0.out.below hb1)
    have hsz : w.heap.size < w1.heap.size := X1.out.lt
    clear hb1 X0 Y0 HB0 HI0
    obtain ⟨x0, x1, _, _⟩ := X1.out.two
    have X2 := Lib.hid ((X1.out.alloc (.cells (madeCells #[Value.int .i64 0] n) 2)).alloc (.cells #[.int .i64 0, .int .i64 1, .int .i64 2] 60))
    have T2 : Hid (Box ((w1.alloc (.cells (madeCells #[Value.int .i64 0] n) 2)).alloc (.cells #[.int .i64 0, .int .i64 1, .int .i64 2] 60)) (w1.heap.size + 1) 60 #[.int .i64 0, .int .i64 1, .int .i64 2]) := by
      have := Box.new (w1.alloc (.cells (madeCells #[Value.int .i64 0] n) 2)) 60 #[.int .i64 0, .int .i64 1, .int .i64 2]
      rwa [World.size_alloc] at this
    have R2 := Lib.hid ((World.rowIs_made w1 (.int .i64 0) n 2).alloc (.cells #[.int .i64 0, .int .i64 1, .int .i64 2] 60))
    have HB2 := Lib.hid ((HB1.out.alloc (by omega) (.cells (madeCells #[Value.int .i64 0] n) 2)).alloc (by simp; omega) (.cells #[.int .i64 0, .int .i64 1, .int .i64 2] 60))
    go_wp2
    clear hmk x0 x1 hz' HI1
    have hs2 : w1.heap.size + 1 < ((w1.alloc (.cells (madeCells #[Value.int .i64 0] n) 2)).alloc (.cells #[.int .i64 0, .int .i64 1, .int .i64 2] 60)).heap.size := T2.out.lt
    go_loopw [7, 8] (fun i _ wr => ∃ m : Nat, m ≤ n ∧ i = .int .i64 ((m : Int) - 1) ∧ Box wr w.heap.size 30 #[.int .i64 3, .slice A n c] ∧ Box wr (w1.heap.size + 1) 60 #[.int .i64 (ltr (L.drop m)).1, .int .i64 (ltr (L.drop m)).2.1, .int .i64 (ltr (L.drop m)).2.2] ∧ wr.rowIs w1.heap.size 2 n (downto (wosL L) m) ∧ Below w.heap.size w wr) (fun i _ _ => (intOf i + 1).toNat)
    case atStart =>
      refine ⟨n, Nat.le_refl _, rfl, X2.out, ?_, R2.out.congr (fun i hi => by simp [downto, hi]), HB2.out⟩
      rw [List.drop_of_length_le (by rw [HL.out]; exact Nat.le_refl _)]
      exact T2.out
    case round =>
      obtain ⟨m, hm, rfl, hx, ht, hr, hb⟩ := hrel
      have HX := Lib.hid hx
      have HT := Lib.hid ht
      have HR := Lib.hid hr
      have HB := Lib.hid hb
      have hlt1 := ht.lt
      clear X2 T2 R2 HB2 hs2
      cases m with
      | zero =>
        clear hx ht hr hb
        go_wp2
        go_ret2
        refine ⟨_, n, by rw [HWL.out]; rfl, ?_, HB.out⟩
        have hro : Row wr w1.heap.size 2 (wosL L) := by
          unfold Row
          rw [HWL.out]
          exact HR.out.congr (fun i hi => by simp [downto])
        have := hro.own (B := w.heap.size) (by omega) (by rw [HWL.out]; omega)
        rw [HWL.out] at this ⊢
        exact this
      | succ d =>
        have hd : d < L.length := by rw [HL.out]; omega
        have hx2 := state_at HS.out d hd
        obtain ⟨x, hxe⟩ := Int.eq_ofNat_of_zero_le hx2.1
        have hx3 : x < 3 := by omega
        have HLD := Lib.hid (ltr_drop hd)
        have HWA := Lib.hid (wosL_at L d hd)
        rw [hxe] at HLD HWA
        obtain ⟨ad, rfl, had, hc0⟩ := HIw.out d hd
        have hc : wr.cell? (ad.add d) = some (.int .i64 x) := by
          rw [hb.cell (p := ad.add d) (by rw [add_block]; exact had), hc0, ← hxe]
          simp
        obtain ⟨t, hte⟩ : ∃ t, ltr (L.drop (d + 1)) = t := ⟨_, rfl⟩
        rw [hte] at ht HLD HWA
        have HT' : Hid (Box wr (w1.heap.size + 1) 60 #[.int .i64 t.1, .int .i64 t.2.1, .int .i64 t.2.2]) := ht
        have hcx : wr.cell? ⟨w1.heap.size + 1, x, none⟩ = some (.int .i64 (selT t x)) := by
          have h3 := ht.three
          have : x = 0 ∨ x = 1 ∨ x = 2 := by omega
          rcases this with rfl | rfl | rfl
          · exact h3.1
          · exact h3.2.1
          · exact h3.2.2
        have hx30 : (x : Int) < 3 := by omega
        have hx00 : (0 : Int) ≤ (x : Int) := by omega
        have hfz := hr.frozen d
        have hold := hr.cell (i := d) (by omega)
        have hi0 : (0 : Int) ≤ (d : Int) := by omega
        have hi1 : (d : Int) < (n : Int) := by omega
        have hi2 : ((d + 1 : Nat) : Int) - 1 = (d : Int) := by omega
        rw [hi2]
        have HDS := Lib.hid (downto_step (wosL L) d)
        have T1 := Lib.hid (ht.other (a := ⟨w1.heap.size, d, none⟩) (by simp) (.int .i64 (selT t x)))
        have HX1 := Lib.hid (hx.other (a := ⟨w1.heap.size, d, none⟩) (by simp; omega) (.int .i64 (selT t x)))
        have R1 := Lib.hid (hr.set d (.int .i64 (selT t x)))
        have HB1' := Lib.hid (show Below w.heap.size w (wr.setCell ⟨w1.heap.size, d, none⟩ (.int .i64 (selT t x))) from hb.setCell (by show w.heap.size ≤ w1.heap.size; omega) _)
        obtain ⟨x0, x1, _, _⟩ := hx.two
        obtain ⟨t0, t1, t2⟩ := T1.out.three
        have hszw : w.heap.size ≤ (wr.setCell ⟨w1.heap.size, d, none⟩ (.int .i64 (selT t x))).heap.size := HB1'.out.size
        clear hx ht hr hb hc0 hte hi2 HT HX HR HB
        go_wp2_with fail
        refine (othersExchanged_calls t x _ (by omega)).mono ?_
        rintro e w3 ⟨rfl, hb3⟩
        have T3 := Lib.hid (T1.out.below hb3 T1.out.lt)
        have X3 := Lib.hid (HX1.out.below hb3 HX1.out.lt)
        have R3 := Lib.hid (R1.out.of_block (hb3.block _ R1.out.lt))
        have HB3 := Lib.hid (HB1'.out.trans (hb3.mono hszw))
        clear hb3 t0 t1 t2 x0 x1 hszw
        obtain ⟨t0, t1, t2⟩ := T3.out.three
        have g0 := T3.out.frozen 0
        have g1 := T3.out.frozen 1
        have g2 := T3.out.frozen 2
        go_wp2
        go_roundw
        case rel =>
          refine ⟨d, by omega, rfl, ?_, ?_, ?_, ?_⟩
          · exact ((X3.out.other (by show w.heap.size ≠ w1.heap.size + 1; omega) _).other (by show w.heap.size ≠ w1.heap.size + 1; omega) _).other (by show w.heap.size ≠ w1.heap.size + 1; omega) _
          · rw [HLD.out]
            exact ((T3.out.set 0 _).set 1 _).set 2 _
          · exact (((R3.out.setOther (by simp) _).setOther (by simp) _).setOther (by simp) _).congr (fun j _ => by rw [← HDS.out j, HWA.out])
          · exact ((HB3.out.setCell (by show w.heap.size ≤ w1.heap.size + 1; omega) _).setCell (by show w.heap.size ≤ w1.heap.size + 1; omega) _).setCell (by show w.heap.size ≤ w1.heap.size + 1; omega) _
        case measure => simp [intOf]
  · have hz' : (code1 p L != 0) = true := by simpa using hz
    have hv : woV p L = [] := by unfold woV; rw [if_neg hz]
    rw [hv]
    clear hL hv
    go_enter Try.func11, Try.ntmps11
    go_wp2_with fail
    refine (codeOfStates_one (w.heap.size + 1) A n c p L _ Y0.out HL.out hn HI0.out).mono ?_
    rintro e w1 ⟨rfl, hb1⟩
    have HB1 := Lib.hid (HB0.out.trans (hb1.mono HB0.out.size))
    clear hb1
    go_wp2
    go_ret2
    exact retInts_zero rfl HB1.out

def WMade (w1 : World) (n : Nat) (t4 t5 : Value) (wc : World) : Prop :=
  ∃ gl go : Nat, t4 = .slice (some ⟨gl, 0, none⟩) 3 3 ∧ t5 = .slice (some ⟨go, 0, none⟩) n n ∧ gl ≠ go ∧ w1.heap.size ≤ gl ∧ w1.heap.size ≤ go ∧ Box wc gl 2 #[.int .i64 0, .int .i64 1, .int .i64 2] ∧ wc.rowIs go 2 n (fun _ => .int .i64 0) ∧ Below w1.heap.size w1 wc

end Go.Proofs.Ytbcgomimfgggnaa

namespace Go.Proofs.Ytbcgomimfgggnaa
open Go.RowKit
set_option linter.unusedVariables false
set_option maxRecDepth 100000

theorem Try.sizeI2 : (Try.prog.info? 2).map (·.size) = some 1 := by kernel_rfl

/-- Eight numbers: those of the list, then noughts. -/
def padI (L : List Int) (i : Nat) : Int := L[i]?.getD 0
def padV (L : List Int) (i : Nat) : Value := .int .i64 (padI L i)
theorem pad_splice {L : List Int} (h : L.length ≤ 8) : ∀ i, i < 8 → (splice (List.replicate 8 (Value.int .i64 0)) 0 (L.map (Value.int .i64)))[i]? = some (padV L i) := by
  intro i hi
  unfold splice padV padI
  rw [List.take_zero, List.nil_append, Nat.zero_add]
  by_cases hl : i < L.length
  · rw [List.getElem?_append_left (by simpa using hl)]
    simp [hl]
  · rw [List.getElem?_append_right (by simp; omega)]
    have e : L[i]?.getD 0 = 0 := by rw [List.getElem?_eq_none (by omega)]; rfl
    rw [e, List.getElem?_drop, List.getElem?_replicate, if_pos (by simp; omega)]
/-- A list of eight. -/
theorem list8 {l : List Value} (h : l.length = 8) {f : Nat → Value} (hf : ∀ i, i < 8 → l[i]? = some (f i)) : l = [f 0, f 1, f 2, f 3, f 4, f 5, f 6, f 7] := by
  apply List.ext_getElem?
  intro i
  by_cases hi : i < 8
  · rw [hf i hi]
    have : i = 0 ∨ i = 1 ∨ i = 2 ∨ i = 3 ∨ i = 4 ∨ i = 5 ∨ i = 6 ∨ i = 7 := by omega
    rcases this with rfl | rfl | rfl | rfl | rfl | rfl | rfl | rfl <;> rfl
  · rw [List.getElem?_eq_none (by omega), List.getElem?_eq_none (by simp; omega)]

theorem box8 {w : World} {g t : Nat} {l : List Value} {a b c d e f x y : Value} (h : l = [a, b, c, d, e, f, x, y]) (hb : Hid (w.heap[g]? = some (.cells l.toArray t (0, 0)))) : Box w g t #[a, b, c, d, e, f, x, y] := by
  subst h
  exact hb.out
theorem cells8 {w : World} {g t : Nat} {a b c d e f x y : Value} (h : Box w g t #[a, b, c, d, e, f, x, y]) :
    w.cell? ⟨g, 0, none⟩ = some a ∧ w.cell? ⟨g, 1, none⟩ = some b ∧ w.cell? ⟨g, 2, none⟩ = some c ∧ w.cell? ⟨g, 3, none⟩ = some d ∧ w.cell? ⟨g, 4, none⟩ = some e ∧ w.cell? ⟨g, 5, none⟩ = some f ∧ w.cell? ⟨g, 6, none⟩ = some x ∧ w.cell? ⟨g, 7, none⟩ = some y :=
  ⟨h.cell 0, h.cell 1, h.cell 2, h.cell 3, h.cell 4, h.cell 5, h.cell 6, h.cell 7⟩

end Go.Proofs.Ytbcgomimfgggnaa

namespace Go.Proofs.Ytbcgomimfgggnaa
open Go.RowKit
set_option linter.unusedVariables false
set_option maxRecDepth 100000

theorem cells1A : Try.prog.cellsOf 2 = 1 := by kernel_rfl

def arr8 (f : Nat → Int) : Array Value := #[.int .i64 (f 0), .int .i64 (f 1), .int .i64 (f 2), .int .i64 (f 3), .int .i64 (f 4), .int .i64 (f 5), .int .i64 (f 6), .int .i64 (f 7)]
def lits8 (f : Nat → Int) : List Lit := [.int .i64 (f 0), .int .i64 (f 1), .int .i64 (f 2), .int .i64 (f 3), .int .i64 (f 4), .int .i64 (f 5), .int .i64 (f 6), .int .i64 (f 7)]


end Go.Proofs.Ytbcgomimfgggnaa

namespace Go.Proofs.Ytbcgomimfgggnaa
open Go.RowKit
set_option linter.unusedVariables false
set_option maxRecDepth 100000

theorem cells8W : Try.prog.cellsOf 114 = 8 := by kernel_rfl
theorem cells1W : Try.prog.cellsOf 2 = 1 := by kernel_rfl
theorem keyT8W : Try.prog.keyTypeAt 2 114 = true := by kernel_rfl

theorem keyLits8W (f : Nat → Int) (h : ∀ i, i < 8 → (Lit.int .i64 (f i)).wf = true) : Try.prog.keyLits 2 114 (Value.agg (arr8 f)).cells.toList = some (lits8 f) := by
  have one : ∀ i, i < 8 → Try.prog.keyLits 1 2 [.int .i64 (f i)] = some [.int .i64 (f i)] := by
    intro i hi
    simp [Program.keyLits, Try.underlying2, h i hi]
  have e0 := one 0 (by omega)
  have e1 := one 1 (by omega)
  have e2 := one 2 (by omega)
  have e3 := one 3 (by omega)
  have e4 := one 4 (by omega)
  have e5 := one 5 (by omega)
  have e6 := one 6 (by omega)
  have e7 := one 7 (by omega)
  unfold Program.keyLits
  simp [Try.underlying114, cells8W, cells1W, arr8, lits8, Value.cells, List.range_succ, e0, e1, e2, e3, e4, e5, e6, e7]

theorem eq8W (f g : Nat → Int) (hf : ∀ i, i < 8 → (Lit.int .i64 (f i)).wf = true) (hg : ∀ i, i < 8 → (Lit.int .i64 (g i)).wf = true) (W : World) :
    ∃ r : Bool, (Op.equalIn 10000 114 (.agg (arr8 f)) (.agg (arr8 g))).run Try.prog W = .ok r W ∧ (r = true ↔ lits8 f = lits8 g) := by
  have E := run_equalIn_deep (P := Try.prog) 9998 2 114 keyT8W
  exact E W 2 2 (.agg (arr8 f)) (.agg (arr8 g)) _ _ (by simp [Value.formed, Try.underlying114, arr8, cells8W]) (by simp [Value.formed, Try.underlying114, arr8, cells8W]) (keyLits8W f hf) (keyLits8W g hg)

theorem eq8W_yes (f g : Nat → Int) (hf : ∀ i, i < 8 → (Lit.int .i64 (f i)).wf = true) (hg : ∀ i, i < 8 → (Lit.int .i64 (g i)).wf = true) (h : ∀ i, i < 8 → f i = g i) (W : World) :
    (Op.equalIn 10000 114 (.agg #[.int .i64 (f 0), .int .i64 (f 1), .int .i64 (f 2), .int .i64 (f 3), .int .i64 (f 4), .int .i64 (f 5), .int .i64 (f 6), .int .i64 (f 7)]) (.agg #[.int .i64 (g 0), .int .i64 (g 1), .int .i64 (g 2), .int .i64 (g 3), .int .i64 (g 4), .int .i64 (g 5), .int .i64 (g 6), .int .i64 (g 7)])).run Try.prog W = .ok true W := by
  obtain ⟨r, hr, hi⟩ := eq8W f g hf hg W
  have : r = true := hi.2 (by unfold lits8; rw [h 0 (by omega), h 1 (by omega), h 2 (by omega), h 3 (by omega), h 4 (by omega), h 5 (by omega), h 6 (by omega), h 7 (by omega)])
  subst this
  exact hr
theorem eq8W_no (f g : Nat → Int) (hf : ∀ i, i < 8 → (Lit.int .i64 (f i)).wf = true) (hg : ∀ i, i < 8 → (Lit.int .i64 (g i)).wf = true) {k : Nat} (hk : k < 8) (h : f k ≠ g k) (W : World) :
    (Op.equalIn 10000 114 (.agg #[.int .i64 (f 0), .int .i64 (f 1), .int .i64 (f 2), .int .i64 (f 3), .int .i64 (f 4), .int .i64 (f 5), .int .i64 (f 6), .int .i64 (f 7)]) (.agg #[.int .i64 (g 0), .int .i64 (g 1), .int .i64 (g 2), .int .i64 (g 3), .int .i64 (g 4), .int .i64 (g 5), .int .i64 (g 6), .int .i64 (g 7)])).run Try.prog W = .ok false W := by
  obtain ⟨r, hr, hi⟩ := eq8W f g hf hg W
  have : r = false := by
    cases r
    · rfl
    · have e := hi.1 rfl
      unfold lits8 at e
      simp only [List.cons.injEq, Lit.int.injEq, true_and, and_true] at e
      have hk' : k = 0 ∨ k = 1 ∨ k = 2 ∨ k = 3 ∨ k = 4 ∨ k = 5 ∨ k = 6 ∨ k = 7 := by omega
      rcases hk' with rfl | rfl | rfl | rfl | rfl | rfl | rfl | rfl <;> exact absurd (by omega) h
  subst this
  exact hr

set_option maxHeartbeats 1000000 in
theorem arrayOf_calls (A : Option Addr) (n c : Nat) (L : List Int) (w : World) (hL : L.length = n) (hn : n ≤ 8) (hI : Ints w A L) :
    Calls Try.prog 86 #[.slice A n c] w fun e w' => e = .returned (.agg #[.int .i64 (padI L 0), .int .i64 (padI L 1), .int .i64 (padI L 2), .int .i64 (padI L 3), .int .i64 (padI L 4), .int .i64 (padI L 5), .int .i64 (padI L 6), .int .i64 (padI L 7)]) ∧ Below w.heap.size w w' := by
  have hmk0 := run_make_row' (P := Try.prog) 28 2 (.int .i64 0) 8 Try.underlying28 Try.infoI rfl .i64 .i64 8 (by omega) (by omega)
  obtain ⟨Z, HZ⟩ : ∃ Z : List Value, Hid (Z = List.replicate 8 (Value.int .i64 0)) := ⟨_, rfl⟩
  have hmc : madeCells #[Value.int .i64 0] 8 = Z.toArray := by
    apply Array.ext'
    rw [toList_madeCells_one, HZ.out]
  rw [hmc] at hmk0
  have hmk : ∀ W : World, (Instr.makeSlice 28 (.int .i64 8) (.int .i64 8)).run Try.prog W = .ok (.slice (some ⟨W.heap.size, 0, none⟩) 8 8) (W.alloc (.cells Z.toArray 2)) := hmk0
  clear hmk0 hmc
  have HL : Hid (L.length = n) := hL
  have hzl : Hid (Z.length = 8) := by unfold Hid; rw [HZ.out]; simp
  have HG : Hid (((w.alloc (.cells #[.int .i64 0, .int .i64 0, .int .i64 0, .int .i64 0, .int .i64 0, .int .i64 0, .int .i64 0, .int .i64 0] 114)).alloc (.cells Z.toArray 2)).heap[w.heap.size + 1]? = some (.cells Z.toArray 2 (0, 0))) := by
    have := Box.new (w.alloc (.cells #[.int .i64 0, .int .i64 0, .int .i64 0, .int .i64 0, .int .i64 0, .int .i64 0, .int .i64 0, .int .i64 0] 114)) 2 Z.toArray
    simp only [World.size_alloc] at this
    exact this
  have HB : Hid (Below w.heap.size w ((w.alloc (.cells #[.int .i64 0, .int .i64 0, .int .i64 0, .int .i64 0, .int .i64 0, .int .i64 0, .int .i64 0, .int .i64 0] 114)).alloc (.cells Z.toArray 2))) := ((Below.refl _ _).alloc (Nat.le_refl _) _).alloc (by simp) _
  have HR : Hid (Box ((w.alloc (.cells #[.int .i64 0, .int .i64 0, .int .i64 0, .int .i64 0, .int .i64 0, .int .i64 0, .int .i64 0, .int .i64 0] 114)).alloc (.cells Z.toArray 2)) w.heap.size 114 #[.int .i64 0, .int .i64 0, .int .i64 0, .int .i64 0, .int .i64 0, .int .i64 0, .int .i64 0, .int .i64 0]) := by
    have := Box.new w 114 #[.int .i64 0, .int .i64 0, .int .i64 0, .int .i64 0, .int .i64 0, .int .i64 0, .int .i64 0, .int .i64 0]
    exact this.alloc _
  have HPOS : Hid (0 < (L.map (Value.int .i64)).length → (some (⟨w.heap.size + 1, 0, none⟩ : Addr)) = some ⟨w.heap.size + 1, 0, none⟩ ∧ ∃ ad, A = some ad ∧ ∀ j v, (L.map (Value.int .i64))[j]? = some v → ((w.alloc (.cells #[.int .i64 0, .int .i64 0, .int .i64 0, .int .i64 0, .int .i64 0, .int .i64 0, .int .i64 0, .int .i64 0] 114)).alloc (.cells Z.toArray 2)).cell? (ad.add j) = some v) := by
    intro h
    refine ⟨rfl, ?_⟩
    obtain ⟨ad, rfl, _⟩ := hI 0 (by simpa using h)
    exact ⟨ad, rfl, (hI.below HB.out).news⟩
  have HS : Hid ((L.map (Value.int .i64)).length = Nat.min n 8) := by unfold Hid; rw [List.length_map, HL.out]; exact (Nat.min_eq_left hn).symm
  have HF : Hid (0 + (L.map (Value.int .i64)).length ≤ Z.length) := by unfold Hid; rw [hzl.out]; simp [HL.out]; exact hn
  have HPD : Hid (splice Z 0 (L.map (Value.int .i64)) = [.int .i64 (padI L 0), .int .i64 (padI L 1), .int .i64 (padI L 2), .int .i64 (padI L 3), .int .i64 (padI L 4), .int .i64 (padI L 5), .int .i64 (padI L 6), .int .i64 (padI L 7)]) := by
    unfold Hid
    rw [HZ.out]
    exact list8 (by rw [length_splice _ _ _ (by simp [HL.out]; exact hn)]; simp) (pad_splice (L := L) (by rw [hL]; exact hn))
  have hat := fun W : World => run_arrayAt (P := Try.prog) (w := W) 114 2 8 (some ⟨w.heap.size + 1, 0, none⟩) 8 8 Try.underlying114 (Nat.le_refl _)
  clear hI hL
  go_enter Try.func86, Try.ntmps86
  go_wp2_with (with_reducible refine wpList_copy_splice rfl (.tmp 5) (.tmp 6) 28 28 rfl 2 Try.underlying28 Try.sizeI2 (some ⟨w.heap.size + 1, 0, none⟩) A 8 8 n c rfl rfl (w.heap.size + 1) 0 Z 2 HG.out (L.map (Value.int .i64)) HS.out HPOS.out HF.out (ints_oneCell _ _) (w.heap.size + 1) _ (Below.refl _ _) (Nat.le_refl _) ?_; intro w1 hg1 hb1; have HR1 := Lib.hid (Box.below HR.out hb1 (by omega)); have HB1 := Lib.hid (HB.out.trans (hb1.mono (by omega))); clear hb1; have HX := Lib.hid (box8 (HPD.out) hg1); obtain ⟨x0, x1, x2, x3, x4, x5, x6, x7⟩ := cells8 HX.out; obtain ⟨r0, r1, r2, r3, r4, r5, r6, r7⟩ := cells8 HR1.out; have f0 := HR1.out.frozen 0; have f1 := HR1.out.frozen 1; have f2 := HR1.out.frozen 2; have f3 := HR1.out.frozen 3; have f4 := HR1.out.frozen 4; have f5 := HR1.out.frozen 5; have f6 := HR1.out.frozen 6; have f7 := HR1.out.frozen 7)
  generalize padI L 0 = p0 at *
  generalize padI L 1 = p1 at *
  generalize padI L 2 = p2 at *
  generalize padI L 3 = p3 at *
  generalize padI L 4 = p4 at *
  generalize padI L 5 = p5 at *
  generalize padI L 6 = p6 at *
  generalize padI L 7 = p7 at *
  clear x0 x1 x2 x3 x4 x5 x6 x7 hmk hat
  have hbx := Lib.hid ((((((((HR1.out.set 0 (.int .i64 p0)).set 1 (.int .i64 p1)).set 2 (.int .i64 p2)).set 3 (.int .i64 p3)).set 4 (.int .i64 p4)).set 5 (.int .i64 p5)).set 6 (.int .i64 p6)).set 7 (.int .i64 p7))
  refine bodyPost_ret (results_cell_row rfl _ _ w.heap.size 114 #[.int .i64 p0, .int .i64 p1, .int .i64 p2, .int .i64 p3, .int .i64 p4, .int .i64 p5, .int .i64 p6, .int .i64 p7] (0, 0) _ rfl hbx.out Try.underlying114 rfl (by kernel_rfl)) rfl ⟨rfl, ?_⟩
  exact ((((((((HB1.out.setCell (by simp) _).setCell (by simp) _).setCell (by simp) _).setCell (by simp) _).setCell (by simp) _).setCell (by simp) _).setCell (by simp) _).setCell (by simp) _)

end Go.Proofs.Ytbcgomimfgggnaa

namespace Go.Proofs.Ytbcgomimfgggnaa
open Go.RowKit
set_option linter.unusedVariables false
set_option maxRecDepth 100000

def wcode (k : Int) (L : List Int) : Int := if stateB k L = true then 0 else 2
theorem wcode_yes {k : Int} {L : List Int} (h : stateB k L = true) : wcode k L = 0 := by unfold wcode; rw [if_pos h]
theorem wcode_no {k : Int} {L : List Int} (h : stateB k L = false) : wcode k L = 2 := by unfold wcode; rw [h]; rfl

def twoWB (k : Int) (L M : List Int) : Bool := stateB k L && (stateB k M && decide (L.length = M.length))
theorem twoWB_of {k : Int} {L M : List Int} (h : twoWB k L M = true) : stateB k L = true ∧ stateB k M = true ∧ L.length = M.length := by
  unfold twoWB at h
  simpa using h
theorem ret_twoW {k : Int} {L M : List Int} {b : Bool} (h : b = twoWB k L M) : Ending.returned (.bool b) = .returned (.bool (twoWB k L M)) := by rw [h]
def wcode2 (k : Int) (L M : List Int) : Int := if twoWB k L M = true then 0 else 2
theorem wcode2_yes {k : Int} {L M : List Int} (h : twoWB k L M = true) : wcode2 k L M = 0 := by unfold wcode2; rw [if_pos h]
theorem wcode2_no {k : Int} {L M : List Int} (h : twoWB k L M = false) : wcode2 k L M = 2 := by unfold wcode2; rw [h]; rfl
theorem ret_intW {a b : Int} (h : b = a) : Ending.returned (.int .i64 a) = .returned (.int .i64 b) := by rw [h]

set_option maxHeartbeats 1000000 in
theorem codeOfWords_one (g : Nat) (k : Int) (A : Option Addr) (n c : Nat) (L : List Int) (w : World) (hx : Box w g 28 #[.slice A n c]) (hL : L.length = n) (hn : n ≤ 1048576) (hI : Ints w A L) :
    Calls Try.prog 40 #[.int .i64 k, .slice (some ⟨g, 0, none⟩) 1 1] w fun e w' => e = .returned (.int .i64 (wcode k L)) ∧ Below w.heap.size w w' := by
  have HL := Lib.hid hL
  have X0 := Lib.hid hx
  clear hL hx
  obtain ⟨x0, _⟩ := X0.out.one
  by_cases hs : stateB k L = true
  · have HS := Lib.hid (wcode_yes hs)
    go_enter Try.func40, Try.ntmps40
    go_wp2
    refine wp_loop_rounds 2 ?_
    rw [rounds_succ]
    go_wp2_with fail
    refine (implIsSierpinskiWord_calls k A n c L _ HL.out hn hI).mono ?_
    rintro e w1 ⟨rfl, hb1⟩
    have X1 := Lib.hid (X0.out.below hb1 X0.out.lt)
    have HB := Lib.hid hb1
    clear hb1 x0
    obtain ⟨x0, _⟩ := X1.out.one
    go_wp2
    rw [rounds_succ]
    go_wp2
    go_ret
    exact ⟨ret_intW HS.out, HB.out⟩
  · have hs' : stateB k L = false := by simpa using hs
    have HS := Lib.hid (wcode_no hs')
    clear hs
    go_enter Try.func40, Try.ntmps40
    go_wp2
    refine wp_loop_rounds 2 ?_
    rw [rounds_succ]
    go_wp2_with fail
    refine (implIsSierpinskiWord_calls k A n c L _ HL.out hn hI).mono ?_
    rintro e w1 ⟨rfl, hb1⟩
    go_wp2
    go_ret
    exact ⟨ret_intW HS.out, hb1⟩

set_option maxHeartbeats 1000000 in
theorem codeOfWords_two (g : Nat) (k : Int) (A : Option Addr) (n c : Nat) (L : List Int) (B : Option Addr) (m d : Nat) (M : List Int) (w : World) (hx : Box w g 28 #[.slice A n c, .slice B m d]) (hL : L.length = n) (hn : n ≤ 1048576) (hI : Ints w A L) (hM : M.length = m) (hm : m ≤ 1048576) (hJ : Ints w B M) :
    Calls Try.prog 40 #[.int .i64 k, .slice (some ⟨g, 0, none⟩) 2 2] w fun e w' => e = .returned (.int .i64 (wcode2 k L M)) ∧ Below w.heap.size w w' := by
  have HL := Lib.hid hL
  have HM := Lib.hid hM
  have X0 := Lib.hid hx
  clear hL hM hx
  obtain ⟨x0, x1, _, _⟩ := X0.out.two
  by_cases h1 : stateB k L = true
  · by_cases h2 : stateB k M = true
    · by_cases h3 : n = m
      · subst h3
        have H := Lib.hid (wcode2_yes (show twoWB k L M = true by unfold twoWB; rw [h1, h2, HL.out, HM.out]; simp))
        go_enter Try.func40, Try.ntmps40
        go_wp2
        refine wp_loop_rounds 3 ?_
        rw [rounds_succ]
        go_wp2_with fail
        refine (implIsSierpinskiWord_calls k A n c L _ HL.out hn hI).mono ?_
        rintro e w1 ⟨rfl, hb1⟩
        have X1 := Lib.hid (X0.out.below hb1 X0.out.lt)
        have HB := Lib.hid hb1
        have HJ := Lib.hid (hJ.below hb1)
        clear hb1 x0 x1
        obtain ⟨x0, x1, _, _⟩ := X1.out.two
        go_wp2
        rw [rounds_succ]
        go_wp2_with fail
        refine (implIsSierpinskiWord_calls k B n d M _ HM.out hn HJ.out).mono ?_
        rintro e w2 ⟨rfl, hb2⟩
        have X2 := Lib.hid (X1.out.below hb2 X1.out.lt)
        have HB2 := Lib.hid (HB.out.trans (hb2.mono HB.out.size))
        clear hb2 x0 x1
        obtain ⟨x0, x1, _, _⟩ := X2.out.two
        go_wp2
        rw [rounds_succ]
        go_wp2
        go_ret
        exact ⟨ret_intW H.out, HB2.out⟩
      · have H := Lib.hid (wcode2_no (show twoWB k L M = false by unfold twoWB; rw [h1, h2, HL.out, HM.out]; simp [h3]))
        have hd : ((m : Int) != (n : Int)) = true := by simp; omega
        clear h3
        go_enter Try.func40, Try.ntmps40
        go_wp2
        refine wp_loop_rounds 3 ?_
        rw [rounds_succ]
        go_wp2_with fail
        refine (implIsSierpinskiWord_calls k A n c L _ HL.out hn hI).mono ?_
        rintro e w1 ⟨rfl, hb1⟩
        have X1 := Lib.hid (X0.out.below hb1 X0.out.lt)
        have HB := Lib.hid hb1
        have HJ := Lib.hid (hJ.below hb1)
        clear hb1 x0 x1
        obtain ⟨x0, x1, _, _⟩ := X1.out.two
        go_wp2
        rw [rounds_succ]
        go_wp2_with fail
        refine (implIsSierpinskiWord_calls k B m d M _ HM.out hm HJ.out).mono ?_
        rintro e w2 ⟨rfl, hb2⟩
        have X2 := Lib.hid (X1.out.below hb2 X1.out.lt)
        have HB2 := Lib.hid (HB.out.trans (hb2.mono HB.out.size))
        clear hb2 x0 x1
        obtain ⟨x0, x1, _, _⟩ := X2.out.two
        go_wp2
        go_ret
        exact ⟨ret_intW H.out, HB2.out⟩
    · have h2' : stateB k M = false := by simpa using h2
      have H := Lib.hid (wcode2_no (show twoWB k L M = false by unfold twoWB; rw [h1, h2']; rfl))
      clear h2
      go_enter Try.func40, Try.ntmps40
      go_wp2
      refine wp_loop_rounds 3 ?_
      rw [rounds_succ]
      go_wp2_with fail
      refine (implIsSierpinskiWord_calls k A n c L _ HL.out hn hI).mono ?_
      rintro e w1 ⟨rfl, hb1⟩
      have X1 := Lib.hid (X0.out.below hb1 X0.out.lt)
      have HB := Lib.hid hb1
      have HJ := Lib.hid (hJ.below hb1)
      clear hb1 x0 x1
      obtain ⟨x0, x1, _, _⟩ := X1.out.two
      go_wp2
      rw [rounds_succ]
      go_wp2_with fail
      refine (implIsSierpinskiWord_calls k B m d M _ HM.out hm HJ.out).mono ?_
      rintro e w2 ⟨rfl, hb2⟩
      have HB2 := Lib.hid (HB.out.trans (hb2.mono HB.out.size))
      clear hb2 x0 x1
      go_wp2
      go_ret
      exact ⟨ret_intW H.out, HB2.out⟩
  · have h1' : stateB k L = false := by simpa using h1
    have H := Lib.hid (wcode2_no (show twoWB k L M = false by unfold twoWB; rw [h1']; rfl))
    clear h1
    go_enter Try.func40, Try.ntmps40
    go_wp2
    refine wp_loop_rounds 3 ?_
    rw [rounds_succ]
    go_wp2_with fail
    refine (implIsSierpinskiWord_calls k A n c L _ HL.out hn hI).mono ?_
    rintro e w1 ⟨rfl, hb1⟩
    go_wp2
    go_ret
    exact ⟨ret_intW H.out, hb1⟩

def lcode (k j : Int) (L : List Int) : Int := if pegB k j = true then wcode k L else 2
def lcode2 (k j : Int) (L M : List Int) : Int := if pegB k j = true then wcode2 k L M else 2

end Go.Proofs.Ytbcgomimfgggnaa

namespace Go.Proofs.Ytbcgomimfgggnaa
open Go.RowKit
open Go.RowKit (wrap64)
set_option linter.unusedVariables false
set_option maxRecDepth 100000

/-- The sum of 2^i over the first places with another number than j. -/
def toE (L : List Int) (j : Int) : Nat → Int
  | 0 => 0
  | k + 1 => toE L j k + if L[k]?.getD 0 = j then 0 else pow2 k
theorem toE_bd (L : List Int) (j : Int) : ∀ k, k ≤ 8 → 0 ≤ toE L j k ∧ toE L j k + 1 ≤ pow2 k
  | 0, _ => by simp [toE, pow2_zero]
  | k + 1, h => by
    have ih := toE_bd L j k (by omega)
    have hp := pow2_succ k
    have hb := pow2_bd (k := k) (by omega)
    unfold toE
    split <;> omega
theorem toE_eq {L : List Int} {j : Int} {k : Nat} (h : L[k]?.getD 0 = j) : toE L j (k + 1) = toE L j k := by rw [toE, if_pos h, Int.add_zero]
theorem toE_ne {L : List Int} {j : Int} {k : Nat} (h : ¬ L[k]?.getD 0 = j) : toE L j (k + 1) = toE L j k + pow2 k := by rw [toE, if_neg h]

/-- 1 shifted to the left, as the walk writes it, is a power of 2. -/
theorem shl_pow4 {k : Nat} (hk : k < 9) : wrap64 ((2 : Int) ^ k) = pow2 k := by
  have e : (2 : Int) ^ k = pow2 k := by unfold pow2; simp
  have hb := pow2_bd (k := k) (by omega)
  rw [e]
  exact IntWalk.wrap64_in _ (by omega)

set_option maxHeartbeats 1000000 in
theorem distanceToExtreme_calls (A : Option Addr) (n c : Nat) (L : List Int) (j : Int) (w : World) (hL : n ≤ L.length) (hn : n ≤ 8) (hI : Ints w A L) :
    Calls Try.prog 95 #[.slice A n c, .int .i64 j] w fun e w' => e = .returned (.int .i64 (toE L j n)) ∧ w = w' := by
  have HL := Lib.hid hL
  have HI := Lib.hid hI
  clear hL hI
  go_enter Try.func95, Try.ntmps95
  go_wp2
  go_loop [5, 6, 7, 10] (fun s _ _ i => ∃ k : Nat, k ≤ n ∧ i = .int .i64 k ∧ s = .int .i64 (toE L j k)) (fun _ _ _ i => n - (intOf i).toNat)
  case atStart => exact ⟨0, Nat.zero_le _, rfl, rfl⟩
  case round =>
    obtain ⟨k, hk, rfl, rfl⟩ := hrel
    by_cases hlt : k < n
    · obtain ⟨ad, rfl, had, hc⟩ := HI.out k (by have := HL.out; omega)
      have hbd := toE_bd L j k (by omega)
      have hpw := pow2_bd (k := k) (by omega)
      have hk0 : (0 : Int) ≤ (k : Int) := by omega
      have hk1 : (k : Int) < (n : Int) := by omega
      by_cases hne : L[k]?.getD 0 = j
      · have ht : (L[k]?.getD 0 != j) = false := by simpa using hne
        have HST := Lib.hid (toE_eq hne)
        clear hne
        go_wp2
        go_round
        case rel => exact ⟨k + 1, by omega, by go_num, by rw [HST.out]⟩
        case measure => simp [intOf]; omega
      · have ht : (L[k]?.getD 0 != j) = true := by simpa using hne
        have HST := Lib.hid (toE_ne hne)
        clear hne
        have hsh := shl_pow4 (k := k) (by omega)
        generalize toE L j k = s at *
        go_wp2
        clear hsh
        go_round
        case rel => exact ⟨k + 1, by omega, by go_num, by rw [HST.out]⟩
        case measure => simp [intOf]; omega
    · obtain rfl : k = n := by omega
      go_wp2
      go_ret
      exact ⟨rfl, rfl⟩

def exV (k : Int) (L : List Int) (j : Int) : Int := if lcode k j L = 0 then toE L j L.length else 0
theorem lcode_zero {k j : Int} {L : List Int} (h : lcode k j L = 0) : stateB k L = true ∧ pegB k j = true := by
  unfold lcode wcode at h
  split at h
  · split at h
    · exact ⟨by assumption, by assumption⟩
    · omega
  · omega
theorem lcode_two {k j : Int} {L : List Int} (h : ¬ lcode k j L = 0) : lcode k j L = 2 := by
  unfold lcode wcode at *
  split
  · split
    · simp_all
    · rfl
  · rfl
theorem ret_twoE {a b c d : Int} (h : c = a) (h' : d = b) : Ending.returned (.tuple #[.int .i64 a, .int .i64 b]) = .returned (.tuple #[.int .i64 c, .int .i64 d]) := by rw [h, h']

end Go.Proofs.Ytbcgomimfgggnaa

namespace Go.Proofs.Ytbcgomimfgggnaa
open Go.RowKit
set_option linter.unusedVariables false
set_option maxRecDepth 100000

theorem grq_eq {L M : List Int} {k : Nat} (h : L[k]?.getD 0 = M[k]?.getD 0) : grt L M (k + 1) = grt L M k := by rw [grt, if_pos h]
theorem grq_ne {L M : List Int} {k : Nat} (h : ¬ L[k]?.getD 0 = M[k]?.getD 0) : grt L M (k + 1) = k := by rw [grt, if_neg h]
/-- No place differs: the lists are the same. -/
theorem grt_neg {L M : List Int} : ∀ k, grt L M k = -1 → ∀ i, i < k → L[i]?.getD 0 = M[i]?.getD 0
  | 0, _, i, hi => absurd hi (by omega)
  | k + 1, h, i, hi => by
    by_cases he : L[k]?.getD 0 = M[k]?.getD 0
    · rw [grq_eq he] at h
      by_cases hik : i = k
      · rw [hik]; exact he
      · exact grt_neg k h i (by omega)
    · rw [grq_ne he] at h; omega
theorem grt_same (L : List Int) : ∀ k, grt L L k = -1
  | 0 => rfl
  | k + 1 => by rw [grq_eq rfl]; exact grt_same L k
theorem grt_at {L M : List Int} {g : Nat} : ∀ k, grt L M k = g → g < k ∧ L[g]?.getD 0 ≠ M[g]?.getD 0
  | 0, h => by simp [grt] at h
  | k + 1, h => by
    by_cases he : L[k]?.getD 0 = M[k]?.getD 0
    · rw [grq_eq he] at h
      have := grt_at k h
      exact ⟨by omega, this.2⟩
    · rw [grq_ne he] at h
      obtain rfl : g = k := by omega
      exact ⟨by omega, he⟩
theorem grt_lists {L M : List Int} {n : Nat} (hL : L.length = n) (hM : M.length = n) (h : grt L M n = -1) : L = M :=
  list_ext hL hM (fun j hj => by rw [List.getD_eq_getElem?_getD, List.getD_eq_getElem?_getD]; exact grt_neg n h j hj)

theorem padW_bd {p : Int} {L : List Int} (h : stateB p L = true) (i : Nat) : 0 ≤ padI L i ∧ padI L i ≤ 4 := by
  obtain ⟨h3, h5, _, _⟩ := state_facts h rfl
  unfold padI
  by_cases hi : i < L.length
  · have := state_at h i hi; omega
  · rw [List.getElem?_eq_none (by omega)]; simp
theorem padW_wf {p : Int} {L : List Int} (h : stateB p L = true) : ∀ i, i < 8 → (Lit.int .i64 (padI L i)).wf = true := fun i _ => WalkArith.wf_i64 (by have := padW_bd h i; omega)

set_option maxHeartbeats 2000000 in
theorem partingOf_same (A : Option Addr) (n c : Nat) (p : Int) (L : List Int) (B : Option Addr) (d : Nat) (w : World) (hs : stateB p L = true) (hL : L.length = n) (hI : Ints w A L) (hJ : Ints w B L) :
    Calls Try.prog 64 #[.slice A n c, .slice B n d] w fun e w' => e = .returned (.tuple #[.agg #[.int .i64 0, .int .i64 0, .int .i64 0], .bool false]) ∧ Below w.heap.size w w' := by
  have HL := Lib.hid hL
  have h8 := (state_facts hs hL).2.2.1
  have hEq := eq8W_yes (padI L) (padI L) (padW_wf hs) (padW_wf hs) (fun i _ => rfl)
  have X0 := Lib.hid (Box.new w 91 #[.int .i64 0, .int .i64 0, .int .i64 0])
  have HB0 := Lib.hid ((Below.refl w.heap.size w).alloc (Nat.le_refl _) (.cells #[.int .i64 0, .int .i64 0, .int .i64 0] 91))
  have HI := Lib.hid (hI.below HB0.out)
  have HJ := Lib.hid (hJ.below HB0.out)
  clear hL hI hJ hs
  go_enter Try.func64, Try.ntmps64
  go_wp2_with fail
  refine (arrayOf_calls A n c L _ HL.out h8 HI.out).mono ?_
  rintro e w1 ⟨rfl, hb1⟩
  have X1 := Lib.hid (X0.out.below hb1 X0.out.lt)
  have HB1 := Lib.hid (HB0.out.trans (hb1.mono HB0.out.size))
  have HJ1 := Lib.hid (HJ.out.below hb1)
  clear hb1
  go_wp2_with fail
  refine (arrayOf_calls B n d L _ HL.out h8 HJ1.out).mono ?_
  rintro e w2 ⟨rfl, hb2⟩
  have X2 := Lib.hid (X1.out.below hb2 X1.out.lt)
  have HB2 := Lib.hid (HB1.out.trans (hb2.mono HB1.out.size))
  clear hb2
  obtain ⟨x0, x1, x2⟩ := X2.out.three
  have f0 := X2.out.frozen 0
  have f1 := X2.out.frozen 1
  have f2 := X2.out.frozen 2
  go_wp2
  have hb3 : Hid (Box (((w2.setCell ⟨w.heap.size, 0, none⟩ (.int .i64 0)).setCell ⟨w.heap.size, 1, none⟩ (.int .i64 0)).setCell ⟨w.heap.size, 2, none⟩ (.int .i64 0)) w.heap.size 91 #[.int .i64 0, .int .i64 0, .int .i64 0]) := ((X2.out.set 0 _).set 1 _).set 2 _
  obtain ⟨z0, z1, z2⟩ := hb3.out.three
  refine bodyPost_ret (v := .tuple #[.agg #[.int .i64 0, .int .i64 0, .int .i64 0], .bool false]) (by simp [results, Try.results64, go_sem, z0, z1, z2]) rfl ⟨rfl, ?_⟩
  exact ((HB2.out.setCell (Nat.le_refl _) _).setCell (Nat.le_refl _) _).setCell (Nat.le_refl _) _

theorem pad_neW {L M : List Int} {g : Nat} {n : Nat} (h : grt L M n = g) (hn : n ≤ 8) : ∃ k, k < 8 ∧ padI L k ≠ padI M k := by
  have := grt_at n h
  exact ⟨g, by omega, this.2⟩

set_option maxHeartbeats 4000000 in
theorem partingOf_diff (A : Option Addr) (n c : Nat) (p : Int) (L : List Int) (B : Option Addr) (d : Nat) (M : List Int) (g : Nat) (w : World) (hs : stateB p L = true) (hs' : stateB p M = true) (hL : L.length = n) (hM : M.length = n) (hg : grt L M n = g) (hI : Ints w A L) (hJ : Ints w B M) :
    Calls Try.prog 64 #[.slice A n c, .slice B n d] w fun e w' => e = .returned (.tuple #[.agg #[.int .i64 g, .int .i64 (L[g]?.getD 0), .int .i64 (M[g]?.getD 0)], .bool true]) ∧ Below w.heap.size w w' := by
  have HL := Lib.hid hL
  have HM := Lib.hid hM
  have HG := Lib.hid hg
  have h8 := (state_facts hs hL).2.2.1
  obtain ⟨kk, hk8, hkn⟩ := pad_neW hg h8
  have hEq := eq8W_no (padI L) (padI M) (padW_wf hs) (padW_wf hs') hk8 hkn
  have X0 := Lib.hid (Box.new w 91 #[.int .i64 0, .int .i64 0, .int .i64 0])
  have HB0 := Lib.hid ((Below.refl w.heap.size w).alloc (Nat.le_refl _) (.cells #[.int .i64 0, .int .i64 0, .int .i64 0] 91))
  have HI := Lib.hid (hI.below HB0.out)
  have HJ := Lib.hid (hJ.below HB0.out)
  clear hL hM hg hI hJ hs hs' hkn hk8
  go_enter Try.func64, Try.ntmps64
  go_wp2_with fail
  refine (arrayOf_calls A n c L _ HL.out h8 HI.out).mono ?_
  rintro e w1 ⟨rfl, hb1⟩
  have X1 := Lib.hid (X0.out.below hb1 X0.out.lt)
  have HB1 := Lib.hid (HB0.out.trans (hb1.mono HB0.out.size))
  have HI1 := Lib.hid (HI.out.below hb1)
  have HJ1 := Lib.hid (HJ.out.below hb1)
  clear hb1
  go_wp2_with fail
  refine (arrayOf_calls B n d M _ HM.out h8 HJ1.out).mono ?_
  rintro e w2 ⟨rfl, hb2⟩
  have X2 := Lib.hid (X1.out.below hb2 X1.out.lt)
  have HB2 := Lib.hid (HB1.out.trans (hb2.mono HB1.out.size))
  have HI2 := Lib.hid (HI1.out.below hb2)
  have HJ2 := Lib.hid (HJ1.out.below hb2)
  clear hb2 X0 X1 HB0 HB1 HI HJ HI1 HJ1
  generalize padI L 0 = u0 at *
  generalize padI L 1 = u1 at *
  generalize padI L 2 = u2 at *
  generalize padI L 3 = u3 at *
  generalize padI L 4 = u4 at *
  generalize padI L 5 = u5 at *
  generalize padI L 6 = u6 at *
  generalize padI L 7 = u7 at *
  generalize padI M 0 = v0 at *
  generalize padI M 1 = v1 at *
  generalize padI M 2 = v2 at *
  generalize padI M 3 = v3 at *
  generalize padI M 4 = v4 at *
  generalize padI M 5 = v5 at *
  generalize padI M 6 = v6 at *
  generalize padI M 7 = v7 at *
  go_wp2
  clear hEq
  go_loopw [6] (fun i wr => ∃ m : Nat, m < n ∧ i = .int .i64 m ∧ Hid (grt L M n = grt L M (m + 1)) ∧ ∃ k, wr = w2.drewN k) (fun i _ => (intOf i).toNat)
  case atStart =>
    have h1 := HG.out
    have h2 := grt_bd L M n
    have hn1 : 1 ≤ n := by omega
    exact ⟨n - 1, by omega, by go_num, by rw [show n - 1 + 1 = n by omega]; exact Lib.hid rfl, 0, rfl⟩
  case round =>
    obtain ⟨k, hk, rfl, HS, k0, rfl⟩ := hrel
    obtain ⟨ad, rfl, had, hc⟩ := HI2.out k (by rw [HL.out]; omega)
    obtain ⟨ad', rfl, had', hc'⟩ := HJ2.out k (by rw [HM.out]; omega)
    have hi0 : (0 : Int) ≤ (k : Int) := by omega
    have hi1 : (k : Int) < (n : Int) := by omega
    by_cases he : L[k]?.getD 0 = M[k]?.getD 0
    · have ht : (L[k]?.getD 0 == M[k]?.getD 0) = true := by simpa using he
      have HS' := Lib.hid (HS.out.trans (grq_eq he))
      clear he
      have hk1 : 1 ≤ k := by
        have h1 := HS'.out
        have h2 := HG.out
        have h3 := grt_bd L M k
        omega
      go_wp2_with fail
      go_quiet (fail)
      go_wp2
      go_roundw
      case rel => exact ⟨k - 1, by omega, by go_num, by have := HS'.out; rwa [show k - 1 + 1 = k by omega], by first | exact ⟨_, rfl⟩ | exact ⟨_, World.drewN_drewN _ _ _⟩⟩
      case measure => simp [intOf]; omega
    · have ht : (L[k]?.getD 0 == M[k]?.getD 0) = false := by simpa using he
      have HS' := Lib.hid (HS.out.trans (grq_ne he))
      clear he
      have hkg : k = g := by
        have h1 := HS'.out
        have h2 := HG.out
        omega
      subst hkg
      go_wp2_with fail
      go_quiet (fail)
      obtain ⟨x0, x1, x2⟩ := X2.out.three
      have f0 := X2.out.frozen 0
      have f1 := X2.out.frozen 1
      have f2 := X2.out.frozen 2
      go_wp2_with fail
      have X3 : Hid (Box ((w2.drewN k0).drewN nq) w.heap.size 91 #[.int .i64 0, .int .i64 0, .int .i64 0]) := X2.out
      have HB3 : Hid (Below w.heap.size w ((w2.drewN k0).drewN nq)) := Lib.hid (belowDraws (belowDraws HB2.out _) _)
      have c3 : ((w2.drewN k0).drewN nq).cell? (ad.add k) = some (.int .i64 (L.getD k 0)) := hc
      have c3' : ((w2.drewN k0).drewN nq).cell? (ad'.add k) = some (.int .i64 (M.getD k 0)) := hc'
      clear hc hc' X2 HB2 x0 x1 x2 f0 f1 f2 HI2 HJ2
      generalize (w2.drewN k0).drewN nq = w3 at *
      go_still_tail 10, (by kernel_rfl)
      change wpList _ _ _ _ _ w3.drew
      have X4 : Hid (Box w3.drew w.heap.size 91 #[.int .i64 0, .int .i64 0, .int .i64 0]) := X3
      have HB4 : Hid (Below w.heap.size w w3.drew) := Lib.hid HB3.out.drew
      clear X3 HB3 c3 c3'
      generalize w3.drew = w4 at *
      obtain ⟨x0, x1, x2⟩ := X4.out.three
      have f0 := X4.out.frozen 0
      have f1 := X4.out.frozen 1
      have f2 := X4.out.frozen 2
      go_wp2
      have hb5 : Hid (Box (((w4.setCell ⟨w.heap.size, 0, none⟩ (.int .i64 k)).setCell ⟨w.heap.size, 1, none⟩ (.int .i64 (L[k]?.getD 0))).setCell ⟨w.heap.size, 2, none⟩ (.int .i64 (M[k]?.getD 0))) w.heap.size 91 #[.int .i64 k, .int .i64 (L[k]?.getD 0), .int .i64 (M[k]?.getD 0)]) := ((X4.out.set 0 _).set 1 _).set 2 _
      obtain ⟨z0, z1, z2⟩ := hb5.out.three
      refine bodyPost_ret (v := .tuple #[.agg #[.int .i64 k, .int .i64 (L[k]?.getD 0), .int .i64 (M[k]?.getD 0)], .bool true]) (by simp [results, Try.results64, go_sem, z0, z1, z2]) rfl ⟨rfl, ?_⟩
      exact ((HB4.out.setCell (Nat.le_refl _) _).setCell (Nat.le_refl _) _).setCell (Nat.le_refl _) _

end Go.Proofs.Ytbcgomimfgggnaa

namespace Go.Proofs.Ytbcgomimfgggnaa
open Go.RowKit
open Go.RowKit (wrap64)
set_option linter.unusedVariables false
set_option maxRecDepth 100000

theorem quietC {P : Program} {f : FuncId} {args : Array Value} {w : World} {n : Nat} {v : Value} (h : Calls P f args (w.drewN n) fun e w' => e = .returned v ∧ w.drewN n = w') :
    Calls P f args (w.drewN n) fun e w'' => e = .returned v ∧ ∃ m, w'' = w.drewN m := h.mono fun _ _ ⟨he, hm⟩ => ⟨he, n, hm.symm⟩
theorem quietCa {P : Program} {f : FuncId} {args : Array Value} {w : World} {a n : Nat} {v : Value} (h : Calls P f args (w.drewN (a + n)) fun e w' => e = .returned v ∧ w.drewN (a + n) = w') :
    Calls P f args (w.drewN (a + n)) fun e w'' => e = .returned v ∧ ∃ m, w'' = w.drewN (a + m) := h.mono fun _ _ ⟨he, hm⟩ => ⟨he, n, hm.symm⟩

theorem Ints.drawsN {w : World} {A : Option Addr} {L : List Int} (h : Ints w A L) (n : Nat) : Ints (w.drewN n) A L := h

set_option maxHeartbeats 2000000 in
theorem straightNumber_calls (A : Option Addr) (n c : Nat) (L : List Int) (B : Option Addr) (d : Nat) (M : List Int) (g : Nat) (x y : Int) (w : World) (hL : L.length = n) (hM : M.length = n) (hn : n ≤ 8) (hg : g < n) (hc : n ≤ c) (hd : n ≤ d) (hI : Ints w A L) (hJ : Ints w B M) :
    Calls Try.prog 87 #[.slice A n c, .slice B n d, .agg #[.int .i64 g, .int .i64 x, .int .i64 y]] w fun e w' => e = .returned (.int .i64 (toE L y g + toE M x g + 1)) ∧ Below w.heap.size w w' := by
  have HL := Lib.hid hL
  have HM := Lib.hid hM
  have X0 := Lib.hid (Box.new w 91 #[.int .i64 g, .int .i64 x, .int .i64 y])
  have HB0 := Lib.hid ((Below.refl w.heap.size w).alloc (Nat.le_refl _) (.cells #[.int .i64 g, .int .i64 x, .int .i64 y] 91))
  have HI := Lib.hid (hI.below HB0.out)
  have HJ := Lib.hid (hJ.below HB0.out)
  have b1 := toE_bd L y g (by omega)
  have b2 := toE_bd M x g (by omega)
  have b3 := pow2_bd (k := g) (by omega)
  clear hL hM hI hJ
  have hg0 : (0 : Int) ≤ (g : Int) := by omega
  have hg1 : (g : Int) ≤ (c : Int) := by omega
  have hg2 : (g : Int) ≤ (d : Int) := by omega
  obtain ⟨ad, rfl, had, _⟩ := HI.out 0 (by rw [HL.out]; omega)
  obtain ⟨ad', rfl, had', _⟩ := HJ.out 0 (by rw [HM.out]; omega)
  obtain ⟨x0, x1, x2⟩ := X0.out.three
  go_enter Try.func87, Try.ntmps87
  go_wp2_with fail
  go_quiet ((go_at_call 95; first | (with_reducible refine quietC (distanceToExtreme_calls (some ad) g c L y _ ?_ ?_ ?_); (rw [HL.out]; omega); omega; exact HI.out.drawsN _) | (with_reducible refine quietCa (distanceToExtreme_calls (some ad) g c L y _ ?_ ?_ ?_); (rw [HL.out]; omega); omega; exact HI.out.drawsN _) | (with_reducible refine quietC (distanceToExtreme_calls (some ad') g d M x _ ?_ ?_ ?_); (rw [HM.out]; omega); omega; exact HJ.out.drawsN _) | (with_reducible refine quietCa (distanceToExtreme_calls (some ad') g d M x _ ?_ ?_ ?_); (rw [HM.out]; omega); omega; exact HJ.out.drawsN _)))
  go_wp2
  go_ret
  exact ⟨rfl, belowDraws HB0.out _⟩

set_option maxHeartbeats 2000000 in
theorem detourNumber_calls (A : Option Addr) (n c : Nat) (L : List Int) (B : Option Addr) (d : Nat) (M : List Int) (g : Nat) (x y z : Int) (w : World) (hL : L.length = n) (hM : M.length = n) (hn : n ≤ 8) (hg : g < n) (hc : n ≤ c) (hd : n ≤ d) (hI : Ints w A L) (hJ : Ints w B M) :
    Calls Try.prog 88 #[.slice A n c, .slice B n d, .agg #[.int .i64 g, .int .i64 x, .int .i64 y], .int .i64 z] w fun e w' => e = .returned (.int .i64 (toE L z g + toE M z g + pow2 g + 1)) ∧ Below w.heap.size w w' := by
  have HL := Lib.hid hL
  have HM := Lib.hid hM
  have X0 := Lib.hid (Box.new w 91 #[.int .i64 g, .int .i64 x, .int .i64 y])
  have HB0 := Lib.hid ((Below.refl w.heap.size w).alloc (Nat.le_refl _) (.cells #[.int .i64 g, .int .i64 x, .int .i64 y] 91))
  have HI := Lib.hid (hI.below HB0.out)
  have HJ := Lib.hid (hJ.below HB0.out)
  have b1 := toE_bd L z g (by omega)
  have b2 := toE_bd M z g (by omega)
  have b3 := pow2_bd (k := g) (by omega)
  have hsh := shl_pow4 (k := g) (by omega)
  clear hL hM hI hJ
  have hg0 : (0 : Int) ≤ (g : Int) := by omega
  have hg1 : (g : Int) ≤ (c : Int) := by omega
  have hg2 : (g : Int) ≤ (d : Int) := by omega
  obtain ⟨ad, rfl, had, _⟩ := HI.out 0 (by rw [HL.out]; omega)
  obtain ⟨ad', rfl, had', _⟩ := HJ.out 0 (by rw [HM.out]; omega)
  obtain ⟨x0, x1, x2⟩ := X0.out.three
  go_enter Try.func88, Try.ntmps88
  go_wp2_with fail
  go_quiet ((go_at_call 95; first | (with_reducible refine quietC (distanceToExtreme_calls (some ad) g c L z _ ?_ ?_ ?_); (rw [HL.out]; omega); omega; exact HI.out.drawsN _) | (with_reducible refine quietCa (distanceToExtreme_calls (some ad) g c L z _ ?_ ?_ ?_); (rw [HL.out]; omega); omega; exact HI.out.drawsN _) | (with_reducible refine quietC (distanceToExtreme_calls (some ad') g d M z _ ?_ ?_ ?_); (rw [HM.out]; omega); omega; exact HJ.out.drawsN _) | (with_reducible refine quietCa (distanceToExtreme_calls (some ad') g d M z _ ?_ ?_ ?_); (rw [HM.out]; omega); omega; exact HJ.out.drawsN _)))
  go_wp2
  go_ret
  exact ⟨rfl, belowDraws HB0.out _⟩

end Go.Proofs.Ytbcgomimfgggnaa

namespace Go.Proofs.Ytbcgomimfgggnaa
open Go.RowKit
open Go.RowKit (wrap64)
set_option linter.unusedVariables false
set_option maxRecDepth 100000

theorem lcode2_zero {k j : Int} {L M : List Int} (h : lcode2 k j L M = 0) : twoWB k L M = true ∧ pegB k j = true := by
  unfold lcode2 wcode2 at h
  split at h
  · split at h
    · exact ⟨by assumption, by assumption⟩
    · omega
  · omega
theorem lcode2_two {k j : Int} {L M : List Int} (h : ¬ lcode2 k j L M = 0) : lcode2 k j L M = 2 := by
  unfold lcode2 wcode2 at *
  split
  · split
    · simp_all
    · rfl
  · rfl

/-- The place at which the words part, as a number. -/
def grN (L M : List Int) : Nat := (grt L M L.length).toNat
def dtBadB (L M : List Int) (z : Int) : Bool := decide (grt L M L.length = -1 ∨ z = L[grN L M]?.getD 0 ∨ z = M[grN L M]?.getD 0)
def dtC (k : Int) (L M : List Int) (z : Int) : Int := if lcode2 k z L M = 0 then (if dtBadB L M z = true then 5 else 0) else 2
def dtV (k : Int) (L M : List Int) (z : Int) : Int := if dtC k L M z = 0 then toE L z (grN L M) + toE M z (grN L M) + pow2 (grN L M) + 1 else 0
theorem dt_two {k z : Int} {L M : List Int} (h : ¬ lcode2 k z L M = 0) : dtV k L M z = 0 ∧ dtC k L M z = 2 := by
  have : dtC k L M z = 2 := by unfold dtC; rw [if_neg h]
  exact ⟨by unfold dtV; rw [if_neg (by omega)], this⟩
theorem dt_five {k z : Int} {L M : List Int} (h : lcode2 k z L M = 0) (hb : dtBadB L M z = true) : dtV k L M z = 0 ∧ dtC k L M z = 5 := by
  have : dtC k L M z = 5 := by unfold dtC; rw [if_pos h, if_pos hb]
  exact ⟨by unfold dtV; rw [if_neg (by omega)], this⟩
theorem dt_good {k z : Int} {L M : List Int} {g : Nat} (h : lcode2 k z L M = 0) (hb : dtBadB L M z = false) (hg : grN L M = g) : dtV k L M z = toE L z g + toE M z g + pow2 g + 1 ∧ dtC k L M z = 0 := by
  have : dtC k L M z = 0 := by unfold dtC; rw [if_pos h, hb]; rfl
  exact ⟨by unfold dtV; rw [if_pos this, hg], this⟩
theorem dt_same {L M : List Int} {z : Int} (h : grt L M L.length = -1) : dtBadB L M z = true := by unfold dtBadB; rw [decide_eq_true_iff]; exact Or.inl h
theorem grN_of {L M : List Int} {g : Nat} {n : Nat} (hL : L.length = n) (h : grt L M n = g) : grN L M = g := by unfold grN; rw [hL, h]; simp
theorem dt_at {L M : List Int} {z : Int} {g : Nat} {n : Nat} (hL : L.length = n) (h : grt L M n = g) (hz : z = L[g]?.getD 0 ∨ z = M[g]?.getD 0) : dtBadB L M z = true := by
  unfold dtBadB; rw [decide_eq_true_iff, grN_of hL h]; exact Or.inr hz
theorem dt_ok {L M : List Int} {z : Int} {g : Nat} {n : Nat} (hL : L.length = n) (h : grt L M n = g) (h1 : ¬ z = L[g]?.getD 0) (h2 : ¬ z = M[g]?.getD 0) : dtBadB L M z = false := by
  unfold dtBadB; rw [decide_eq_false_iff_not, grN_of hL h, hL, h]; rintro (h' | h' | h') <;> first | omega | exact h1 h' | exact h2 h'
theorem wrap_sum3 {x y p : Int} (hx : 0 ≤ x ∧ x ≤ 1000) (hy : 0 ≤ y ∧ y ≤ 1000) (hp : 0 ≤ p ∧ p ≤ 1000) : wrap64 (wrap64 (wrap64 (x + y) + p) + 1) = x + y + p + 1 := by
  have e1 : wrap64 (x + y) = x + y := IntWalk.wrap64_in _ (by omega)
  have e2 : wrap64 (x + y + p) = x + y + p := IntWalk.wrap64_in _ (by omega)
  have e3 : wrap64 (x + y + p + 1) = x + y + p + 1 := IntWalk.wrap64_in _ (by omega)
  exact (congrArg (fun t => wrap64 (wrap64 (t + p) + 1)) e1).trans ((congrArg (fun t => wrap64 (t + 1)) e2).trans e3)
theorem grt_casesD (L M : List Int) (n : Nat) : grt L M n = -1 ∨ ∃ g : Nat, grt L M n = g := by
  have := grt_bd L M n
  by_cases h : grt L M n = -1
  · exact Or.inl h
  · exact Or.inr ⟨(grt L M n).toNat, by omega⟩

end Go.Proofs.Ytbcgomimfgggnaa

namespace Go.Proofs.Ytbcgomimfgggnaa
open Go.RowKit
open Go.RowKit (wrap64)
set_option linter.unusedVariables false
set_option maxRecDepth 100000

def strN (L M : List Int) (g : Nat) : Int := toE L (M[g]?.getD 0) g + toE M (L[g]?.getD 0) g + 1
def detN (L M : List Int) (g : Nat) (c : Int) : Int := toE L c g + toE M c g + pow2 g + 1
def numL (L M : List Int) (g : Nat) : Nat → List Int
  | 0 => [strN L M g]
  | c + 1 => numL L M g c ++ if (c : Int) = L[g]?.getD 0 ∨ (c : Int) = M[g]?.getD 0 then [] else [detN L M g c]
theorem strN_bd (L M : List Int) {g : Nat} (hg : g < 8) : 1 ≤ strN L M g ∧ strN L M g ≤ 600 := by
  have b1 := toE_bd L (M[g]?.getD 0) g (by omega)
  have b2 := toE_bd M (L[g]?.getD 0) g (by omega)
  have b3 := pow2_bd (k := g) (by omega)
  unfold strN
  omega
theorem detN_bd (L M : List Int) {g : Nat} (c : Int) (hg : g < 8) : 1 ≤ detN L M g c ∧ detN L M g c ≤ 1000 := by
  have b1 := toE_bd L c g (by omega)
  have b2 := toE_bd M c g (by omega)
  have b3 := pow2_bd (k := g) (by omega)
  unfold detN
  omega
theorem numL_len (L M : List Int) (g : Nat) : ∀ c, 1 ≤ (numL L M g c).length ∧ (numL L M g c).length ≤ c + 1
  | 0 => by simp [numL]
  | c + 1 => by
    have ih := numL_len L M g c
    unfold numL
    split <;> simp <;> omega
theorem numL_mem (L M : List Int) {g : Nat} (hg : g < 8) : ∀ c, ∀ x ∈ numL L M g c, 1 ≤ x ∧ x ≤ 1000
  | 0, x, hx => by
    simp [numL] at hx
    have := strN_bd L M hg
    omega
  | c + 1, x, hx => by
    unfold numL at hx
    rw [List.mem_append] at hx
    rcases hx with hx | hx
    · exact numL_mem L M hg c x hx
    · split at hx
      · simp at hx
      · simp at hx
        subst hx
        exact detN_bd L M c hg
theorem numL_skip {L M : List Int} {g c : Nat} (h : (c : Int) = L[g]?.getD 0 ∨ (c : Int) = M[g]?.getD 0) : numL L M g (c + 1) = numL L M g c := by rw [numL, if_pos h, List.append_nil]
theorem numL_more {L M : List Int} {g c : Nat} (h1 : ¬ (c : Int) = L[g]?.getD 0) (h2 : ¬ (c : Int) = M[g]?.getD 0) : numL L M g (c + 1) = numL L M g c ++ [detN L M g c] := by rw [numL, if_neg (by rintro (h | h) <;> contradiction)]
theorem OwnG.oneAt {w : World} {g e B : Nat} {v : Value} (hb : Box w g e #[v]) (hB : B ≤ g) : OwnG e 1 B w (some ⟨g, 0, none⟩) 1 1 [v] :=
  ⟨by simp, .inr ⟨g, 1, #[v], rfl, hB, hb, Nat.le_refl _, by unfold maxLen; omega, by simp, by simp⟩⟩
theorem stillC {P : Program} {f : FuncId} {args : Array Value} {w : World} {v : Value} (h : Calls P f args w fun e w' => e = .returned v ∧ w = w') : Calls P f args w fun e w' => e = .returned v ∧ w' = w := h.mono fun _ _ ⟨he, hm⟩ => ⟨he, hm.symm⟩
theorem Ints.drewS {w : World} {A : Option Addr} {L : List Int} (h : Ints w A L) (n : Nat) : Ints { w with drawn := n } A L := h

theorem OwnG.drewS {e size B : Nat} {w : World} {A : Option Addr} {n c : Nat} {xs : List Value} (h : OwnG e size B w A n c xs) : OwnG e size B w.drew A n c xs := h
theorem OwnG.grown_belowD {e size B : Nat} {w : World} {A : Option Addr} {n c : Nat} {xs : List Value} {w1 : World} {o : Obj} {B0 : Nat} (h : OwnG e size B w A n c xs) (hg : (w.alloc o).drew.grownBy w1 (Value.slice A n c).ownBlock) (h1 : B0 ≤ B) (h2 : B0 ≤ w.heap.size) : Below B0 w w1 :=
  h.grown_below (o := o) ⟨hg.os, hg.tape, hg.output, hg.size, hg.block⟩ h1 h2
theorem shl_u {g : Nat} (hg : g < 9) : IntKind.i64.wrap (2 ^ min (IntKind.u64.wrap (g : Int)).toNat 64) = pow2 g := by
  have : g = 0 ∨ g = 1 ∨ g = 2 ∨ g = 3 ∨ g = 4 ∨ g = 5 ∨ g = 6 ∨ g = 7 ∨ g = 8 := by omega
  rcases this with rfl | rfl | rfl | rfl | rfl | rfl | rfl | rfl | rfl <;> decide
theorem det_wrap {x y : Int} {g : Nat} (hg : g < 8) (hx : 0 ≤ x ∧ x ≤ 1000) (hy : 0 ≤ y ∧ y ≤ 1000) :
    IntKind.i64.wrap (IntKind.i64.wrap (IntKind.i64.wrap (x + y) + IntKind.i64.wrap (2 ^ min (IntKind.u64.wrap (g : Int)).toNat 64)) + 1) = x + y + pow2 g + 1 := by
  have hp := pow2_bd (k := g) (by omega)
  have e1 : IntKind.i64.wrap (x + y) = x + y := IntWalk.i64_in _ (by omega)
  have e2 : IntKind.i64.wrap (x + y + pow2 g) = x + y + pow2 g := IntWalk.i64_in _ (by omega)
  have e3 : IntKind.i64.wrap (x + y + pow2 g + 1) = x + y + pow2 g + 1 := IntWalk.i64_in _ (by omega)
  exact (congrArg (fun t => IntKind.i64.wrap (IntKind.i64.wrap (IntKind.i64.wrap (x + y) + t) + 1)) (shl_u (by omega))).trans ((congrArg (fun t => IntKind.i64.wrap (IntKind.i64.wrap (t + pow2 g) + 1)) e1).trans ((congrArg (fun t => IntKind.i64.wrap (t + 1)) e2).trans e3))

end Go.Proofs.Ytbcgomimfgggnaa

namespace Go.Proofs.Ytbcgomimfgggnaa
open Go.RowKit
open Go.RowKit (wrap64)
set_option linter.unusedVariables false
set_option maxRecDepth 100000

theorem numL_head (L M : List Int) (g : Nat) : ∀ c, (numL L M g c)[0]? = some (strN L M g)
  | 0 => rfl
  | c + 1 => by
    have h1 := numL_len L M g c
    unfold numL
    rw [List.getElem?_append_left (by omega)]
    exact numL_head L M g c
theorem twoWB_len {k : Int} {L M : List Int} {n m : Nat} (h : twoWB k L M = true) (hL : L.length = n) (hM : M.length = m) : n = m := by rw [← hL, ← hM]; exact (twoWB_of h).2.2

def snC (k : Int) (L M : List Int) : Int := if twoWB k L M = true then (if grt L M L.length = -1 then 5 else 0) else 2
def snV (k : Int) (L M : List Int) : Int := if snC k L M = 0 then strN L M (grN L M) else 0
theorem sn_two {k : Int} {L M : List Int} (h : twoWB k L M = false) : snV k L M = 0 ∧ snC k L M = 2 := by
  have : snC k L M = 2 := by unfold snC; rw [h]; rfl
  exact ⟨by unfold snV; rw [if_neg (by omega)], this⟩
theorem sn_five {k : Int} {L M : List Int} (h : twoWB k L M = true) (hg : grt L M L.length = -1) : snV k L M = 0 ∧ snC k L M = 5 := by
  have : snC k L M = 5 := by unfold snC; rw [if_pos h, if_pos hg]
  exact ⟨by unfold snV; rw [if_neg (by omega)], this⟩
theorem sn_good {k : Int} {L M : List Int} {g n : Nat} (h : twoWB k L M = true) (hL : L.length = n) (hg : grt L M n = g) : snV k L M = strN L M g ∧ snC k L M = 0 := by
  have : snC k L M = 0 := by unfold snC; rw [if_pos h, if_neg (by rw [hL, hg]; omega)]
  exact ⟨by unfold snV; rw [if_pos this, grN_of hL hg], this⟩

end Go.Proofs.Ytbcgomimfgggnaa
