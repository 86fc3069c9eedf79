/- Contracts: the tables for 0 to n discs. -/
import Derived.Test.YtfdjlgpdbgmdkacRuMore
namespace Go.Proofs.Ytfdjlgpdbgmdkac
open Go.RowKit Go.Shelf
set_option linter.unusedVariables false
set_option linter.unusedSimpArgs false

/-- The table for n discs. -/
def tbl (a : Int → Int → Bool) : Nat → Nat → Int
  | 0 => fun _ => 0
  | n + 1 => moreT a (tbl a n)
/-- The cells of the tables for less than m discs. -/
def upT (a : Int → Int → Bool) (m : Nat) (i : Nat) : Value := if i < m * 9 then .int .i64 (tbl a (i / 9) (i % 9)) else .int .i64 0
theorem upT_at (a : Int → Int → Bool) {m d j : Nat} (hd : d < m) (hj : j < 9) : upT a m (d * 9 + j) = .int .i64 (tbl a d j) := by
  unfold upT
  rw [if_pos (by omega), show (d * 9 + j) / 9 = d by omega, show (d * 9 + j) % 9 = j by omega]
theorem z9_def (r : Nat → Int) : z9 r = #[.int .i64 (r 0), .int .i64 (r 1), .int .i64 (r 2), .int .i64 (r 3), .int .i64 (r 4), .int .i64 (r 5), .int .i64 (r 6), .int .i64 (r 7), .int .i64 (r 8)] := rfl
/-- Nine cells are stored. -/
def setT (w : World) (b o : Nat) (v : Nat → Value) : World := (((((((((w.setCell ⟨b, o, none⟩ (v 0)).setCell ⟨b, o + 1, none⟩ (v 1)).setCell ⟨b, o + 2, none⟩ (v 2)).setCell ⟨b, o + 3, none⟩ (v 3)).setCell ⟨b, o + 4, none⟩ (v 4)).setCell ⟨b, o + 5, none⟩ (v 5)).setCell ⟨b, o + 6, none⟩ (v 6)).setCell ⟨b, o + 7, none⟩ (v 7)).setCell ⟨b, o + 8, none⟩ (v 8))
theorem row_setT {w : World} {b t n : Nat} {f : Nat → Value} (h : w.rowIs b t n f) (o : Nat) (v : Nat → Value) : (setT w b o v).rowIs b t n (fun i => if o ≤ i ∧ i < o + 9 then v (i - o) else f i) := by
  refine World.rowIs.congr (((((((((h.set (o) (v 0)).set (o + 1) (v 1)).set (o + 2) (v 2)).set (o + 3) (v 3)).set (o + 4) (v 4)).set (o + 5) (v 5)).set (o + 6) (v 6)).set (o + 7) (v 7)).set (o + 8) (v 8)) (fun i hi => ?_)
  by_cases hr : o ≤ i ∧ i < o + 9
  · obtain ⟨j, rfl⟩ : ∃ j, i = o + j := ⟨i - o, by omega⟩
    rw [if_pos hr, show o + j - o = j by omega]
    have hj : j < 9 := by omega
    match j, hj with
    | 0, _ => simp
    | 1, _ => simp
    | 2, _ => simp
    | 3, _ => simp
    | 4, _ => simp
    | 5, _ => simp
    | 6, _ => simp
    | 7, _ => simp
    | 8, _ => simp
  · rw [if_neg hr]
    rw [if_neg (by omega)]
    rw [if_neg (by omega)]
    rw [if_neg (by omega)]
    rw [if_neg (by omega)]
    rw [if_neg (by omega)]
    rw [if_neg (by omega)]
    rw [if_neg (by omega)]
    rw [if_neg (by omega)]
    rw [if_neg (by omega)]
theorem below_setT {B b : Nat} {w w' : World} (h : Below B w w') (hB : B ≤ b) (o : Nat) (v : Nat → Value) : Below B w (setT w' b o v) := (((((((((h.setCell hB _).setCell hB _).setCell hB _).setCell hB _).setCell hB _).setCell hB _).setCell hB _).setCell hB _).setCell hB _)
theorem upT_next (a : Int → Int → Bool) (m i : Nat) : (if m * 9 ≤ i ∧ i < m * 9 + 9 then Value.int .i64 (tbl a m (i - m * 9)) else upT a m i) = upT a (m + 1) i := by
  unfold upT
  by_cases h : m * 9 ≤ i ∧ i < m * 9 + 9
  · rw [if_pos h, if_pos (by omega), show i / 9 = m by omega, show i % 9 = i - m * 9 by omega]
  · rw [if_neg h]
    by_cases h2 : i < m * 9
    · rw [if_pos h2, if_pos (by omega)]
    · rw [if_neg h2, if_neg (by omega)]
theorem made9 (a : Int → Int → Bool) (w : World) (n : Nat) : (w.alloc (.cells (madeCells (z9 (fun _ => 0)) (n * 9)) 54)).rowIs w.heap.size 54 (n * 9) (upT a 1) := by
  refine ⟨madeCells (z9 (fun _ => 0)) (n * 9), heap_alloc_new w _, size_madeCells _ _, fun i hi => ?_⟩
  have e : upT a 1 i = .int .i64 0 := by
    unfold upT
    by_cases h : i < 1 * 9
    · rw [if_pos h, show i / 9 = 0 by omega]; rfl
    · rw [if_neg h]
  rw [e]
  obtain ⟨q, j, rfl, hj⟩ : ∃ q j, i = q * 9 + j ∧ j < 9 := ⟨i / 9, i % 9, by omega, by omega⟩
  match j, hj with
  | 0, _ =>
    have hi' : q * 9 < n * 9 := by omega
    simp [madeCells, hi', z9]
  | 1, _ => simp [madeCells, hi, z9]
  | 2, _ => simp [madeCells, hi, z9]
  | 3, _ => simp [madeCells, hi, z9]
  | 4, _ => simp [madeCells, hi, z9]
  | 5, _ => simp [madeCells, hi, z9]
  | 6, _ => simp [madeCells, hi, z9]
  | 7, _ => simp [madeCells, hi, z9]
  | 8, _ => simp [madeCells, hi, z9]
theorem Try.infoTb : (Try.prog.info? 54).map (fun i => (i.zero, i.size, i.bytes)) = some (some (.agg (z9 (fun _ => 0))), 9, 72) := by kernel_rfl

set_option maxRecDepth 100000 in
set_option maxHeartbeats 4000000 in
theorem tablesTo_calls (r : Nat → Int) (n : Nat) (hn : n ≤ 8) (hT : ∀ m, m ≤ n → ∀ k, 0 ≤ tbl (alR r) m k ∧ tbl (alR r) m k ≤ 1000000) (w : World) :
    Calls Try.prog 30 #[.iface 26 (.agg (z9 r)), .int .i64 n] w fun e w' => ∃ g, e = .returned (.slice (some ⟨g, 0, none⟩) (n + 1) (n + 1)) ∧ w.heap.size ≤ g ∧ w'.rowIs g 54 ((n + 1) * 9) (upT (alR r) (n + 1)) ∧ Below w.heap.size w w' := by
  obtain ⟨i0, hi, hz0, hz1, hz2⟩ := info_parts Try.infoTb
  have hmk : ∀ W : World, (Instr.makeSlice 55 (.int .i64 ((n : Int) + 1)) (.int .i64 ((n : Int) + 1))).run Try.prog W = .ok (.slice (some ⟨W.heap.size, 0, none⟩) (n + 1) (n + 1)) (W.alloc (.cells (madeCells (z9 (fun _ => 0)) ((n + 1) * 9)) 54)) := by
    intro W
    have := run_make (P := Try.prog) W 55 54 i0 _ Try.underlying55 hi hz0 .i64 .i64 ((n : Int) + 1) ((n : Int) + 1) (by omega) (Int.le_refl _) (by rw [hz2]; omega) (by omega)
    rw [hz1, show ((n : Int) + 1).toNat = n + 1 by omega] at this
    simpa [Value.cells] using this
  have HT := Lib.hid hT
  clear hT hi hz0 hz1 hz2
  go_enter Try.func30, Try.ntmps30
  go_wp2
  go_loopw [11] (fun i wr => ∃ k : Nat, k ≤ n ∧ i = .int .i64 k ∧ wr.rowIs w.heap.size 54 ((n + 1) * 9) (upT (alR r) (k + 1)) ∧ Below w.heap.size w wr) (fun i _ => n - (intOf i).toNat)
  case atStart => exact ⟨0, Nat.zero_le _, rfl, made9 (alR r) w (n + 1), (Below.refl _ _).alloc (Nat.le_refl _) _⟩
  case round =>
    obtain ⟨k, hk, rfl, hrow, hb⟩ := hrel
    by_cases hlt : k < n
    · have HR := Lib.hid hrow
      have HB := Lib.hid hb
      have hsz := hb.size
      clear hrow hb
      have c0 := (HR.out.cell (i := k * 9) (by omega)).trans (congrArg some (upT_at (alR r) (j := 0) (by omega) (by omega)))
      have c1 := (HR.out.cell (i := k * 9 + 1) (by omega)).trans (congrArg some (upT_at (alR r) (j := 1) (by omega) (by omega)))
      have c2 := (HR.out.cell (i := k * 9 + 2) (by omega)).trans (congrArg some (upT_at (alR r) (j := 2) (by omega) (by omega)))
      have c3 := (HR.out.cell (i := k * 9 + 3) (by omega)).trans (congrArg some (upT_at (alR r) (j := 3) (by omega) (by omega)))
      have c4 := (HR.out.cell (i := k * 9 + 4) (by omega)).trans (congrArg some (upT_at (alR r) (j := 4) (by omega) (by omega)))
      have c5 := (HR.out.cell (i := k * 9 + 5) (by omega)).trans (congrArg some (upT_at (alR r) (j := 5) (by omega) (by omega)))
      have c6 := (HR.out.cell (i := k * 9 + 6) (by omega)).trans (congrArg some (upT_at (alR r) (j := 6) (by omega) (by omega)))
      have c7 := (HR.out.cell (i := k * 9 + 7) (by omega)).trans (congrArg some (upT_at (alR r) (j := 7) (by omega) (by omega)))
      have c8 := (HR.out.cell (i := k * 9 + 8) (by omega)).trans (congrArg some (upT_at (alR r) (j := 8) (by omega) (by omega)))
      go_wp2_with fail
      refine (withOneMore_calls r (tbl (alR r) k) (HT.out k hk) _).mono ?_
      obtain ⟨q, hq⟩ : ∃ q, moreT (alR r) (tbl (alR r) k) = q := ⟨_, rfl⟩
      rw [hq]
      have HQ := Lib.hid hq
      clear hq
      rw [z9_def q]
      rintro e w1 ⟨rfl, hb1⟩
      have HR1 := Lib.hid (HR.out.of_block (hb1.block _ HR.out.lt))
      have HB1 := Lib.hid (HB.out.trans (hb1.mono hsz))
      clear hb1 c0 c1 c2 c3 c4 c5 c6 c7 c8
      have c0 := HR1.out.cell (i := (k + 1) * 9) (by omega)
      have c1 := HR1.out.cell (i := (k + 1) * 9 + 1) (by omega)
      have c2 := HR1.out.cell (i := (k + 1) * 9 + 2) (by omega)
      have c3 := HR1.out.cell (i := (k + 1) * 9 + 3) (by omega)
      have c4 := HR1.out.cell (i := (k + 1) * 9 + 4) (by omega)
      have c5 := HR1.out.cell (i := (k + 1) * 9 + 5) (by omega)
      have c6 := HR1.out.cell (i := (k + 1) * 9 + 6) (by omega)
      have c7 := HR1.out.cell (i := (k + 1) * 9 + 7) (by omega)
      have c8 := HR1.out.cell (i := (k + 1) * 9 + 8) (by omega)
      have f0 := HR1.out.frozen ((k + 1) * 9)
      have f1 := HR1.out.frozen ((k + 1) * 9 + 1)
      have f2 := HR1.out.frozen ((k + 1) * 9 + 2)
      have f3 := HR1.out.frozen ((k + 1) * 9 + 3)
      have f4 := HR1.out.frozen ((k + 1) * 9 + 4)
      have f5 := HR1.out.frozen ((k + 1) * 9 + 5)
      have f6 := HR1.out.frozen ((k + 1) * 9 + 6)
      have f7 := HR1.out.frozen ((k + 1) * 9 + 7)
      have f8 := HR1.out.frozen ((k + 1) * 9 + 8)
      go_wp2
      go_roundw
      case rel =>
        refine ⟨k + 1, by omega, by go_num, ?_, below_setT HB1.out (Nat.le_refl _) ((k + 1) * 9) (fun j => .int .i64 (q j))⟩
        refine (row_setT HR1.out ((k + 1) * 9) (fun j => .int .i64 (q j))).congr (fun i _ => ?_)
        have e := upT_next (alR r) (k + 1) i
        rwa [show tbl (alR r) (k + 1) = q from HQ.out] at e
      case measure => simp [intOf]; omega
    · obtain rfl : k = n := by omega
      go_wp2
      go_ret
      exact ⟨_, rfl, Nat.le_refl _, hrow, hb⟩

end Go.Proofs.Ytfdjlgpdbgmdkac
