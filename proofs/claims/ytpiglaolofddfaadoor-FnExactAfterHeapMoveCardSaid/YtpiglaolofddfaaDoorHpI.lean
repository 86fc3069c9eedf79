/- Contracts of the program's heaps: piles. -/
import Derived.Test.YtpiglaolofddfaaDoorHpD
import Derived.Test.YtpiglaolofddfaaDoorState1
import Derived.Defers
import Derived.Stop.Asserts
import Derived.Laws.IdiomCopy
import Derived.Recover
namespace Go.Proofs.YtpiglaolofddfaaDoor
open Go.RowKit
set_option linter.unusedVariables false

/-- Twelve cells of integers. -/
def zA (Z : Nat → Int) : Array Value := #[.int .i64 (Z 0), .int .i64 (Z 1), .int .i64 (Z 2), .int .i64 (Z 3), .int .i64 (Z 4), .int .i64 (Z 5), .int .i64 (Z 6), .int .i64 (Z 7), .int .i64 (Z 8), .int .i64 (Z 9), .int .i64 (Z 10), .int .i64 (Z 11)]
theorem Box.z12 {w : World} {b t : Nat} {Z : Nat → Int} (h : Box w b t (zA Z)) : w.cell? ⟨b, 0, none⟩ = some (.int .i64 (Z 0)) ∧ w.cell? ⟨b, 1, none⟩ = some (.int .i64 (Z 1)) ∧ w.cell? ⟨b, 2, none⟩ = some (.int .i64 (Z 2)) ∧ w.cell? ⟨b, 3, none⟩ = some (.int .i64 (Z 3)) ∧ w.cell? ⟨b, 4, none⟩ = some (.int .i64 (Z 4)) ∧ w.cell? ⟨b, 5, none⟩ = some (.int .i64 (Z 5)) ∧ w.cell? ⟨b, 6, none⟩ = some (.int .i64 (Z 6)) ∧ w.cell? ⟨b, 7, none⟩ = some (.int .i64 (Z 7)) ∧ w.cell? ⟨b, 8, none⟩ = some (.int .i64 (Z 8)) ∧ w.cell? ⟨b, 9, none⟩ = some (.int .i64 (Z 9)) ∧ w.cell? ⟨b, 10, none⟩ = some (.int .i64 (Z 10)) ∧ w.cell? ⟨b, 11, none⟩ = some (.int .i64 (Z 11)) :=
  ⟨by simpa [zA] using h.cell 0, by simpa [zA] using h.cell 1, by simpa [zA] using h.cell 2, by simpa [zA] using h.cell 3, by simpa [zA] using h.cell 4, by simpa [zA] using h.cell 5, by simpa [zA] using h.cell 6, by simpa [zA] using h.cell 7, by simpa [zA] using h.cell 8, by simpa [zA] using h.cell 9, by simpa [zA] using h.cell 10, by simpa [zA] using h.cell 11⟩
theorem box_of_row {w : World} {b t : Nat} {Z : Nat → Int} (h : w.rowIs b t 12 (fun i => .int .i64 (Z i))) : Box w b t (zA Z) := by
  obtain ⟨c, hb, hn, hc⟩ := h
  unfold Box
  rw [hb]
  congr 2
  apply Array.ext (by rw [hn]; rfl)
  intro i h1 h2
  have h3 := hc i (by omega)
  rw [Array.getElem?_eq_getElem h1] at h3
  injection h3 with h3
  rw [h3]
  have hi : i < 12 := by omega
  match i, hi with
  | 0, _ => rfl
  | 1, _ => rfl
  | 2, _ => rfl
  | 3, _ => rfl
  | 4, _ => rfl
  | 5, _ => rfl
  | 6, _ => rfl
  | 7, _ => rfl
  | 8, _ => rfl
  | 9, _ => rfl
  | 10, _ => rfl
  | 11, _ => rfl
theorem Box.row12 {w : World} {b t : Nat} {Z : Nat → Int} (h : Box w b t (zA Z)) : w.rowIs b t 12 (fun i => .int .i64 (Z i)) := by
  refine ⟨zA Z, h, rfl, fun i hi => ?_⟩
  match i, hi with
  | 0, _ => rfl
  | 1, _ => rfl
  | 2, _ => rfl
  | 3, _ => rfl
  | 4, _ => rfl
  | 5, _ => rfl
  | 6, _ => rfl
  | 7, _ => rfl
  | 8, _ => rfl
  | 9, _ => rfl
  | 10, _ => rfl
  | 11, _ => rfl

theorem with_calls (a b c d x : Int) (w : World) :
    Calls Tryd.prog 45 #[.agg #[.int .i64 a, .int .i64 b, .int .i64 c, .int .i64 d], .int .i64 x] w fun e w' => e = .returned (.agg #[.int .i64 x, .int .i64 a, .int .i64 b, .int .i64 c]) ∧ Below w.heap.size w w' := by
  go_enter Tryd.func45, Tryd.ntmps45
  have hcp := run_copy_cells (P := Tryd.prog) (((w.alloc (.cells #[.int .i64 a, .int .i64 b, .int .i64 c, .int .i64 d] 48)).alloc (.cells #[.int .i64 0, .int .i64 0, .int .i64 0, .int .i64 0] 48)).drew) 61 61 3 2 w.heap.size 1 3 3 ⟨w.heap.size, 0, none⟩ 4 4 [.int .i64 a, .int .i64 b, .int .i64 c] Tryd.underlying61 (by kernel_rfl) rfl
    (by intro j v hj; match j, hj with | 0, hj => simp at hj; simp [hj, Addr.add] | 1, hj => simp at hj; simp [hj, Addr.add] | 2, hj => simp at hj; simp [hj, Addr.add] | j + 3, hj => simp at hj)
    (by intro j hj; match j, hj with | 0, hj => simp | 1, hj => simp | 2, hj => simp | j + 3, hj => simp at hj; omega)
    (by intro j hj; simp)
    (by simp [Value.oneCell'])
  simp [World.setCells] at hcp
  go_wp2
  go_region
  go_wp2
  refine bodyPost_ret (v := .agg #[.int .i64 x, .int .i64 a, .int .i64 b, .int .i64 c]) (by simp [results, Tryd.results45, go_sem]) rfl ⟨rfl, (((Below.refl _ _).alloc (Nat.le_refl _) _).alloc (by simp) _).drew⟩

theorem numberOfDiscs_calls (A : Option Addr) (n c : Nat) (rs : List Rw) (w : World) (hL : rs.length = n) (hn : n ≤ 1048576) (hb : totN rs ≤ 1048576) (hI : IntsSS w A rs) :
    Calls Tryd.prog 47 #[.agg #[.slice A n c]] w fun e w' => e = .returned (.int .i64 (totN rs)) ∧ Below w.heap.size w w' := by
  have HL := Lib.hid hL
  have HT := Lib.hid hb
  have hb0 : Below w.heap.size w (w.alloc (.cells #[.slice A n c] 29)) := (Below.refl _ _).alloc (Nat.le_refl _) _
  have HI := Lib.hid (hI.below hb0)
  have HB0 := Lib.hid hb0
  clear hL hb hI hb0
  go_enter Tryd.func47, Tryd.ntmps47
  go_wp2
  go_loop [3, 5, 9] (fun m _ i => ∃ j q : Nat, j ≤ n ∧ i = .int .i64 j ∧ m = .int .i64 q ∧ Hid (q = totN (rs.take j)) ∧ q ≤ 1048576) (fun _ _ i => n - (intOf i).toNat)
  case atStart => exact ⟨0, 0, Nat.zero_le _, rfl, rfl, by unfold Hid totN; simp, by omega⟩
  case round =>
    obtain ⟨j, q, hj, rfl, rfl, hq, hqb⟩ := hrel
    by_cases hlt : j < n
    · obtain ⟨r, hr⟩ := get_of_lt (rs := rs) (k := j) (by rw [HL.out]; exact hlt)
      obtain ⟨ad, hA, had, hc, hl, hi⟩ := HI.out j r hr
      have HTS := Lib.hid (totN_take_succ hr)
      have htl := totN_take_le rs (j + 1)
      have hq2 : q + r.n ≤ 1048576 := by have := HT.out; have := hq.out; have := HTS.out; omega
      clear hr hl hi htl
      obtain ⟨rA, rn, rc, rd, rL⟩ := r
      change _ = some (Value.slice rA rn rc) at hc
      change q + rn ≤ 1048576 at hq2
      change Hid (totN (rs.take (j + 1)) = totN (rs.take j) + rn) at HTS
      subst hA
      have hlt2 : (j : Int) < (n : Int) := by omega
      go_wp2
      go_round
      case rel => exact ⟨j + 1, q + rn, by omega, by go_num, by go_num, by unfold Hid; rw [HTS.out, ← hq.out], hq2⟩
      case measure => simp [intOf]; omega
    · obtain rfl : j = n := by omega
      have e : rs.take j = rs := List.take_of_length_le (by rw [HL.out]; exact Nat.le_refl _)
      have H : Hid (q = totN rs) := by unfold Hid; rw [hq.out, e]
      go_wp2
      go_ret
      exact ⟨ret_int (by rw [H.out]), HB0.out⟩

/-- The first k places have ground. -/
def grd (k : Nat) (i : Nat) : Value := .int .i64 (if i < k then 4 else 0)
theorem grd_step (k : Nat) (i : Nat) : (if i = k then Value.int .i64 4 else grd k i) = grd (k + 1) i := by
  unfold grd
  by_cases h : i = k
  · subst h; simp
  · rw [if_neg h]
    by_cases h2 : i < k
    · rw [if_pos h2, if_pos (by omega)]
    · rw [if_neg h2, if_neg (by omega)]
theorem box_zeros {w : World} {b t : Nat} (h : Box w b t (zA (fun _ => 0))) : w.rowIs b t 12 (grd 0) := h.row12.congr (fun i _ => by simp [grd])
set_option maxHeartbeats 1000000 in
theorem noDiscs_calls (w : World) :
    Calls Tryd.prog 48 #[] w fun e w' => e = .returned (.agg (zA (fun _ => 4))) ∧ Below w.heap.size w w' := by
  go_enter Tryd.func48, Tryd.ntmps48
  go_wp2
  go_loopw [2, 4] (fun _ i wr => ∃ p : Nat, p ≤ 3 ∧ i = .int .i64 p ∧ wr.rowIs (w.heap.size + 1) 50 12 (grd (p * 4)) ∧ wr.rowIs w.heap.size 50 12 (grd 0) ∧ Below w.heap.size w wr) (fun _ i _ => 3 - (intOf i).toNat)
  case atStart =>
    have h0 := box_zeros (Box.new w 50 (zA (fun _ => 0)))
    have h1 := box_zeros (Box.new (w.alloc (.cells (zA (fun _ => 0)) 50)) 50 (zA (fun _ => 0)))
    exact ⟨0, by omega, rfl, by simpa [zA] using h1, h0.alloc _, ((Below.refl _ _).alloc (Nat.le_refl _) _).alloc (by simp) _⟩
  case round =>
    obtain ⟨p, hp, rfl, hrow, hrow0, hb⟩ := hrel
    by_cases hlt : p < 3
    · have hlt2 : (p : Int) < 3 := by omega
      go_wp2
      go_loopw [3, 7] (fun _ i wq => ∃ q : Nat, q ≤ 4 ∧ i = .int .i64 q ∧ wq.rowIs (w.heap.size + 1) 50 12 (grd (p * 4 + q)) ∧ wq.rowIs w.heap.size 50 12 (grd 0) ∧ Below w.heap.size w wq) (fun _ i _ => 4 - (intOf i).toNat)
      case atStart => exact ⟨0, by omega, rfl, hrow, hrow0, hb⟩
      case round =>
        obtain ⟨q, hq, rfl, hrow2, hrow02, hb2⟩ := hrel
        by_cases hlq : q < 4
        · have hlq2 : (q : Int) < 4 := by omega
          have hc := hrow2.cell (i := p * 4 + q) (by omega)
          have hf := hrow2.frozen (p * 4 + q)
          go_wp2
          go_roundw
          case rel => exact ⟨q + 1, by omega, by go_num, (hrow2.set _ _).congr (fun i _ => grd_step (p * 4 + q) i), hrow02.setOther (by simp) _, hb2.setCell (by simp) _⟩
          case measure => simp [intOf]; omega
        · obtain rfl : q = 4 := by omega
          go_wp2
          go_roundw
          case rel => exact ⟨p + 1, by omega, by go_num, by rw [show (p + 1) * 4 = p * 4 + 4 by omega]; exact hrow2, hrow02, hb2⟩
          case measure => simp [intOf]; omega
    · obtain rfl : p = 3 := by omega
      have h1 : Box wr (w.heap.size + 1) 50 (zA (fun _ => 4)) := box_of_row (hrow.congr (fun i hi => by simp [grd, hi]))
      have h0 : Box wr w.heap.size 50 (zA (fun _ => 0)) := box_of_row (hrow0.congr (fun i hi => by simp [grd]))
      obtain ⟨c0, c1, c2, c3, c4, c5, c6, c7, c8, c9, c10, c11⟩ := h1.z12
      obtain ⟨d0, d1, d2, d3, d4, d5, d6, d7, d8, d9, d10, d11⟩ := h0.z12
      have f1 := h0.frozen
      have HB := Lib.hid hb
      have HB0 := Lib.hid h0
      clear hrow hrow0 hb h1 h0
      go_wp2
      have hbx := ((((((((((((HB0.out.set 0 (.int .i64 4)).set 1 (.int .i64 4)).set 2 (.int .i64 4)).set 3 (.int .i64 4)).set 4 (.int .i64 4)).set 5 (.int .i64 4)).set 6 (.int .i64 4)).set 7 (.int .i64 4)).set 8 (.int .i64 4)).set 9 (.int .i64 4)).set 10 (.int .i64 4)).set 11 (.int .i64 4))
      refine bodyPost_ret (results_cell_row rfl _ _ w.heap.size 50 (zA (fun _ => 4)) (0, 0) _ rfl hbx Tryd.underlying50 rfl (by kernel_rfl)) rfl ⟨rfl, ?_⟩
      exact ((((((((((((HB.out.setCell (by simp) _).setCell (by simp) _).setCell (by simp) _).setCell (by simp) _).setCell (by simp) _).setCell (by simp) _).setCell (by simp) _).setCell (by simp) _).setCell (by simp) _).setCell (by simp) _).setCell (by simp) _).setCell (by simp) _)

/-- What recover finds: nil is no error, the error is one. -/
theorem ta_nil (w : World) : (Instr.typeAssert .nilIface 20 68 true).run Tryd.prog w = .ok (.tuple #[.nilIface, .bool false]) w := by
  have h : (Tryd.prog.info? 68).map (·.zero) = some (some .nilIface) := by kernel_rfl
  obtain ⟨i, hi, hz⟩ := Option.map_eq_some_iff.1 h
  simp [Instr.typeAssert, run_underlying Tryd.underlying68, typeInfo, hi, zeroValue, hz]
theorem ta_err (v : Value) (w : World) : (Instr.typeAssert (.iface 78 v) 20 68 true).run Tryd.prog w = .ok (.tuple #[.iface 78 v, .bool true]) w :=
  run_typeAssert_hasB Tryd.underlying68 (by kernel_rfl) v _ w

theorem door_idle (p : Addr) (w : World) :
    CallsD Tryd.prog 37 #[.pointer (some p)] .returning w fun e u' w' => e = .returned (.tuple #[]) ∧ u' = .returning ∧ w' = w := by
  have hta := ta_nil
  refine callsD_of_wpS Tryd.func37 rfl fun c₀ cs hu => ?_
  apply wpS_seq
  apply wpS_region
  simp [wpOpsS, go_sem, recoverD, hu, hta, Tryd.ntmps37, Exit.thenS]
  apply wpS_seq
  apply wpS_region
  simp [wpOpsS, go_sem, Exit.thenS]
  refine wpS_cond (t := false) (by simp [Act.eval, Array.replicate]) ?_
  simp only [Bool.false_eq_true, if_false]
  refine wpS_of_wp (wp_skip ?_)
  cases c₀
  simp_all [bodyPostS, results, Tryd.results37]

theorem door_caught (p : Addr) (x : Int) (pv : Value) (older : List PanicEntry) (w : World) (hc : w.cell? p = some (.int .i64 x)) (hz : w.frozen? p = false) :
    CallsD Tryd.prog 37 #[.pointer (some p)] (.panicking ({ v := .iface 78 pv, recovered := false } :: older)) w fun e u' w' =>
      e = .returned (.tuple #[]) ∧ u' = .panicking ({ v := .iface 78 pv, recovered := true } :: older) ∧ w' = w.setCell p (.int .i64 1) := by
  have hta := ta_err pv
  refine callsD_of_wpS Tryd.func37 rfl fun c₀ cs hu => ?_
  apply wpS_seq
  apply wpS_region
  simp [wpOpsS, go_sem, recoverD, hu, hta, Tryd.ntmps37, Exit.thenS]
  apply wpS_seq
  apply wpS_region
  simp [wpOpsS, go_sem, Exit.thenS]
  refine wpS_cond (t := true) (by simp [Act.eval, Array.replicate]) ?_
  simp only [if_true]
  apply wpS_region
  simp [wpOpsS, go_sem, hc, hz, bodyPostS, results, Tryd.results37]

end Go.Proofs.YtpiglaolofddfaaDoor
