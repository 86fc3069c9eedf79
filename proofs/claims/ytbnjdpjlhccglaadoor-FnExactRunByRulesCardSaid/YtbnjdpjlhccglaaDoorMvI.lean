/- How a list of moves that came in is opened, and copied. -/
import Derived.Test.YtbnjdpjlhccglaaDoorOpen
import Derived.Test.YtbnjdpjlhccglaaDoorMvS
import Derived.Test.YtbnjdpjlhccglaaDoorToMove
import Derived.Test.YtbnjdpjlhccglaaDoorTo
import Derived.Deep.Slices
import Derived.Deep.Strs
namespace Go.Proofs.YtbnjdpjlhccglaaDoor
open Go.ChangeShapes Go.WideShapes Go.ChangeAt Go.RowKit Go.Joins Go.Deep
set_option linter.unusedVariables false

/-- Moves can be read, whatever the address. -/
def MvsA (w : World) (A : Option Addr) (M : List Mv) : Prop :=
  ∀ k, k < M.length → ∃ ad : Addr, A = some ad ∧ ad.block < w.heap.size ∧ w.cell? (ad.add (k * 3)) = some (.int .i64 (M[k]?.getD (0, 0, 0)).1) ∧ w.cell? ⟨(ad.add (k * 3)).block, (ad.add (k * 3)).off + 1, none⟩ = some (.int .i64 (M[k]?.getD (0, 0, 0)).2.1) ∧ w.cell? ⟨(ad.add (k * 3)).block, (ad.add (k * 3)).off + 2, none⟩ = some (.int .i64 (M[k]?.getD (0, 0, 0)).2.2)
theorem MvsA.below {w w' : World} {A : Option Addr} {M : List Mv} (h : MvsA w A M) (hb : Below w.heap.size w w') : MvsA w' A M := by
  intro k hk
  obtain ⟨ad, h1, h2, h3, h4, h5⟩ := h k hk
  have hbk : (ad.add (k * 3)).block < w.heap.size := by rw [add_block]; exact h2
  exact ⟨ad, h1, Nat.lt_of_lt_of_le h2 hb.size, (hb.cell (p := ad.add (k * 3)) hbk).trans h3, (hb.cell (p := ⟨_, _, none⟩) hbk).trans h4, (hb.cell (p := ⟨_, _, none⟩) hbk).trans h5⟩
def ArgMvs (w : World) (A : Option Addr) (n : Nat) (M : List Mv) : Prop := M.length = n ∧ n ≤ 9223372036854775807 ∧ MvsA w A M

theorem cellsMv : Tryd.prog.cellsOf 54 = 3 := by kernel_rfl
set_option maxRecDepth 100000 in
/-- A slice of moves: its value, and what it reads as. -/
theorem open_moves {H : Type} {enc : TypeId × Value → H} {W : World} {v : Value} {d : DataW H} {p : List MemPlace} {b0 : Nat}
    (hv : Value.okWide Tryd.prog W .any b0 27 v) (h : DataW.Trod enc Tryd.prog W 0 (fun _ => true) true 27 v d p) :
    ∃ (A : Option Addr) (n c : Nat) (M : List Mv), v = .slice A n c ∧ ArgMvs W A n M := by
  obtain ⟨fuel, hf⟩ := h
  obtain ⟨A, n, c, rfl⟩ := okWide_slice Tryd.underlying27 hv
  simp only [Value.cells] at hf
  rcases DataW.trod_slice Tryd.underlying27 hf with ⟨hcs, _⟩ | ⟨a, len, cap, elems, rest, m, _, hcs, _, _, hl, hm, hel, hx, _⟩
  · simp at hcs
    obtain ⟨rfl, rfl, rfl⟩ := hcs
    exact ⟨none, 0, 0, [], rfl, rfl, by omega, fun k hk => by simp at hk⟩
  · simp at hcs
    obtain ⟨rfl, rfl, rfl⟩ := hcs
    have hex : ∀ i, i < n → ∃ mv : Mv, W.cell? (a.add (i * 3)) = some (.int .i64 mv.1) ∧ W.cell? (a.add (i * 3 + 1)) = some (.int .i64 mv.2.1) ∧ W.cell? (a.add (i * 3 + 2)) = some (.int .i64 mv.2.2) := by
      intro i hi
      have h1 := hx i hi
      rw [List.getElem?_eq_getElem (by omega), cellsMv] at h1
      obtain ⟨cs', hc, ht⟩ := Option.bind_eq_some_iff.1 h1
      obtain ⟨_, hlen, hat⟩ := World.cells?_some hc
      obtain ⟨y0, y1, y2, m', _, _, t0, t1, t2⟩ := trod_struct3 Tryd.underlying54 ht
      have hk0 := hat 0 (by omega)
      have hk1 := hat 1 (by omega)
      have hk2 := hat 2 (by omega)
      rw [add_add] at hk0 hk1 hk2
      match cs', hlen with
      | [c0, c1, c2], _ =>
        obtain ⟨x0, e0, _, _⟩ := DataW.trod_int Tryd.underlying2 t0
        obtain ⟨x1, e1, _, _⟩ := DataW.trod_int Tryd.underlying2 t1
        obtain ⟨x2, e2, _, _⟩ := DataW.trod_int Tryd.underlying2 t2
        simp [cellsI] at e0 e1 e2
        subst e0 e1 e2
        exact ⟨(x0, x1, x2), hk0, hk1, hk2⟩
    obtain ⟨f, hfm⟩ : ∃ f : Nat → Mv, ∀ i, i < n → W.cell? (a.add (i * 3)) = some (.int .i64 (f i).1) ∧ W.cell? (a.add (i * 3 + 1)) = some (.int .i64 (f i).2.1) ∧ W.cell? (a.add (i * 3 + 2)) = some (.int .i64 (f i).2.2) :=
      ⟨fun i => if h : i < n then Classical.choose (hex i h) else (0, 0, 0), fun i h => by simp only [dif_pos h]; exact Classical.choose_spec (hex i h)⟩
    refine ⟨some a, n, c, (List.range n).map f, rfl, by simp, by unfold maxLen at hm; omega, fun k hk => ?_⟩
    have hk' : k < n := by simpa using hk
    obtain ⟨h1, h2, h3⟩ := hfm k hk'
    have hb := block_of_cell h1
    rw [add_block] at hb
    have e : ((List.range n).map f)[k]?.getD (0, 0, 0) = f k := by rw [List.getElem?_map, List.getElem?_range hk']; rfl
    rw [e]
    rw [← add_add] at h2 h3
    exact ⟨a, rfl, hb, h1, h2, h3⟩

theorem szMoveS_calls (A : Option Addr) (n c : Nat) (left : Int) (w : World) (hn : n ≤ 9223372036854775807) (h0 : 0 ≤ left) (h1 : left ≤ 1048576) :
    Calls Tryd.prog 5 #[.slice A n c, .int .i64 left] w fun e w' => e = .returned (.int .i64 (szI n left)) ∧ w = w' := by
  by_cases hlt : left < n
  · have hs : szI n left = -1 := by unfold szI; rw [if_pos hlt]
    have hw : left - (n : Int) < 0 := by omega
    go_enter Tryd.func5, Tryd.ntmps5
    go_wp2
    go_ret
    exact ⟨ret_int hs.symm, rfl⟩
  · have hs : szI n left = left - n := by unfold szI; rw [if_neg hlt]
    have hw : ¬ left - (n : Int) < 0 := by omega
    go_enter Tryd.func5, Tryd.ntmps5
    go_wp2
    go_ret
    exact ⟨rfl, rfl⟩

/-- The first k moves' numbers, then noughts. -/
def upM (M : List Mv) (k i : Nat) : Value := if i < k * 3 then .int .i64 ((mvF M)[i]?.getD 0) else .int .i64 0
theorem upM_step {M : List Mv} {k : Nat} (hk : k < M.length) (i : Nat) :
    (if i = k * 3 + 2 then Value.int .i64 (M[k]?.getD (0, 0, 0)).2.2 else if i = k * 3 + 1 then Value.int .i64 (M[k]?.getD (0, 0, 0)).2.1 else if i = k * 3 then Value.int .i64 (M[k]?.getD (0, 0, 0)).1 else upM M k i) = upM M (k + 1) i := by
  obtain ⟨h0, h1, h2⟩ := mvF_at M k hk
  unfold upM
  by_cases e2 : i = k * 3 + 2
  · subst e2; rw [if_pos rfl, if_pos (by omega), h2]; rfl
  · rw [if_neg e2]
    by_cases e1 : i = k * 3 + 1
    · subst e1; rw [if_pos rfl, if_pos (by omega), h1]; rfl
    · rw [if_neg e1]
      by_cases e0 : i = k * 3
      · subst e0; rw [if_pos rfl, if_pos (by omega), h0]; rfl
      · rw [if_neg e0]
        by_cases h : i < k * 3
        · rw [if_pos h, if_pos (by omega)]
        · rw [if_neg h, if_neg (by omega)]
theorem made3 (w : World) (n : Nat) : (w.alloc (.cells (madeCells #[Value.int .i64 0, Value.int .i64 0, Value.int .i64 0] (n * 3)) 50)).rowIs w.heap.size 50 (n * 3) (upM [] 0) := by
  refine ⟨madeCells #[Value.int .i64 0, Value.int .i64 0, Value.int .i64 0] (n * 3), heap_alloc_new w _, size_madeCells _ _, fun i hi => ?_⟩
  have h3 : i % 3 = 0 ∨ i % 3 = 1 ∨ i % 3 = 2 := by omega
  rcases h3 with h | h | h <;> simp [madeCells, hi, upM, h]
theorem ownM_row {B g n : Nat} {w : World} {M : List Mv} (h : w.rowIs g 50 (n * 3) (upM M n)) (hM : M.length = n) (hB : B ≤ g) (hn : n ≤ 1048576) : OwnM B w (some ⟨g, 0, none⟩) n n M := by
  obtain ⟨c, hb, hs, hc⟩ := h
  have hl : (mvCells M).length = n * 3 := by rw [mvCells_len, hM]
  refine ⟨hl, .inr ⟨g, n, c, rfl, hB, hb, Nat.le_refl _, by unfold maxLen; omega, hs, ?_⟩⟩
  rw [List.take_of_length_le (by simp [hs])]
  apply List.ext_getElem?
  intro i
  by_cases hi : i < n * 3
  · have h3 := hc i hi
    rw [Array.getElem?_toList, h3]
    unfold upM mvCells
    rw [if_pos hi, List.getElem?_map, List.getElem?_eq_getElem (by rw [mvF_len, hM]; exact hi)]
    rfl
  · rw [List.getElem?_eq_none (by simp [hs]; omega), List.getElem?_eq_none (by rw [hl]; omega)]

set_option maxHeartbeats 1000000 in
theorem toMoveS_calls (A : Option Addr) (n c : Nat) (M : List Mv) (w : World) (hM : M.length = n) (hn : n ≤ 1048576) (hI : MvsA w A M) :
    Calls Tryd.prog 9 #[.slice A n c] w fun e w' => ∃ g, e = .returned (.slice (some ⟨g, 0, none⟩) n n) ∧ w.heap.size ≤ g ∧ OwnM w.heap.size w' (some ⟨g, 0, none⟩) n n M ∧ Below w.heap.size w w' := by
  obtain ⟨i0, hi, hz0, hz1, hz2⟩ := info_parts Tryd.infoM
  have hmk : ∀ W : World, (Instr.makeSlice 36 (.int .i64 (n : Int)) (.int .i64 (n : Int))).run Tryd.prog W = .ok (.slice (some ⟨W.heap.size, 0, none⟩) n n) (W.alloc (.cells (madeCells #[Value.int .i64 0, Value.int .i64 0, Value.int .i64 0] (n * 3)) 50)) := by
    intro W
    have := run_make (P := Tryd.prog) W 36 50 i0 _ Tryd.underlying36 hi hz0 .i64 .i64 n n (by omega) (Int.le_refl _) (by rw [hz2]; omega) (by omega)
    rw [hz1] at this
    simpa [Value.cells] using this
  have HM := Lib.hid hM
  clear hM hi hz0 hz1 hz2
  go_enter Tryd.func9, Tryd.ntmps9
  go_wp2
  go_loopw [4] (fun i wr => ∃ k : Nat, k ≤ n ∧ i = .int .i64 k ∧ wr.rowIs w.heap.size 50 (n * 3) (upM M k) ∧ Below w.heap.size w wr) (fun i _ => n - (intOf i).toNat)
  case atStart => exact ⟨0, Nat.zero_le _, rfl, (made3 w n).congr (fun i _ => by simp [upM]), (Below.refl _ _).alloc (Nat.le_refl _) _⟩
  case round =>
    obtain ⟨k, hk, rfl, hrow, hb⟩ := hrel
    by_cases hlt : k < n
    · obtain ⟨ad, rfl, had, h0, h1, h2⟩ := (hI.below hb) k (by rw [HM.out]; exact hlt)
      have HR := Lib.hid hrow
      have HB := Lib.hid hb
      have hsz := hb.size
      have hkM : k < M.length := by rw [HM.out]; exact hlt
      have HS := Lib.hid (upM_step hkM)
      generalize M[k]?.getD (0, 0, 0) = mv at *
      obtain ⟨md, mf, mt⟩ := mv
      clear hrow hb hkM
      dsimp only at h0 h1 h2
      go_wp2_with fail
      refine (toMove_calls md mf mt _).mono ?_
      rintro e w1 ⟨rfl, hb1⟩
      have HR1 := Lib.hid (HR.out.of_block (hb1.block _ HR.out.lt))
      have HB1 := Lib.hid (HB.out.trans (hb1.mono hsz))
      clear hb1 h0 h1 h2
      have c0 := HR1.out.cell (i := k * 3) (by omega)
      have c1 := HR1.out.cell (i := k * 3 + 1) (by omega)
      have c2 := HR1.out.cell (i := k * 3 + 2) (by omega)
      have f0 := HR1.out.frozen (k * 3)
      have f1 := HR1.out.frozen (k * 3 + 1)
      have f2 := HR1.out.frozen (k * 3 + 2)
      go_wp2
      go_roundw
      case rel => exact ⟨k + 1, by omega, by go_num, ((((HR1.out.set (k * 3) _).set (k * 3 + 1) _).set (k * 3 + 2) _).congr (fun i _ => HS.out i)), ((HB1.out.setCell (Nat.le_refl _) _).setCell (Nat.le_refl _) _).setCell (Nat.le_refl _) _⟩
      case measure => simp [intOf]; omega
    · obtain rfl : k = n := by omega
      go_wp2
      go_ret
      exact ⟨_, rfl, Nat.le_refl _, ownM_row hrow HM.out (Nat.le_refl _) hn, hb⟩

end Go.Proofs.YtbnjdpjlhccglaaDoor
