/- Contracts: copies of states, and the state after a legal move. · Words for memory: a slice in the call's own memory, of any element type. No program. · Lists of moves in memory: words, and the law's comparisons and marks. · Contracts: the way to a perfect state, by the specification's model. · Contracts: WayBetween, by the specification's model. -/
import Derived.Test.YtbcgomimfgggnaaPk1
import Derived.Test.YtbcgomimfgggnaaPk3
import Derived.Laws.CopyOwn
import Derived.Laws.AppendOwnNone
import Derived.Deep.RegionHeld3
import Derived.Deep.DeepCutAuto
import Derived.Deep.AppendLies
import Derived.Maps.AppendAt
import Derived.StillTailTactics
import Derived.BigQuiet
import Derived.Deep.RegionLaw
import Derived.IntWalk
import Derived.Deep.Cut
namespace Go.Proofs.Ytbcgomimfgggnaa
open Go.RowKit
set_option linter.unusedVariables false
set_option maxRecDepth 100000

theorem Try.sizeI : (Try.prog.info? 2).map (·.size) = some 1 := by kernel_rfl

/-- A list of integers has room. -/
theorem own_below {B : Nat} {w w1 : World} {A : Option Addr} {n c : Nat} {L : List Int} (h : Own B w A n c L) (hg : w.grownBy w1 (Value.slice A n c).ownBlock) {B0 : Nat} (hB : B0 ≤ B) (hs : B0 ≤ w.heap.size) : Below B0 w w1 :=
  (Below.refl B0 w).grown hg hs (fun k hk => Nat.le_trans hB (own_bk h k hk))

set_option maxHeartbeats 400000 in
theorem l01Own_calls (A : Option Addr) (n c : Nat) (L : List Int) (w : World) (hL : L.length = n) (hn : n ≤ 1048576) (hA : A = none → c = 0) (hI : Ints w A L) :
    Calls Try.prog 81 #[.slice A n c] w fun e w' => ∃ A' c', e = .returned (.slice A' n c') ∧ Own w.heap.size w' A' n c' L ∧ Below w.heap.size w w' := by
  obtain ⟨i0, hi, hz0, hz1, hz2⟩ := info_parts Try.infoI
  have HL : Hid (L.length = n) := hL
  have he : Own w.heap.size (w.alloc (.cells #[] 2)) (some ⟨w.heap.size, 0, none⟩) 0 0 [] := Own.emptyAt (Box.new _ _ _) (Nat.le_refl _)
  have HB0 := Lib.hid ((Below.refl w.heap.size w).alloc (Nat.le_refl _) (.cells #[] 2))
  have HI := Lib.hid (hI.below HB0.out)
  rcases A with _ | ad
  · obtain rfl := hA rfl
    have hn0 : n = 0 := by
      rcases Nat.eq_zero_or_pos n with h | h
      · exact h
      · obtain ⟨_, h1, _⟩ := hI 0 (by omega)
        cases h1
    subst hn0
    obtain rfl : L = [] := List.eq_nil_of_length_eq_zero hL
    clear hL hI
    go_enter Try.func81, Try.ntmps81
    go_wp2_with (at_builtin; refine wpList_append_own_none rfl _ _ 28 rfl w.heap.size 2 i0 1 Try.underlying28 hi _ _ _ rfl he rfl ?_)
    go_ret
    exact ⟨_, _, rfl, he, HB0.out⟩
  · clear hL hI hA
    go_enter Try.func81, Try.ntmps81
    go_wp2_with (at_builtin; refine wpList_append_own _ rfl _ _ 28 rfl w.heap.size 2 i0 (.int .i64 0) 1 8 Try.underlying28 hi hz0 hz1 hz2 rfl (by decide) _ _ _ rfl he ad n c (L.map (Value.int .i64)) rfl (by simp [HL.out]) (HI.out.news) (ints_oneCell _ _) (by unfold maxLen; omega) (by omega) (by simp) ?_; intro v' w1 hown' hgrow _; obtain ⟨A', c', rfl⟩ := own_shape hown'; have HO := Lib.hid hown'; have HG := Lib.hid hgrow; clear hown' hgrow)
    go_ret
    refine ⟨A', c', by simp, ?_, ?_⟩
    · have := HO.out
      unfold Own
      simpa using this
    · exact HB0.out.trans (own_below he HG.out (Nat.le_refl _) (by simp))

set_option maxHeartbeats 400000 in
theorem copyOfState_calls (A : Option Addr) (n c : Nat) (p : Int) (L : List Int) (w : World) (hL : L.length = n) (hn : n ≤ 1048576) (hI : Ints w A L) :
    Calls Try.prog 72 #[.agg #[.int .i64 p, .slice A n c]] w fun e w' => ∃ A' c', e = .returned (.agg #[.int .i64 p, .slice A' n c']) ∧ n ≤ c' ∧ c' ≤ 1048576 ∧ Own w.heap.size w' A' n c' L ∧ Below w.heap.size w w' := by
  have hmk := run_make_row' (P := Try.prog) 28 2 (.int .i64 0) 8 Try.underlying28 Try.infoI rfl .i64 .i64 n (by omega) (by omega)
  have HL : Hid (L.length = n) := hL
  clear hL
  obtain ⟨Z, HZ⟩ : ∃ Z : List Value, Hid (Z = List.replicate n (Value.int .i64 0)) := ⟨_, rfl⟩
  have hmc : madeCells #[Value.int .i64 0] n = Z.toArray := by
    apply Array.ext'
    rw [toList_madeCells_one, HZ.out]
  rw [hmc] at hmk
  have hzl : Hid (Z.length = n) := by unfold Hid; rw [HZ.out]; simp
  have HG : Hid ((((w.alloc (.cells #[.int .i64 p, .slice A n c] 30)).alloc (.cells #[.int .i64 0, .slice none 0 0] 30)).alloc (.cells Z.toArray 2)).heap[w.heap.size + 1 + 1]? = some (.cells Z.toArray 2 (0, 0))) := by
    have := Box.new ((w.alloc (.cells #[.int .i64 p, .slice A n c] 30)).alloc (.cells #[.int .i64 0, .slice none 0 0] 30)) 2 Z.toArray
    simp only [World.size_alloc] at this
    exact this
  have HB : Hid (Below w.heap.size w (((w.alloc (.cells #[.int .i64 p, .slice A n c] 30)).alloc (.cells #[.int .i64 0, .slice none 0 0] 30)).alloc (.cells Z.toArray 2))) := (((Below.refl _ _).alloc (Nat.le_refl _) _).alloc (by simp) _).alloc (by simp; omega) _
  have HBX : Hid (Box (((w.alloc (.cells #[.int .i64 p, .slice A n c] 30)).alloc (.cells #[.int .i64 0, .slice none 0 0] 30)).alloc (.cells Z.toArray 2)) w.heap.size 30 #[.int .i64 p, .slice A n c]) := ((Box.new _ _ _).alloc _).alloc _
  have HBR : Hid (Box (((w.alloc (.cells #[.int .i64 p, .slice A n c] 30)).alloc (.cells #[.int .i64 0, .slice none 0 0] 30)).alloc (.cells Z.toArray 2)) (w.heap.size + 1) 30 #[.int .i64 0, .slice none 0 0]) := by
    have := Box.new (w.alloc (.cells #[.int .i64 p, .slice A n c] 30)) 30 #[.int .i64 0, .slice none 0 0]
    rw [World.size_alloc] at this
    exact this.alloc _
  have HPOS : Hid (0 < (L.map (Value.int .i64)).length → (some (⟨w.heap.size + 1 + 1, 0, none⟩ : Addr)) = some ⟨w.heap.size + 1 + 1, 0, none⟩ ∧ ∃ ad, A = some ad ∧ ∀ j v, (L.map (Value.int .i64))[j]? = some v → (((w.alloc (.cells #[.int .i64 p, .slice A n c] 30)).alloc (.cells #[.int .i64 0, .slice none 0 0] 30)).alloc (.cells Z.toArray 2)).cell? (ad.add j) = some v) := by
    intro h
    refine ⟨rfl, ?_⟩
    obtain ⟨ad, rfl, _⟩ := hI 0 (by simpa using h)
    exact ⟨ad, rfl, (hI.below HB.out).news⟩
  have HS : Hid ((L.map (Value.int .i64)).length = Nat.min n n) := by unfold Hid; simp [HL.out]
  have HF : Hid (0 + (L.map (Value.int .i64)).length ≤ Z.length) := by unfold Hid; rw [hzl.out]; simp [HL.out]
  have HSP : Hid (splice Z 0 (L.map (Value.int .i64)) = L.map (Value.int .i64)) := by unfold Hid splice; rw [List.drop_of_length_le (by rw [hzl.out]; simp [HL.out])]; simp
  have HBI := Lib.hid (hI.below HB.out)
  clear hI hmc
  go_enter Try.func72, Try.ntmps72
  go_wp2_with (with_reducible refine wpList_copy_splice rfl (.tmp 8) (.tmp 10) 28 28 rfl 2 Try.underlying28 Try.sizeI (some ⟨w.heap.size + 1 + 1, 0, none⟩) A n n n c rfl rfl (w.heap.size + 1 + 1) 0 Z 2 HG.out (L.map (Value.int .i64)) HS.out HPOS.out HF.out (ints_oneCell _ _) (w.heap.size + 1 + 1) _ (Below.refl _ _) (Nat.le_refl _) ?_; intro w1 hg1 hb1; have HX1 := Lib.hid (Box.below HBX.out hb1 (by omega)); have HR1 := Lib.hid (Box.below HBR.out hb1 (by omega)); have HB1 := Lib.hid (HB.out.trans (hb1.mono (by omega))); clear hb1; obtain ⟨x0, x1, _, _⟩ := HX1.out.two; obtain ⟨r0, r1, _, _⟩ := HR1.out.two; obtain ⟨_, _, fr0, fr1⟩ := HR1.out.two)
  have hgo : Box w1 (w.heap.size + 1 + 1) 2 (L.map (Value.int .i64)).toArray := by have := hg1.out; rw [HSP.out] at this; exact this
  have hown : Own w.heap.size w1 (some ⟨w.heap.size + 1 + 1, 0, none⟩) n n L :=
    ⟨by simp [HL.out], .inr ⟨_, n, _, rfl, by omega, hgo, Nat.le_refl _, by unfold maxLen; omega, by simp [HL.out], by rw [List.take_of_length_le (by simp [HL.out])]⟩⟩
  refine bodyPost_ret (v := .agg #[.int .i64 p, .slice (some ⟨w.heap.size + 1 + 1, 0, none⟩) n n]) (by simp [results, Try.results72, go_sem, r0, r1]) rfl ⟨_, n, rfl, Nat.le_refl _, hn, ?_, ?_⟩
  · exact (hown.setBoxed HR1.out (by decide) _ _).setBoxed (HR1.out.set _ _) (by decide) _ _
  · exact (HB1.out.setCell (by simp) _).setCell (by simp) _

set_option maxHeartbeats 2000000 in
theorem afterMove_calls (A : Option Addr) (n c : Nat) (p : Int) (L : List Int) (j : Nat) (f t : Int) (w : World) (hL : L.length = n) (hn : n ≤ 1048576) (hj : j < n) (hI : Ints w A L) :
    Calls Try.prog 74 #[.agg #[.int .i64 p, .slice A n c], .agg #[.int .i64 j, .int .i64 f, .int .i64 t]] w fun e w' => ∃ A' c', e = .returned (.agg #[.int .i64 p, .slice A' n c']) ∧ Own w.heap.size w' A' n c' (L.set j t) ∧ Below w.heap.size w w' := by
  have HL : Hid (L.length = n) := hL
  have hW : ∃ W, W = (((w.alloc (.cells #[.int .i64 p, .slice A n c] 30)).alloc (.cells #[.int .i64 j, .int .i64 f, .int .i64 t] 69)).alloc (.cells #[.int .i64 0, .slice none 0 0] 30)) := ⟨_, rfl⟩
  obtain ⟨W, hW⟩ := hW
  have X0 : Hid (Box W w.heap.size 30 #[.int .i64 p, .slice A n c]) := by unfold Hid; rw [hW]; exact ((Box.new _ _ _).alloc _).alloc _
  have Y0 : Hid (Box W (w.heap.size + 1) 69 #[.int .i64 j, .int .i64 f, .int .i64 t]) := by
    unfold Hid; rw [hW]
    have := Box.new (w.alloc (.cells #[.int .i64 p, .slice A n c] 30)) 69 #[.int .i64 j, .int .i64 f, .int .i64 t]
    rw [World.size_alloc] at this
    exact this.alloc _
  have R0 : Hid (Box W (w.heap.size + 1 + 1) 30 #[.int .i64 0, .slice none 0 0]) := by
    unfold Hid; rw [hW]
    have := Box.new ((w.alloc (.cells #[.int .i64 p, .slice A n c] 30)).alloc (.cells #[.int .i64 j, .int .i64 f, .int .i64 t] 69)) 30 #[.int .i64 0, .slice none 0 0]
    simp only [World.size_alloc] at this
    exact this
  have hWs : Hid (W.heap.size = w.heap.size + 3) := by unfold Hid; rw [hW]; simp
  have HB0 : Hid (Below w.heap.size w W) := by unfold Hid; rw [hW]; exact (((Below.refl _ _).alloc (Nat.le_refl _) _).alloc (by simp) _).alloc (by simp; omega) _
  have hI0 := Lib.hid (hI.below HB0.out)
  obtain ⟨s0, s1, m0, m1, m2⟩ := cells23 X0.out Y0.out
  have HW := Lib.hid hW
  clear hW hL hI
  have hz0 : w.heap.size + 2 < W.heap.size := by rw [hWs.out]; omega
  go_enter Try.func74, Try.ntmps74
  go_wp2_with fail
  rw [← HW.out]
  refine (copyOfState_calls A n c p L _ HL.out hn hI0.out).mono ?_
  rintro e w1 ⟨A', c', rfl, hcc, hcm, hO1, hb1⟩
  have z1 : W.heap.size ≤ w1.heap.size := Below.size hb1
  have F1 := Lib.hid (Box.new w1 30 #[.int .i64 p, .slice A' n c'])
  have F2 := Lib.hid ((hO1.below ((Below.refl _ w1).alloc (Nat.le_refl _) (.cells #[.int .i64 p, .slice A' n c'] 30))).mono (B' := w.heap.size + 3) (by rw [← hWs.out]; exact Nat.le_refl _))
  have F3 := Lib.hid ((Box.below Y0.out hb1 (Box.lt Y0.out)).alloc (.cells #[.int .i64 p, .slice A' n c'] 30))
  have F4 := Lib.hid ((Box.below R0.out hb1 (Box.lt R0.out)).alloc (.cells #[.int .i64 p, .slice A' n c'] 30))
  have F5 := Lib.hid ((HB0.out.trans (hb1.mono (HB0.out.size))).alloc (Nat.le_trans HB0.out.size z1) (.cells #[.int .i64 p, .slice A' n c'] 30))
  have F6 : Hid (w.heap.size + 3 ≤ w1.heap.size) := by unfold Hid; have := hWs.out; omega
  obtain ⟨g1, rfl⟩ : ∃ g1, A' = some ⟨g1, 0, none⟩ := by
    rcases hO1.form with ⟨_, h, _⟩ | ⟨g1, h, _⟩
    · omega
    · exact ⟨g1, h⟩
  clear hb1 hO1 s0 s1 m0 m1 m2
  go_upto_region 2 with (fail)
  generalize hwz : w1.alloc (.cells #[.int .i64 p, .slice (some ⟨g1, 0, none⟩) n c'] 30) = wz at *
  clear hwz
  generalize w1.heap.size = g5 at *
  obtain ⟨q0, q1, _, _⟩ := F1.out.two
  obtain ⟨m0, m1, m2⟩ := F3.out.three
  obtain ⟨r0, r1, rf0, rf1⟩ := F4.out.two
  have hne1 : ¬ g1 = g5 := F2.out.ne_box F1.out (by decide)
  have hne2 : ¬ g5 = g1 := fun e => hne1 e.symm
  have hne3 : ¬ g1 = w.heap.size + 1 + 1 := F2.out.ne_box F4.out (by decide)
  have hne4 : ¬ w.heap.size + 1 + 1 = g1 := fun e => hne3 e.symm
  have hne5 : ¬ g5 = w.heap.size + 1 + 1 := by have := F6.out; omega
  have hne6 : ¬ w.heap.size + 1 + 1 = g5 := fun e => hne5 e.symm
  have hcell : wz.cell? ⟨g1, j, none⟩ = some (.int .i64 (L.getD j 0)) := by
    rw [World.ownsRow.cellAt F2.out j (by omega), List.getElem?_map, List.getElem?_eq_getElem (by rw [HL.out]; exact hj), List.getD_eq_getElem?_getD, List.getElem?_eq_getElem (by rw [HL.out]; exact hj)]
    rfl
  have hfz := World.ownsRow.frozenAt F2.out j
  have hj0 : (0 : Int) ≤ (j : Int) := by omega
  have hj1 : (j : Int) < (n : Int) := by omega
  go_wp2
  have st := World.ownsRow.stored F2.out j (.int .i64 t)
  have hO : Own (w.heap.size + 3) (wz.setCell ⟨g1, j, none⟩ (.int .i64 t)) (some ⟨g1, 0, none⟩) n c' (L.set j t) := by
    have := st.1
    rw [← List.map_set] at this
    exact this
  have hR : Box (wz.setCell ⟨g1, j, none⟩ (.int .i64 t)) (w.heap.size + 1 + 1) 30 #[.int .i64 0, .slice none 0 0] := F4.out.other hne4 _
  refine bodyPost_ret (v := .agg #[.int .i64 p, .slice (some ⟨g1, 0, none⟩) n c']) (by simp [results, Try.results74, go_sem, r0, r1]) rfl ⟨_, c', rfl, ?_, ?_⟩
  · exact ((hO.setBoxed hR (by decide) _ _).setBoxed (hR.set _ _) (by decide) _ _).mono (by omega)
  · have hg1 : w.heap.size ≤ g1 := by
      rcases F2.out.form with ⟨h, _⟩ | ⟨g', h, h', _⟩
      · cases h
      · injection h with h
        injection h with h
        omega
    exact ((F5.out.setCell hg1 _).setCell (by simp; omega) _).setCell (by simp; omega) _

end Go.Proofs.Ytbcgomimfgggnaa

namespace Go.Proofs.Ytbcgomimfgggnaa
open Go.RowKit
set_option maxRecDepth 100000

/-- The slice is the call's own, from block B on: its cells, of the element type e with so many cells an element, are xs. -/
def OwnG (e size : Nat) (B : Nat) (w : World) (A : Option Addr) (n c : Nat) (xs : List Value) : Prop := w.ownsRow B e size (.slice A n c) n xs

section
variable {e size B : Nat} {w w' : World} {A : Option Addr} {n c : Nat} {xs : List Value}
theorem OwnG.form (h : OwnG e size B w A n c xs) : (A = none ∧ n = 0 ∧ c = 0) ∨ ∃ g, A = some ⟨g, 0, none⟩ ∧ B ≤ g ∧ g < w.heap.size := by
  rcases h.2 with ⟨hv, hn⟩ | ⟨g, cap, cur, hv, hb, hh, _⟩
  · left
    injection hv with h1 h2 h3
    exact ⟨h1, h2, h3⟩
  · right
    injection hv with h1 h2 h3
    exact ⟨g, h1, hb, (Array.getElem?_eq_some_iff.1 hh).1⟩
theorem OwnG.kept {row : Option Nat} (h : OwnG e size B w A n c xs) (hg : w.grownBy w' row) (hne : ∀ g, A = some ⟨g, 0, none⟩ → row ≠ some g) : OwnG e size B w' A n c xs := by
  refine World.ownsRow.kept h hg ?_
  rcases h.form with ⟨rfl, rfl, rfl⟩ | ⟨g, rfl, _, _⟩
  · left; rfl
  · right; exact fun e => hne g rfl e.symm
theorem OwnG.below (h : OwnG e size B w A n c xs) (hb : Below w.heap.size w w') : OwnG e size B w' A n c xs :=
  h.kept (row := none) ⟨hb.os, hb.tape, hb.output, hb.size, fun k hk _ => hb.block k hk⟩ (fun g _ => by simp)
theorem OwnG.alloc (h : OwnG e size B w A n c xs) (o : Obj) : OwnG e size B (w.alloc o) A n c xs := h.below ((Below.refl _ _).alloc (Nat.le_refl _) _)
theorem OwnG.draws (h : OwnG e size B w A n c xs) (m : Nat) : OwnG e size B (w.drewN m) A n c xs := h
theorem OwnG.mono {B' : Nat} (h : OwnG e size B w A n c xs) (hB : B' ≤ B) : OwnG e size B' w A n c xs := by
  refine ⟨h.1, ?_⟩
  rcases h.2 with h2 | ⟨g, cap, cur, h1, h2, h3⟩
  · exact .inl h2
  · exact .inr ⟨g, cap, cur, h1, Nat.le_trans hB h2, h3⟩
theorem OwnG.ne_box {g b t : Nat} {cs : Array Value} (h : OwnG e size B w (some ⟨g, 0, none⟩) n c xs) (hb : Box w b t cs) (ht : t ≠ e) : g ≠ b := by
  rintro rfl
  rcases h.2 with ⟨hv, _⟩ | ⟨g', cap, cur, hv, _, hh, _⟩
  · simp at hv
  · injection hv with h1 h2 h3
    injection h1 with h1
    injection h1 with h1
    subst h1
    unfold Box at hb
    rw [hb] at hh
    injection hh with hh
    injection hh with _ hh _
    exact ht hh
theorem OwnG.box_ne {b t : Nat} {cs : Array Value} (h : OwnG e size B w A n c xs) (hb : Box w b t cs) (ht : t ≠ e) : some b ≠ (Value.slice A n c).ownBlock := by
  rcases h.form with ⟨rfl, rfl, rfl⟩ | ⟨g, rfl, _, _⟩
  · simp [Value.ownBlock]
  · have := h.ne_box hb ht
    simp only [Value.ownBlock, ne_eq, Option.some.injEq]
    exact fun e => this e.symm
theorem ownG_shape {v : Value} {ys : List Value} {e s : Nat} (h : w.ownsRow B e s v n ys) : ∃ A c, v = .slice A n c := by
  rcases h.2 with ⟨rfl, rfl⟩ | ⟨g, cap, cur, rfl, _⟩
  · exact ⟨_, _, rfl⟩
  · exact ⟨_, _, rfl⟩
theorem OwnG.setBox (h : OwnG e size B w A n c xs) {a : Addr} (ha : ∀ g, A = some ⟨g, 0, none⟩ → g ≠ a.block) (u : Value) : OwnG e size B (w.setCell a u) A n c xs :=
  h.kept (row := some a.block) ⟨rfl, rfl, rfl, by simp [World.setCell], fun k _ hk => Below.heap_setCell w a u k (fun e => hk (by rw [e]))⟩ (fun g hg e => ha g hg (by injection e with e; exact e.symm))
theorem OwnG.setBoxed {b t : Nat} {cs : Array Value} (h : OwnG e size B w A n c xs) (hb : Box w b t cs) (ht : t ≠ e) (i : Nat) (u : Value) : OwnG e size B (w.setCell ⟨b, i, none⟩ u) A n c xs :=
  h.setBox (fun g hg => by subst hg; exact h.ne_box hb ht) u
/-- A store below B. -/
theorem OwnG.setBelow (h : OwnG e size B w A n c xs) {a : Addr} (ha : a.block < B) (u : Value) : OwnG e size B (w.setCell a u) A n c xs :=
  h.setBox (fun g hg => by subst hg; rcases h.form with ⟨h1, _⟩ | ⟨g', h1, hB, _⟩ <;> simp at h1; omega) u
/-- What was known of boxes below B is known behind the append. -/
theorem OwnG.grown_box {w1 : World} {o : Obj} {b t : Nat} {cs : Array Value} (h : OwnG e size B w A n c xs) (hg : (w.alloc o).grownBy w1 (Value.slice A n c).ownBlock) (hb : Box w b t cs) (hne : t ≠ e) : Box w1 b t cs :=
  (hb.alloc _).grown hg (h.box_ne hb hne)
theorem OwnG.grown_below {w1 : World} {o : Obj} {B0 : Nat} (h : OwnG e size B w A n c xs) (hg : (w.alloc o).grownBy w1 (Value.slice A n c).ownBlock) (h1 : B0 ≤ B) (h2 : B0 ≤ w.heap.size) : Below B0 w w1 := by
  refine ((Below.refl B0 w).alloc h2 _).grown hg (by simp; omega) (fun k hk => ?_)
  rcases h.form with ⟨rfl, rfl, rfl⟩ | ⟨g, rfl, hB, _⟩
  · simp [Value.ownBlock] at hk
  · simp only [Value.ownBlock, Option.some.injEq] at hk
    omega
theorem OwnG.nilS (e size B : Nat) (w : World) : OwnG e size B w none 0 0 [] := World.ownsRow_nil _ _ _ _
theorem OwnG.emptyAt {g : Nat} (hb : Box w g e #[]) (hB : B ≤ g) : OwnG e size B w (some ⟨g, 0, none⟩) 0 0 [] :=
  ⟨by simp, .inr ⟨g, 0, #[], rfl, hB, hb, Nat.le_refl _, by unfold maxLen; omega, by simp, by simp⟩⟩
theorem OwnG.len (h : OwnG e size B w A n c xs) : xs.length = n * size := h.1
theorem OwnG.cap (h : OwnG e size B w A n c xs) : n ≤ c ∧ c ≤ maxLen := by
  rcases h.2 with ⟨hv, hn⟩ | ⟨g, cap, cur, hv, hb, hh, h1, h2, _⟩
  · injection hv with e1 e2 e3; subst e3; exact ⟨by omega, by unfold maxLen; omega⟩
  · injection hv with e1 e2 e3; subst e3; exact ⟨h1, h2⟩
/-- Each cell. -/
theorem OwnG.cell (h : OwnG e size B w A n c xs) (k : Nat) (hk : k < n * size) : ∃ g, A = some ⟨g, 0, none⟩ ∧ B ≤ g ∧ g < w.heap.size ∧ w.cell? ⟨g, k, none⟩ = xs[k]? := by
  rcases h.2 with ⟨hv, hn⟩ | ⟨g, cap, cur, hv, hb, hh, hcap, _, hs, hx⟩
  · subst hn; simp at hk
  · injection hv with e1 e2 e3
    subst e1
    refine ⟨_, rfl, hb, (Array.getElem?_eq_some_iff.1 hh).1, ?_⟩
    rw [← hx, List.getElem?_take, if_pos hk]
    simp [World.cell?, hh]
theorem OwnG.frozen (h : OwnG e size B w A n c xs) {g : Nat} (hg : A = some ⟨g, 0, none⟩) (k : Nat) : w.frozen? ⟨g, k, none⟩ = false := by
  rcases h.2 with ⟨hv, hn⟩ | ⟨g', cap, cur, hv, hb, hh, hcap, _, hs, hx⟩
  · injection hv with e1 e2 e3; rw [e1] at hg; cases hg
  · injection hv with e1 e2 e3
    rw [e1] at hg
    injection hg with hg
    injection hg with hg
    subst hg
    simp [World.frozen?, hh]
end

end Go.Proofs.Ytbcgomimfgggnaa

namespace Go.Proofs.Ytbcgomimfgggnaa
open Go.RowKit
set_option linter.unusedVariables false
set_option maxRecDepth 100000

theorem Try.infoM : (Try.prog.info? 69).map (fun i => (i.zero, i.size, i.bytes)) = some (some (.agg #[.int .i64 0, .int .i64 0, .int .i64 0]), 3, 24) := by kernel_rfl

/-- The cells of a list of moves. -/
def mvF (M : List Mv) : List Int := M.flatMap (fun m => [m.1, m.2.1, m.2.2])
def mvCells (M : List Mv) : List Value := (mvF M).map (Value.int .i64)
theorem mvF_len (M : List Mv) : (mvF M).length = M.length * 3 := by
  induction M with
  | nil => rfl
  | cons m M ih => simp only [mvF, List.flatMap_cons, List.length_append, List.length_cons, List.length_nil] at ih ⊢; omega
theorem mvF_cons (m : Mv) (M : List Mv) : mvF (m :: M) = m.1 :: m.2.1 :: m.2.2 :: mvF M := rfl
theorem mvCells_snoc (M : List Mv) (m : Mv) : mvCells (M ++ [m]) = mvCells M ++ [.int .i64 m.1, .int .i64 m.2.1, .int .i64 m.2.2] := by simp [mvCells, mvF]
theorem mvCells_len (M : List Mv) : (mvCells M).length = M.length * 3 := by unfold mvCells; rw [List.length_map, mvF_len]
theorem mvF_at : ∀ (M : List Mv) (k : Nat), k < M.length → (mvF M)[k * 3]? = some (M[k]?.getD (0, 0, 0)).1 ∧ (mvF M)[k * 3 + 1]? = some (M[k]?.getD (0, 0, 0)).2.1 ∧ (mvF M)[k * 3 + 2]? = some (M[k]?.getD (0, 0, 0)).2.2
  | [], k, h => by simp at h
  | m :: M, 0, _ => by simp [mvF_cons]
  | m :: M, k + 1, h => by
    have ih := mvF_at M k (by simpa using h)
    rw [mvF_cons]
    refine ⟨?_, ?_, ?_⟩
    · rw [show (k + 1) * 3 = k * 3 + 3 by omega]; simpa using ih.1
    · rw [show (k + 1) * 3 + 1 = k * 3 + 1 + 3 by omega]; simpa using ih.2.1
    · rw [show (k + 1) * 3 + 2 = k * 3 + 2 + 3 by omega]; simpa using ih.2.2
theorem mvF_inj : ∀ (M M' : List Mv), mvF M = mvF M' → M = M'
  | [], [], _ => rfl
  | [], m :: M, h => by rw [mvF_cons] at h; cases h
  | m :: M, [], h => by rw [mvF_cons] at h; cases h
  | (a, b, c) :: M, (a', b', c') :: M', h => by
    rw [mvF_cons, mvF_cons] at h
    injection h with h1 h
    injection h with h2 h
    injection h with h3 h
    simp only at h1 h2 h3
    rw [h1, h2, h3, mvF_inj M M' h]
/-- A list of moves that is read. -/
def Mvs (w : World) (A : Option Addr) (M : List Mv) : Prop :=
  ∀ k, k < M.length → ∃ g, A = some ⟨g, 0, none⟩ ∧ g < w.heap.size ∧ w.cell? ⟨g, k * 3, none⟩ = some (.int .i64 (M[k]?.getD (0, 0, 0)).1) ∧ w.cell? ⟨g, k * 3 + 1, none⟩ = some (.int .i64 (M[k]?.getD (0, 0, 0)).2.1) ∧ w.cell? ⟨g, k * 3 + 2, none⟩ = some (.int .i64 (M[k]?.getD (0, 0, 0)).2.2)
theorem Mvs.below {w w' : World} {A : Option Addr} {M : List Mv} (h : Mvs w A M) (hb : Below w.heap.size w w') : Mvs w' A M := by
  intro k hk
  obtain ⟨g, rfl, hg, h1, h2, h3⟩ := h k hk
  exact ⟨g, rfl, Nat.lt_of_lt_of_le hg hb.size, (hb.cell (p := ⟨g, k * 3, none⟩) hg).trans h1, (hb.cell (p := ⟨g, k * 3 + 1, none⟩) hg).trans h2, (hb.cell (p := ⟨g, k * 3 + 2, none⟩) hg).trans h3⟩
/-- A list of moves in the call's own memory. -/
abbrev OwnM (B : Nat) (w : World) (A : Option Addr) (n c : Nat) (M : List Mv) : Prop := OwnG 69 3 B w A n c (mvCells M)
theorem OwnM.len {B : Nat} {w : World} {A : Option Addr} {n c : Nat} {M : List Mv} (h : OwnM B w A n c M) : M.length = n := by
  have := OwnG.len h
  rw [mvCells_len] at this
  omega
theorem OwnM.mvs {B : Nat} {w : World} {A : Option Addr} {n c : Nat} {M : List Mv} (h : OwnM B w A n c M) : Mvs w A M := by
  intro k hk
  have hl := OwnM.len h
  obtain ⟨e1, e2, e3⟩ := mvF_at M k hk
  obtain ⟨g, hA, _, hg, c1⟩ := OwnG.cell h (k * 3) (by omega)
  obtain ⟨g2, hA2, _, _, c2⟩ := OwnG.cell h (k * 3 + 1) (by omega)
  obtain ⟨g3, hA3, _, _, c3⟩ := OwnG.cell h (k * 3 + 2) (by omega)
  subst hA
  cases hA2
  cases hA3
  exact ⟨g, rfl, hg, by rw [c1]; simp [mvCells, e1], by rw [c2]; simp [mvCells, e2], by rw [c3]; simp [mvCells, e3]⟩

/-- Two slices of which the one came later (of whatever element types). -/
theorem ows_form {B e s n c : Nat} {w : World} {A : Option Addr} {xs : List Value} (h : w.ownsRow B e s (.slice A n c) n xs) : (A = none ∧ n = 0 ∧ c = 0) ∨ ∃ g, A = some ⟨g, 0, none⟩ ∧ B ≤ g ∧ g < w.heap.size := OwnG.form h
theorem ows_bk {B e s n c : Nat} {w : World} {A : Option Addr} {xs : List Value} (h : w.ownsRow B e s (.slice A n c) n xs) : ∀ k, (Value.slice A n c).ownBlock = some k → B ≤ k := by
  intro k hk
  rcases ows_form h with ⟨rfl, rfl, rfl⟩ | ⟨g, rfl, hB, _⟩
  · simp [Value.ownBlock] at hk
  · simp only [Value.ownBlock, Option.some.injEq] at hk
    omega
theorem ows_apart {B B' e s e' s' n c n' c' : Nat} {w w' : World} {A A' : Option Addr} {xs xs' : List Value} (h : w.ownsRow B e s (.slice A n c) n xs) (h' : w'.ownsRow B' e' s' (.slice A' n' c') n' xs') (hB : w.heap.size ≤ B') :
    ∀ g, A = some ⟨g, 0, none⟩ → (Value.slice A' n' c').ownBlock ≠ some g := by
  intro g hg e
  subst hg
  rcases ows_form h with ⟨h1, _⟩ | ⟨g1, h1, _, hlt⟩
  · cases h1
  · injection h1 with h1
    injection h1 with h1
    subst h1
    have := ows_bk h' _ e
    omega
theorem ows_apart_back {B B' e s e' s' n c n' c' : Nat} {w w' : World} {A A' : Option Addr} {xs xs' : List Value} (h : w.ownsRow B e s (.slice A n c) n xs) (h' : w'.ownsRow B' e' s' (.slice A' n' c') n' xs') (hB : w.heap.size ≤ B') :
    ∀ g, A' = some ⟨g, 0, none⟩ → (Value.slice A n c).ownBlock ≠ some g := by
  intro g hg e
  subst hg
  rcases ows_form h' with ⟨h1, _⟩ | ⟨g1, h1, hB1, _⟩
  · cases h1
  · injection h1 with h1
    injection h1 with h1
    subst h1
    rcases ows_form h with ⟨rfl, rfl, rfl⟩ | ⟨g2, rfl, _, hlt⟩
    · simp [Value.ownBlock] at e
    · simp only [Value.ownBlock, Option.some.injEq] at e
      omega

/-- Whether two moves are equal. -/
def mvEqB (m m' : Mv) : Bool := decide (m.1 = m'.1 ∧ m.2.1 = m'.2.1 ∧ m.2.2 = m'.2.2)
theorem ret_mvEq {a b d a' b' d' : Int} {x : Bool} (h : decide (a = a' ∧ b = b' ∧ d = d') = x) : Ending.returned (.bool x) = .returned (.bool (mvEqB (a, b, d) (a', b', d'))) := by rw [← h]; rfl

set_option maxHeartbeats 400000 in
theorem eqMove_calls (a b d a' b' d' : Int) (w : World) :
    Calls Try.prog 55 #[.agg #[.int .i64 a, .int .i64 b, .int .i64 d], .agg #[.int .i64 a', .int .i64 b', .int .i64 d']] w fun e w' => e = .returned (.bool (mvEqB (a, b, d) (a', b', d'))) ∧ Below w.heap.size w w' := by
  have hb0 : Below w.heap.size w ((w.alloc (.cells #[.int .i64 a, .int .i64 b, .int .i64 d] 69)).alloc (.cells #[.int .i64 a', .int .i64 b', .int .i64 d'] 69)) := ((Below.refl _ _).alloc (Nat.le_refl _) _).alloc (by simp) _
  have HB := Lib.hid hb0
  clear hb0
  by_cases h1 : a = a'
  · have e1 : (a != a') = false := by simpa using h1
    by_cases h2 : b = b'
    · have e2 : (b != b') = false := by simpa using h2
      by_cases h3 : d = d'
      · have e3 : (d != d') = false := by simpa using h3
        have H1 := Lib.hid h1
        have H2 := Lib.hid h2
        have H3 := Lib.hid h3
        clear h1 h2 h3
        go_enter Try.func55, Try.ntmps55
        go_wp2
        go_ret
        exact ⟨ret_mvEq (by rw [decide_eq_true_iff]; exact ⟨H1.out, H2.out, H3.out⟩), HB.out⟩
      · have e3 : (d != d') = true := by simpa using h3
        have H3 := Lib.hid h3
        clear h1 h2 h3
        go_enter Try.func55, Try.ntmps55
        go_wp2
        go_ret
        exact ⟨ret_mvEq (by rw [decide_eq_false_iff_not]; rintro ⟨_, _, h⟩; exact H3.out h), HB.out⟩
    · have e2 : (b != b') = true := by simpa using h2
      have H2 := Lib.hid h2
      clear h1 h2
      go_enter Try.func55, Try.ntmps55
      go_wp2
      go_ret
      exact ⟨ret_mvEq (by rw [decide_eq_false_iff_not]; rintro ⟨_, h, _⟩; exact H2.out h), HB.out⟩
  · have e1 : (a != a') = true := by simpa using h1
    have H1 := Lib.hid h1
    clear h1
    go_enter Try.func55, Try.ntmps55
    go_wp2
    go_ret
    exact ⟨ret_mvEq (by rw [decide_eq_false_iff_not]; rintro ⟨h, _, _⟩; exact H1.out h), HB.out⟩

theorem mvs_ext {M M' : List Mv} {n : Nat} (h : M.length = n) (h' : M'.length = n) (hs : ∀ j, j < n → M[j]?.getD (0, 0, 0) = M'[j]?.getD (0, 0, 0)) : M = M' := by
  apply List.ext_getElem (by omega)
  intro i h1 h2
  have := hs i (by omega)
  rwa [List.getElem?_eq_getElem h1, List.getElem?_eq_getElem h2] at this
theorem mv_eq {x y : Mv} (h : x.1 = y.1 ∧ x.2.1 = y.2.1 ∧ x.2.2 = y.2.2) : x = y := by
  obtain ⟨a, b, c⟩ := x
  obtain ⟨a', b', c'⟩ := y
  simp only at h
  rw [h.1, h.2.1, h.2.2]

set_option maxHeartbeats 1000000 in
theorem eqMoveS_calls (A A' : Option Addr) (n c n' c' : Nat) (M M' : List Mv) (w : World) (hL : M.length = n) (hL' : M'.length = n') (hn : n ≤ 1048576) (hn' : n' ≤ 1048576) (hI : Mvs w A M) (hI' : Mvs w A' M') :
    Calls Try.prog 29 #[.slice A n c, .slice A' n' c'] w fun e w' => e = .returned (.bool (decide (M = M'))) ∧ Below w.heap.size w w' := by
  have HL : Hid (M.length = n) := hL
  have HL' : Hid (M'.length = n') := hL'
  clear hL hL'
  by_cases hne : n = n'
  · subst hne
    go_enter Try.func29, Try.ntmps29
    go_wp2
    go_loopw [5] (fun i wr => ∃ k : Nat, k ≤ n ∧ i = .int .i64 k ∧ (∀ j, j < k → M[j]?.getD (0, 0, 0) = M'[j]?.getD (0, 0, 0)) ∧ Below w.heap.size w wr) (fun i _ => n - (intOf i).toNat)
    case atStart => exact ⟨0, Nat.zero_le _, rfl, fun j hj => absurd hj (by omega), Below.refl _ _⟩
    case round =>
      obtain ⟨k, hk, rfl, hsame, hb⟩ := hrel
      have HS := Lib.hid hsame
      clear hsame
      by_cases hlt : k < n
      · obtain ⟨g, rfl, hg, c0, c1, c2⟩ := (hI.below hb) k (by rw [HL.out]; exact hlt)
        obtain ⟨g', rfl, hg', d0, d1, d2⟩ := (hI'.below hb) k (by rw [HL'.out]; exact hlt)
        have HB := Lib.hid hb
        clear hb
        generalize hm : M[k]?.getD (0, 0, 0) = m at *
        generalize hm' : M'[k]?.getD (0, 0, 0) = m' at *
        have HM := Lib.hid hm
        have HM' := Lib.hid hm'
        clear hm hm'
        go_wp2_with fail
        go_still_tail 8, (by kernel_rfl)
        change wpList _ _ _ _ _ wr.drew
        go_wp2_with fail
        refine (eqMove_calls m.1 m.2.1 m.2.2 m'.1 m'.2.1 m'.2.2 _).mono ?_
        rintro e w1 ⟨rfl, hb1⟩
        have HB1 := Lib.hid (HB.out.drew.trans (hb1.mono HB.out.size))
        clear hb1
        go_wp2
        · have ht : (!mvEqB (m.1, m.2.1, m.2.2) (m'.1, m'.2.1, m'.2.2)) = true := by assumption
          go_ret
          refine ⟨ret_bool ?_, HB1.out⟩
          symm
          rw [decide_eq_false_iff_not]
          rintro rfl
          have := HM.out.symm.trans HM'.out
          subst this
          simp [mvEqB] at ht
        · have ht : (!mvEqB (m.1, m.2.1, m.2.2) (m'.1, m'.2.1, m'.2.2)) = false := by assumption
          have hmm := Lib.hid (mv_eq (x := m) (y := m') (by simpa [mvEqB] using ht))
          go_roundw
          case rel => exact ⟨k + 1, by omega, by go_num, fun j hj => by
            by_cases hjk : j = k
            · subst hjk; rw [HM.out, HM'.out]; exact hmm.out
            · exact HS.out j (by omega), HB1.out⟩
          case measure => simp [intOf]; omega
      · obtain rfl : k = n := by omega
        go_wp2
        go_ret
        exact ⟨ret_bool (by
          symm
          rw [decide_eq_true_iff]
          exact mvs_ext HL.out HL'.out HS.out), hb⟩
  · have hd : ((n : Int) != (n' : Int)) = true := by simp; omega
    go_enter Try.func29, Try.ntmps29
    go_wp2
    go_ret
    exact ⟨ret_bool (by symm; rw [decide_eq_false_iff_not]; rintro rfl; exact hne (HL.out.symm.trans HL'.out)), Below.refl _ _⟩

set_option maxHeartbeats 1000000 in
theorem markMoveS_calls (B : Nat) (A : Option Addr) (n c : Nat) (L : List Int) (k : Int) (w : World) (hO : OwnG 69 3 B w A n c (L.map (Value.int .i64))) (hn : n ≤ 1048576) (hk0 : 0 ≤ k) (hk1 : k ≤ 1000000000000) :
    Calls Try.prog 32 #[.slice A n c, .int .i64 k] w fun e w' => e = .returned (.int .i64 (k + ((n * 3 : Nat) : Int))) ∧ OwnG 69 3 B w' A n c ((iotaL k (n * 3)).map (Value.int .i64)) ∧ w.grownBy w' (Value.slice A n c).ownBlock := by
  have hlen : L.length = n * 3 := by have := hO.len; simpa using this
  have HL := Lib.hid hlen
  clear hlen
  rcases hO.form with ⟨rfl, rfl, rfl⟩ | ⟨g, rfl, hB, hg⟩
  · go_enter Try.func32, Try.ntmps32
    go_wp2
    refine wp_loop_rounds 1 ?_
    rw [rounds_succ]
    go_wp2
    go_ret
    have e : L = [] := List.eq_nil_of_length_eq_zero HL.out
    subst e
    exact ⟨ret_int (by omega), hO, grown_refl _ _⟩
  · have HO := Lib.hid hO
    clear hO
    go_enter Try.func32, Try.ntmps32
    go_wp2
    go_loopw [1, 5] (fun m i wr => ∃ j : Nat, j ≤ n ∧ i = .int .i64 j ∧ m = .int .i64 (k + ((j * 3 : Nat) : Int)) ∧ OwnG 69 3 B wr (some ⟨g, 0, none⟩) n c ((mixL k L (j * 3)).map (Value.int .i64)) ∧ w.grownBy wr (some g)) (fun _ i _ => n - (intOf i).toNat)
    case atStart => exact ⟨0, Nat.zero_le _, rfl, by simp, by rw [Nat.zero_mul, mixL_zero]; exact HO.out, grown_refl _ _⟩
    case round =>
      obtain ⟨j, hj, rfl, rfl, hown, hgr⟩ := hrel
      by_cases hlt : j < n
      · have hcell : ∀ i, i < n * 3 → ∃ u, wr.cell? ⟨g, i, none⟩ = some u := fun i hi => ⟨_, by rw [World.ownsRow.cellAt hown i hi, List.getElem?_eq_getElem (by simp [mixL_len _ _ _ (show j * 3 ≤ L.length by rw [HL.out]; omega), HL.out]; exact hi)]⟩
        obtain ⟨u0, h0⟩ := hcell (j * 3) (by omega)
        obtain ⟨u1, h1⟩ := hcell (j * 3 + 1) (by omega)
        obtain ⟨u2, h2⟩ := hcell (j * 3 + 2) (by omega)
        have f0 := World.ownsRow.frozenAt hown (j * 3)
        have f1 := World.ownsRow.frozenAt hown (j * 3 + 1)
        have f2 := World.ownsRow.frozenAt hown (j * 3 + 2)
        have HOW := Lib.hid hown
        clear hown hcell
        go_wp2
        go_roundw
        case rel =>
          obtain ⟨s1, t1⟩ := World.ownsRow.stored HOW.out (j * 3) (.int .i64 (k + ((j * 3 : Nat) : Int)))
          rw [mixL_step k L (by rw [HL.out]; omega)] at s1
          obtain ⟨s2, t2⟩ := World.ownsRow.stored s1 (j * 3 + 1) (.int .i64 (k + ((j * 3 + 1 : Nat) : Int)))
          rw [mixL_step k L (by rw [HL.out]; omega)] at s2
          obtain ⟨s3, t3⟩ := World.ownsRow.stored s2 (j * 3 + 1 + 1) (.int .i64 (k + ((j * 3 + 1 + 1 : Nat) : Int)))
          rw [mixL_step k L (by rw [HL.out]; omega)] at s3
          have e1 : k + ((j * 3 : Nat) : Int) = k + (j : Int) * 3 := by omega
          have e2 : k + ((j * 3 + 1 : Nat) : Int) = k + (j : Int) * 3 + 1 := by omega
          have e3 : k + ((j * 3 + 1 + 1 : Nat) : Int) = k + (j : Int) * 3 + 1 + 1 := by omega
          rw [e1, e2, e3] at s3 t3
          rw [e1, e2] at t2
          rw [e1] at t1
          exact ⟨j + 1, by omega, by go_num, by congr 1; omega, by rw [show (j + 1) * 3 = j * 3 + 1 + 1 + 1 by omega]; exact s3, grown_trans (grown_trans (grown_trans hgr t1) t2) t3⟩
        case measure => simp [intOf]; omega
      · obtain rfl : j = n := by omega
        go_wp2
        go_ret
        refine ⟨rfl, ?_, hgr⟩
        have := mixL_all k L
        rw [HL.out] at this
        rwa [this] at hown

set_option maxHeartbeats 1000000 in
theorem heldMoveS_calls (B : Nat) (A : Option Addr) (n c : Nat) (k : Int) (w : World) (hO : OwnG 69 3 B w A n c ((iotaL k (n * 3)).map (Value.int .i64))) (hn : n ≤ 1048576) (hk0 : 0 ≤ k) (hk1 : k ≤ 1000000000000) :
    Calls Try.prog 33 #[.slice A n c, .int .i64 k] w fun e w' => e = .returned (.int .i64 (k + ((n * 3 : Nat) : Int))) ∧ Below w.heap.size w w' := by
  have HO := Lib.hid hO
  clear hO
  go_enter Try.func33, Try.ntmps33
  go_wp2
  go_loopw [1, 5] (fun m i wr => ∃ j : Nat, j ≤ n ∧ i = .int .i64 j ∧ m = .int .i64 (k + ((j * 3 : Nat) : Int)) ∧ Below w.heap.size w wr) (fun _ i _ => n - (intOf i).toNat)
  case atStart => exact ⟨0, Nat.zero_le _, rfl, by simp, Below.refl _ _⟩
  case round =>
    obtain ⟨j, hj, rfl, rfl, hb⟩ := hrel
    by_cases hlt : j < n
    · have HOW := HO.out.below hb
      obtain ⟨g, rfl, _, hg, h0⟩ := HOW.cell (j * 3) (by omega)
      obtain ⟨g1, hg1, _, _, h1⟩ := HOW.cell (j * 3 + 1) (by omega)
      obtain ⟨g2, hg2, _, _, h2⟩ := HOW.cell (j * 3 + 2) (by omega)
      cases hg1
      cases hg2
      have hat : ∀ i, i < n * 3 → ((iotaL k (n * 3)).map (Value.int .i64))[i]? = some (.int .i64 (k + i)) := fun i hi => by simp [iotaL, hi]
      rw [hat _ (by omega)] at h0 h1 h2
      have e1 : k + ((j * 3 : Nat) : Int) = k + (j : Int) * 3 := by omega
      have e2 : k + ((j * 3 + 1 : Nat) : Int) = k + (j : Int) * 3 + 1 := by omega
      have e3 : k + ((j * 3 + 2 : Nat) : Int) = k + (j : Int) * 3 + 1 + 1 := by omega
      rw [e1] at h0
      rw [e2] at h1
      rw [e3] at h2
      rw [e1]
      have q1 : (k + (j : Int) * 3 != k + (j : Int) * 3) = false := by simp
      have q2 : (k + (j : Int) * 3 + 1 != k + (j : Int) * 3 + 1) = false := by simp
      have q3 : (k + (j : Int) * 3 + 1 + 1 != k + (j : Int) * 3 + 1 + 1) = false := by simp
      have HB := Lib.hid hb
      clear HOW hat hb e1 e2 e3
      go_wp2
      go_roundw
      case rel => exact ⟨j + 1, by omega, by go_num, by congr 1; omega, HB.out⟩
      case measure => simp [intOf]; omega
    · obtain rfl : j = n := by omega
      go_wp2
      go_ret
      exact ⟨rfl, hb⟩

/-- A list of moves and a code are the answer; the list lies in the call's own memory. -/
def RetMvs (w : World) (n : Nat) (M : List Mv) (E : Int) (e : Ending) (w' : World) : Prop :=
  ∃ A c, e = .returned (.tuple #[.slice A n c, .int .i64 E]) ∧ OwnM w.heap.size w' A n c M ∧ Below w.heap.size w w'
theorem retMvs_zero {w w' : World} {e : Ending} {E : Int} (he : e = .returned (.tuple #[.slice none 0 0, .int .i64 E])) (hb : Below w.heap.size w w') : RetMvs w ([] : List Mv).length [] E e w' :=
  ⟨none, 0, he, OwnG.nilS _ _ _ _, hb⟩

end Go.Proofs.Ytbcgomimfgggnaa

namespace Go.Proofs.Ytbcgomimfgggnaa
open Go.RowKit
set_option linter.unusedVariables false
set_option maxRecDepth 100000

/-- The length that a slice names. -/
def lnW : Value → Nat
  | .slice _ n _ => n
  | _ => 0
theorem OwnG.drewW {e size B n c : Nat} {w : World} {A : Option Addr} {xs : List Value} (h : OwnG e size B w A n c xs) : OwnG e size B w.drew A n c xs := h
theorem OwnG.otherW {e e' size size' B B' : Nat} {w w1 : World} {o : Obj} {A A' : Option Addr} {n c n' c' : Nat} {xs xs' : List Value} (h : OwnG e size B w A n c xs) (h' : OwnG e' size' B' w A' n' c' xs') (hg : (w.alloc o).grownBy w1 (Value.slice A' n' c').ownBlock) (ht : e ≠ e') : OwnG e size B w1 A n c xs := by
  refine (h.alloc o).kept hg ?_
  rintro g rfl hr
  rcases h'.form with ⟨rfl, rfl, rfl⟩ | ⟨g', rfl, _, _⟩
  · simp [Value.ownBlock] at hr
  · simp only [Value.ownBlock, Option.some.injEq] at hr
    subst hr
    rcases h.2 with ⟨hv, _⟩ | ⟨g1, cap, cur, hv, _, hh, _⟩
    · simp at hv
    · injection hv with h1
      injection h1 with h1
      injection h1 with h1
      subst h1
      rcases h'.2 with ⟨hv2, _⟩ | ⟨g2, cap2, cur2, hv2, _, hh2, _⟩
      · simp at hv2
      · injection hv2 with h1
        injection h1 with h1
        injection h1 with h1
        subst h1
        rw [hh] at hh2
        injection hh2 with hh2
        injection hh2 with _ h3
        exact ht h3
theorem grown_undrewW {w w' : World} {r : Option Nat} (h : w.drew.grownBy w' r) : w.grownBy w' r := ⟨h.os, h.tape, h.output, h.size, h.block⟩
theorem own_of_row {w : World} {g : Nat} {L : List Int} {B n : Nat} (h : Row w g 2 L) (hB : B ≤ g) (hL : L.length = n) (hn : n ≤ 8) : OwnG 2 1 B w (some ⟨g, 0, none⟩) n n (L.map (Value.int .i64)) := by
  subst hL
  exact Row.own h hB (by omega)
theorem intsW {B : Nat} {w : World} {A : Option Addr} {n c : Nat} {L : List Int} (h : OwnG 2 1 B w A n c (L.map (Value.int .i64))) : Ints w A L := Own.ints (B := B) (n := n) (c := c) h

theorem neW {e e' size size' B B' n c n' c' g g' : Nat} {w : World} {xs xs' : List Value} (h : OwnG e size B w (some ⟨g, 0, none⟩) n c xs) (h' : OwnG e' size' B' w (some ⟨g', 0, none⟩) n' c' xs') (ht : e ≠ e') : g ≠ g' := by
  rintro rfl
  rcases h.2 with ⟨hv, _⟩ | ⟨g1, cap, cur, hv, _, hh, _⟩
  · simp at hv
  · injection hv with h1
    injection h1 with h1
    injection h1 with h1
    subst h1
    rcases h'.2 with ⟨hv2, _⟩ | ⟨g2, cap2, cur2, hv2, _, hh2, _⟩
    · simp at hv2
    · injection hv2 with h1
      injection h1 with h1
      injection h1 with h1
      subst h1
      rw [hh] at hh2
      injection hh2 with hh2
      injection hh2 with _ h3
      exact ht h3

theorem ownAtW {B : Nat} {w : World} {A : Option Addr} {n c : Nat} {L : List Int} (h : OwnG 2 1 B w A n c (L.map (Value.int .i64))) (hL : L.length = n) {k : Nat} (hk : k < n) : ∃ g, A = some ⟨g, 0, none⟩ ∧ B ≤ g ∧ g < w.heap.size ∧ w.cell? ⟨g, k, none⟩ = some (.int .i64 (L[k]?.getD 0)) := by
  obtain ⟨g, h1, h2, h3, h4⟩ := OwnG.cell h k (by omega)
  refine ⟨g, h1, h2, h3, ?_⟩
  rw [h4, List.getElem?_map, List.getElem?_eq_getElem (by omega)]
  rfl

set_option maxHeartbeats 4000000 in
theorem l02Way_calls (A : Option Addr) (n c : Nat) (L : List Int) (a : Int) (w : World) (hL : L.length = n) (hn : n ≤ 8) (hA : A = none → c = 0) (hI : Ints w A L) (hp : pegsOk L) (ha : 0 ≤ a ∧ a ≤ 2) :
    Calls Try.prog 50 #[.slice A n c, .int .i64 a] w fun e w' => ∃ A' c', e = .returned (.slice A' (wayL L a).length c') ∧ OwnM w.heap.size w' A' (wayL L a).length c' (wayL L a) ∧ Below w.heap.size w w' := by
  obtain ⟨i0, hi, hz0, hz1, hz2⟩ := info_parts Try.infoM
  have HL := Lib.hid hL
  have HP := Lib.hid hp
  have HWL := Lib.hid (show (wayL L a).length ≤ 255 from wayL_bd (by omega))
  clear hL hp
  go_enter Try.func50, Try.ntmps50
  go_wp2_with fail
  refine (l01Own_calls A n c L _ HL.out (by omega) hA hI).mono ?_
  rintro e w1 ⟨An, cn, rfl, hO, hb⟩
  have HO0 := Lib.hid (show OwnG 2 1 w.heap.size w1 An n cn (L.map (Value.int .i64)) from hO)
  have HB0 := Lib.hid hb
  have hs1 := hb.size
  clear hO hb hI
  go_wp2_with fail
  go_loopw [6, 7, 8] (fun o _ _ wr => ∃ (Lc : List Int) (M : List Mv) (A' : Option Addr) (q c' : Nat), o = .slice A' q c' ∧ Hid (wayL L a = M ++ wayL Lc a) ∧ Hid (Lc.length = n) ∧ Hid (pegsOk Lc) ∧ OwnM w.heap.size wr A' q c' M ∧ OwnG 2 1 w.heap.size wr An n cn (Lc.map (Value.int .i64)) ∧ Below w.heap.size w wr) (fun o _ _ _ => 255 - lnW o)
  case atStart =>
    have e2 := Box.new w1 69 #[]
    exact ⟨L, [], _, _, _, rfl, Lib.hid rfl, HL, HP, OwnG.emptyAt e2 hs1, OwnG.alloc HO0.out _, HB0.out.alloc hs1 _⟩
  case round =>
    obtain ⟨Lc, M, A', q, c', rfl, HW, HLc, HPc, hM, hN, hb⟩ := hrel
    have HM := Lib.hid hM
    have HN := Lib.hid hN
    have HB := Lib.hid hb
    have hsr := hb.size
    clear hM hN hb HO0 HB0
    go_wp2_with fail
    refine (l02Goals_calls An n cn Lc a _ HLc.out hn (intsW HN.out) HPc.out ha).mono ?_
    rintro e w2 ⟨g, rfl, hg, hrow, hb2⟩
    have HG := Lib.hid (own_of_row (B := w.heap.size) hrow (by omega) (by rw [goalsL_len]; exact HLc.out) hn)
    have HM2 := Lib.hid (OwnG.below HM.out hb2)
    have HN2 := Lib.hid (OwnG.below HN.out hb2)
    have HB2 := Lib.hid (HB.out.trans (hb2.mono hsr))
    have hs2 := HB2.out.size
    have HD := Lib.hid (show ∃ G, goalsL Lc a = G ∧ True from ⟨_, rfl, trivial⟩)
    clear hg hrow hb2 HM HN HB
    go_wp2
    go_loopw [8] (fun d wr' => ∃ j : Nat, j ≤ n ∧ d = .int .i64 j ∧ Hid (∀ i, i < j → Lc[i]?.getD 0 = (goalsL Lc a)[i]?.getD 0) ∧ ∃ m, wr' = w2.drewN m) (fun d _ => n - (intOf d).toNat)
    case atStart => exact ⟨0, Nat.zero_le _, rfl, Lib.hid (fun i hi => absurd hi (by omega)), 0, rfl⟩
    case round =>
      obtain ⟨j, hj, rfl, HS, m, rfl⟩ := hrel
      by_cases hlt : j < n
      · obtain ⟨gn, rfl, hBn, hgnl, hcn⟩ := ownAtW HN2.out HLc.out hlt
        obtain ⟨_, hag, hBg, hgl, hcg⟩ := ownAtW HG.out (by rw [goalsL_len]; exact HLc.out) hlt
        injection hag with hag
        injection hag with hag
        subst hag
        have hk0 : (0 : Int) ≤ (j : Int) := by omega
        have hk1 : (j : Int) < (n : Int) := by omega
        by_cases hne : Lc[j]?.getD 0 = (goalsL Lc a)[j]?.getD 0
        · have ht : (Lc[j]?.getD 0 == (goalsL Lc a)[j]?.getD 0) = true := by simpa using hne
          have HS2 := Lib.hid (show ∀ i, i < j + 1 → Lc[i]?.getD 0 = (goalsL Lc a)[i]?.getD 0 from fun i hi => by
            by_cases h : i = j
            · rw [h]; exact hne
            · exact HS.out i (by omega))
          clear hne
          go_wp2_with fail
          go_quiet (fail)
          go_wp2
          go_roundw
          case rel => exact ⟨j + 1, by omega, by go_num, HS2, by first | exact ⟨_, rfl⟩ | exact ⟨_, World.drewN_drewN _ _ _⟩⟩
          case measure => simp [intOf]; omega
        · have ht : (Lc[j]?.getD 0 == (goalsL Lc a)[j]?.getD 0) = false := by simpa using hne
          have HF := Lib.hid (fdW_is Lc a (by rw [HLc.out]; exact hlt) HS.out hne)
          clear hne
          go_wp2_with fail
          go_quiet (fail)
          go_wp2
          generalize hWW : w2.drewN _ = W
          have HMW := Lib.hid (show OwnM w.heap.size W A' q c' M by rw [← hWW]; exact HM2.out)
          have HNW := Lib.hid (show OwnG 2 1 w.heap.size W (some ⟨gn, 0, none⟩) n cn (Lc.map (Value.int .i64)) by rw [← hWW]; exact HN2.out)
          have HGW := Lib.hid (show OwnG 2 1 w.heap.size W (some ⟨g, 0, none⟩) n n ((goalsL Lc a).map (Value.int .i64)) by rw [← hWW]; exact HG.out)
          have HBW := Lib.hid (show Below w.heap.size w W by rw [← hWW]; exact belowDraws HB2.out _)
          have hszW := HBW.out.size
          have HQ := Lib.hid (OwnM.len HM2.out)
          have hmore := wayL_more HPc.out ha (by rw [HF.out, HLc.out]; exact hlt)
          have HMV := Lib.hid (show mvW Lc a = ((j : Int), Lc[j]?.getD 0, (goalsL Lc a)[j]?.getD 0) by unfold mvW; rw [HF.out])
          have HST := Lib.hid (show stepW Lc a = Lc.set j ((goalsL Lc a)[j]?.getD 0) by unfold stepW; rw [HF.out])
          have HW' := Lib.hid (show wayL L a = (M ++ [((j : Int), Lc[j]?.getD 0, (goalsL Lc a)[j]?.getD 0)]) ++ wayL (stepW Lc a) a by rw [HW.out, hmore, HMV.out]; simp)
          have HLs := Lib.hid (show (stepW Lc a).length = n by rw [stepW_len]; exact HLc.out)
          have HPs := Lib.hid (stepW_pegs Lc a HPc.out ha)
          have hq : q < 255 := by
            have h1 := HWL.out
            rw [HW'.out] at h1
            simp only [List.length_append, List.length_cons, List.length_nil, HQ.out] at h1
            omega
          clear hcn hcg hmore hWW HM2 HN2 HG HB2 hgnl hgl HS ht
          obtain ⟨_, h0, _, hgnl, hcn⟩ := ownAtW HNW.out HLc.out hlt
          injection h0 with h0
          injection h0 with h0
          subst h0
          obtain ⟨_, h0, _, hgl, hcg⟩ := ownAtW HGW.out (by rw [goalsL_len]; exact HLc.out) hlt
          injection h0 with h0
          injection h0 with h0
          subst h0
          have HGOAL := Lib.hid (show (goalsL Lc a)[j]?.getD 0 = (goalsL Lc a)[j]?.getD 0 from rfl)
          go_region_law ((refine step_append_lies _ (by rfl) _ _ _ (by rfl) w.heap.size 69 i0 (.agg #[.int .i64 0, .int .i64 0, .int .i64 0]) 3 24 Try.underlying36 hi hz0 hz1 hz2 rfl (by decide) (.slice A' q c') q (mvCells M) (by rfl) ((OwnG.alloc HMW.out _).drewW) ⟨W.heap.size, 0, none⟩ 1 1 [.int .i64 j, .int .i64 (Lc[j]?.getD 0), .int .i64 ((goalsL Lc a)[j]?.getD 0)] (by rfl) (by rfl) (World.news_of_block (cs := #[.int .i64 j, .int .i64 (Lc[j]?.getD 0), .int .i64 ((goalsL Lc a)[j]?.getD 0)]) (t := 69) (fr := (0, 0)) (heap_alloc_new W _)) (by simp [Value.oneCell']) (by omega) (by unfold maxLen; omega) (by omega) (by simp; omega) (W.heap.size + 1) (by simp) ?_; intro gg cap w4 hown1 hgrow hat hlt2; have O4 := Lib.hid hown1; have HGR := Lib.hid (grown_undrewW hgrow); clear hown1 hgrow hat))
          all_goals
            have B4 := Lib.hid (HBW.out.trans (OwnG.grown_below HMW.out HGR.out (Nat.le_refl _) hszW))
            have N4 := Lib.hid (OwnG.otherW HNW.out HMW.out HGR.out (by decide))
            have G4 := Lib.hid (OwnG.otherW HGW.out HMW.out HGR.out (by decide))
            have O5 := Lib.hid (show OwnM w.heap.size w4 (some ⟨gg, 0, none⟩) (q + 1) cap (M ++ [((j : Int), Lc[j]?.getD 0, (goalsL Lc a)[j]?.getD 0)]) by unfold OwnM; rw [mvCells_snoc]; exact O4.out)
            clear hcn hcg
            obtain ⟨_, h0, _, hgnl4, hcn⟩ := ownAtW N4.out HLc.out hlt
            injection h0 with h0
            injection h0 with h0
            subst h0
            obtain ⟨_, h0, _, hgl4, hcg⟩ := ownAtW G4.out (by rw [goalsL_len]; exact HLc.out) hlt
            injection h0 with h0
            injection h0 with h0
            subst h0
            have hfz := OwnG.frozen N4.out rfl j
            go_wp2
            go_roundw
            case rel =>
              refine ⟨stepW Lc a, _, _, _, _, rfl, HW', HLs, HPs, OwnG.setBox O5.out (by rintro _ h; injection h with h; injection h with h; subst h; exact neW O5.out N4.out (by decide)) _, ?_, B4.out.setCell hBn _⟩
              have st := (World.ownsRow.stored N4.out j (.int .i64 ((goalsL Lc a)[j]?.getD 0))).1
              rw [HST.out]
              rw [List.map_set]
              exact st
            case measure => simp [lnW]; omega
      · obtain rfl : j = n := by omega
        have hd : decide ((j : Int) < (j : Int)) = false := by simp
        have HF := Lib.hid (fdW_all Lc a (fun i hi => HS.out i (by rw [HLc.out] at hi; exact hi)))
        have HE := Lib.hid (show M = wayL L a by rw [HW.out, wayL_end HF.out, List.append_nil])
        have hq := OwnM.len HM2.out
        rw [HE.out] at hq
        subst hq
        go_wp2_with fail
        go_quiet (fail)
        go_wp2
        go_ret
        exact ⟨A', c', rfl, by have h := HM2.out; rw [HE.out] at h; exact h, belowDraws HB2.out _⟩

end Go.Proofs.Ytbcgomimfgggnaa

namespace Go.Proofs.Ytbcgomimfgggnaa
open Go.RowKit
set_option linter.unusedVariables false
set_option maxRecDepth 100000

theorem mvCells_app (M N : List Mv) : mvCells (M ++ N) = mvCells M ++ mvCells N := by unfold mvCells mvF; rw [List.flatMap_append, List.map_append]
/-- 'append(a, b...)' of moves, a the call's own, b whatever list of the call's. -/
theorem wpList_append_mvs {w : World} {ops : Array Oper} {rest : List Oper} {o : Oper} {a : Act} {Q : Exit → Act → World → Prop} (hgd : o.guard = none) (s x : Operand)
    (ho : o.op = .call { callee := .builtin .append, args := #[s, x], argTypes := #[36, 36] })
    (B : Nat) (A : Option Addr) (n c : Nat) (M : List Mv) (hs : a.eval s = .slice A n c) (hown : OwnM B w A n c M) (B' : Nat) (A' : Option Addr) (m c' : Nat) (N : List Mv) (hx : a.eval x = .slice A' m c') (hsrc : OwnM B' w A' m c' N)
    (hn : n + m ≤ 100000) (hB : B ≤ w.heap.size)
    (h : ∀ A2 c2 w2, OwnM B w2 A2 (n + m) c2 (M ++ N) → w.grownBy w2 (Value.slice A n c).ownBlock → wpList Try.prog ops Q rest (a.put o.dst (.slice A2 (n + m) c2)) w2) : wpList Try.prog ops Q (o :: rest) a w := by
  obtain ⟨i0, hi, hz0, hz1, hz2⟩ := info_parts Try.infoM
  have hlN := OwnM.len hsrc
  rcases OwnG.form hsrc with ⟨rfl, rfl, rfl⟩ | ⟨g, rfl, _, _⟩
  · obtain rfl : N = [] := List.eq_nil_of_length_eq_zero hlN
    refine wpList_append_own_none hgd s x 36 ho B 69 i0 3 Try.underlying36 hi _ n _ hs hown hx ?_
    exact h A c w (by rw [List.append_nil]; exact hown) (World.grownBy.refl _ _)
  · refine wpList_append_own w hgd s x 36 ho B 69 i0 (.agg #[.int .i64 0, .int .i64 0, .int .i64 0]) 3 24 Try.underlying36 hi hz0 hz1 hz2 rfl (by decide) _ n _ hs hown ⟨g, 0, none⟩ m c' (mvCells N) hx (by rw [mvCells_len, hlN]) ?_ ?_ (by unfold maxLen; omega) (by omega) hB ?_
    · intro j u hj
      have hlt : j < m * 3 := by
        have := (List.getElem?_eq_some_iff.1 hj).1
        rwa [mvCells_len, hlN] at this
      obtain ⟨g2, hg2, _, _, hc⟩ := OwnG.cell hsrc j hlt
      injection hg2 with hg2
      injection hg2 with hg2
      subst hg2
      have hadd : (⟨g, 0, none⟩ : Addr).add j = ⟨g, j, none⟩ := by unfold Addr.add; split <;> simp_all
      rw [hadd, hc, hj]
    · intro u hu
      unfold mvCells at hu
      obtain ⟨i, _, rfl⟩ := List.mem_map.1 hu
      rfl
    · intro v' w' h2 h3 h4
      obtain ⟨A2, c2, rfl⟩ := ownG_shape h2
      refine h A2 c2 w' ?_ h3
      unfold OwnM
      rw [mvCells_app]
      exact h2

theorem own_noneG {e s B : Nat} {w : World} {A : Option Addr} {n c : Nat} {xs : List Value} (h : OwnG e s B w A n c xs) : A = none → c = 0 := fun e => by
  rcases h.form with ⟨_, _, h3⟩ | ⟨_, h, _⟩
  · exact h3
  · rw [e] at h; cases h

set_option maxHeartbeats 4000000 in
theorem l02Back_calls (A : Option Addr) (n c : Nat) (M : List Mv) (w : World) (hM : M.length = n) (hn : n ≤ 1000) (hV : Mvs w A M) :
    Calls Try.prog 51 #[.slice A n c] w fun e w' => ∃ A' c', e = .returned (.slice A' (bkL M).length c') ∧ OwnM w.heap.size w' A' (bkL M).length c' (bkL M) ∧ Below w.heap.size w w' := by
  obtain ⟨i0, hi, hz0, hz1, hz2⟩ := info_parts Try.infoM
  have HM := Lib.hid hM
  have HV := Lib.hid hV
  have hBal : Below w.heap.size w (w.alloc (.cells #[] 69)) := (Below.refl _ _).alloc (Nat.le_refl _) _
  have hE := OwnG.emptyAt (e := 69) (size := 3) (Box.new w 69 #[]) (Nat.le_refl w.heap.size)
  have HE := Lib.hid hE
  have HB0 := Lib.hid hBal
  clear hM hV hBal hE
  go_enter Try.func51, Try.ntmps51
  go_wp2
  go_loopw [3, 4] (fun o i wr => ∃ (u k : Nat) (A' : Option Addr) (c' : Nat), u + k = n ∧ i = .int .i64 ((u : Int) - 1) ∧ o = .slice A' k c' ∧ OwnM w.heap.size wr A' k c' (bkL (M.drop u)) ∧ Below w.heap.size w wr) (fun _ i _ => (intOf i + 1).toNat)
  case atStart =>
    refine ⟨n, 0, _, _, rfl, rfl, rfl, ?_, HB0.out⟩
    rw [List.drop_eq_nil_of_le (by rw [HM.out]; exact Nat.le_refl _)]
    exact HE.out
  case round =>
    obtain ⟨u, k, A', c', hk, rfl, rfl, hO, hb⟩ := hrel
    have HO := Lib.hid hO
    have HB := Lib.hid hb
    have hsz := hb.size
    clear hO hb HE HB0
    cases u with
    | zero =>
      have hlt : ¬ (0 : Int) ≤ ((0 : Nat) : Int) - 1 := by omega
      obtain rfl : k = n := by omega
      go_wp2
      go_ret
      refine ⟨A', c', ?_, ?_, HB.out⟩
      · rw [bkL_len, HM.out]; rfl
      · rw [bkL_len, HM.out]
        have h := HO.out
        rw [List.drop_zero] at h
        exact h
    | succ j =>
      have hj1 : ((j + 1 : Nat) : Int) - 1 = (j : Int) := by omega
      rw [hj1]
      clear hj1
      have hlt : (0 : Int) ≤ (j : Int) := by omega
      have hlt2 : (j : Int) < (n : Int) := by omega
      obtain ⟨g, rfl, hg, v0, v1, v2⟩ := (HV.out.below HB.out) j (by rw [HM.out]; omega)
      have HS := Lib.hid (bkL_drop (M := M) (k := j) (by rw [HM.out]; omega))
      generalize M[j]?.getD (0, 0, 0) = m at *
      obtain ⟨x1, x2, x3⟩ := m
      dsimp only at v0 v1 v2
      have hS := HS.out
      dsimp only at hS
      have HS' := Lib.hid hS
      clear HS hS
      go_upto_region 5 with (fail)
      go_region_law ((refine step_append_lies _ (by rfl) _ _ _ (by rfl) w.heap.size 69 i0 (.agg #[.int .i64 0, .int .i64 0, .int .i64 0]) 3 24 Try.underlying36 hi hz0 hz1 hz2 rfl (by decide) (.slice A' k c') k (mvCells (bkL (M.drop (j + 1)))) (by rfl) ((OwnG.alloc HO.out _).drewW) ⟨wr.heap.size, 0, none⟩ 1 1 [.int .i64 x1, .int .i64 x3, .int .i64 x2] (by rfl) (by rfl) (World.news_of_block (cs := #[.int .i64 x1, .int .i64 x3, .int .i64 x2]) (t := 69) (fr := (0, 0)) (heap_alloc_new wr _)) (by simp [Value.oneCell']) (by omega) (by unfold maxLen; omega) (by omega) (by simp; omega) (wr.heap.size + 1) (by simp) ?_; intro gg cap w4 hown1 hgrow hat hlt3; have O4 := Lib.hid hown1; have HGR := Lib.hid (grown_undrewW hgrow); clear hown1 hgrow hat))
      all_goals
        have B4 := Lib.hid (HB.out.trans (OwnG.grown_below HO.out HGR.out (Nat.le_refl _) hsz))
        have O5 := Lib.hid (show OwnM w.heap.size w4 (some ⟨gg, 0, none⟩) (k + 1) cap (bkL (M.drop j)) by rw [HS'.out]; unfold OwnM; rw [mvCells_snoc]; exact O4.out)
        go_wp2
        go_roundw
        case rel => exact ⟨j, k + 1, _, _, by omega, by go_num, rfl, O5.out, B4.out⟩
        case measure => simp [intOf] <;> omega

set_option maxHeartbeats 4000000 in
theorem l02Tower_calls (D : Nat) (P Q : Int) (w : World) (hD : D ≤ 8) (hP : 0 ≤ P ∧ P ≤ 2) (hQ : 0 ≤ Q ∧ Q ≤ 2) :
    Calls Try.prog 52 #[.int .i64 D, .int .i64 Q, .int .i64 P] w fun e w' => ∃ A' c', e = .returned (.slice A' (wayL (List.replicate D Q) P).length c') ∧ OwnM w.heap.size w' A' (wayL (List.replicate D Q) P).length c' (wayL (List.replicate D Q) P) ∧ Below w.heap.size w w' := by
  obtain ⟨i0, hi, hz0, hz1q, hz2⟩ := info_parts Try.infoI
  have hBal : Below w.heap.size w (w.alloc (.cells #[] 2)) := (Below.refl _ _).alloc (Nat.le_refl _) _
  have HE := Lib.hid (OwnG.emptyAt (e := 2) (size := 1) (Box.new w 2 #[]) (Nat.le_refl w.heap.size))
  have HB0 := Lib.hid hBal
  clear hBal
  go_enter Try.func52, Try.ntmps52
  go_wp2
  go_loopw [7, 8] (fun o i wr => ∃ (k : Nat) (A' : Option Addr) (c' : Nat), k ≤ D ∧ i = .int .i64 k ∧ o = .slice A' k c' ∧ OwnG 2 1 w.heap.size wr A' k c' ((List.replicate k Q).map (Value.int .i64)) ∧ Below w.heap.size w wr) (fun _ i _ => D - (intOf i).toNat)
  case atStart => exact ⟨0, _, _, Nat.zero_le _, rfl, rfl, HE.out, HB0.out⟩
  case round =>
    obtain ⟨k, A', c', hk, rfl, rfl, hO, hb⟩ := hrel
    have HO := Lib.hid hO
    have HB := Lib.hid hb
    have hsz := hb.size
    clear hO hb HE HB0
    by_cases hlt : k < D
    · go_wp2_with (at_builtin; refine wpList_append_own _ rfl _ _ 28 rfl w.heap.size 2 i0 (.int .i64 0) 1 8 Try.underlying28 hi hz0 hz1q hz2 rfl (by decide) _ _ _ rfl (OwnG.alloc HO.out _) ⟨wr.heap.size, 0, none⟩ 1 1 [.int .i64 Q] rfl rfl (cell_one_new _ _ _) (by simp [Value.oneCell']) (by unfold maxLen; omega) (by omega) (by simp; omega) ?_; intro v' w6 hown' hgrow _; obtain ⟨A6, c6, rfl⟩ := ownG_shape hown'; have HO6 := Lib.hid hown'; have HGR := Lib.hid hgrow; clear hown' hgrow)
      go_roundw
      case rel =>
        refine ⟨k + 1, A6, c6, by omega, by go_num, rfl, ?_, HB.out.trans (OwnG.grown_below HO.out HGR.out (Nat.le_refl _) hsz)⟩
        rw [show List.replicate (k + 1) Q = List.replicate k Q ++ [Q] from List.replicate_succ', List.map_append]
        exact HO6.out
      case measure => simp [intOf]; omega
    · obtain rfl : k = D := by omega
      go_wp2_with fail
      refine (l02Way_calls A' k c' (List.replicate k Q) P _ (by simp) hD (own_noneG HO.out) (intsW HO.out) (rep_pegs hQ k) hP).mono ?_
      rintro e w2 ⟨A2, c2, rfl, hO2, hb2⟩
      go_wp2
      go_ret
      exact ⟨A2, c2, rfl, OwnG.mono hO2 hsz, HB.out.trans (hb2.mono hsz)⟩

theorem ret_of_own {w w' : World} {e : Ending} {A : Option Addr} {n c : Nat} {N WL : List Mv} (he : e = .returned (.tuple #[.slice A n c, .int .i64 0])) (hO : OwnM w.heap.size w' A n c N) (hN : N = WL) (hb : Below w.heap.size w w') : RetMvs w WL.length WL 0 e w' := by
  subst hN
  have := OwnM.len hO
  subst this
  exact ⟨A, c, he, hO, hb⟩
theorem own_snoc {B : Nat} {w : World} {A : Option Addr} {n c : Nat} {M : List Mv} {x y z : Int} (h : OwnG 69 3 B w A n c (mvCells M ++ [.int .i64 x, .int .i64 y, .int .i64 z])) : OwnM B w A n c (M ++ [(x, y, z)]) := by
  unfold OwnM
  rw [mvCells_snoc]
  exact h
theorem grown_boxN {e size B n c b t : Nat} {w w1 : World} {A : Option Addr} {xs : List Value} {cs : Array Value} (h : OwnG e size B w A n c xs) (hg : w.grownBy w1 (Value.slice A n c).ownBlock) (hb : Box w b t cs) (hne : t ≠ e) : Box w1 b t cs := hb.grown hg (h.box_ne hb hne)
theorem grown_belowN {e size B n c B0 : Nat} {w w1 : World} {A : Option Addr} {xs : List Value} (h : OwnG e size B w A n c xs) (hg : w.grownBy w1 (Value.slice A n c).ownBlock) (h1 : B0 ≤ B) (h2 : B0 ≤ w.heap.size) : Below B0 w w1 := by
  refine (Below.refl B0 w).grown hg h2 (fun k hk => ?_)
  rcases h.form with ⟨rfl, rfl, rfl⟩ | ⟨g, rfl, hB, _⟩
  · simp [Value.ownBlock] at hk
  · simp only [Value.ownBlock, Option.some.injEq] at hk
    omega

set_option maxHeartbeats 40000000 in
theorem specWayBetween_ret (A : Option Addr) (n c : Nat) (p : Int) (L : List Int) (B : Option Addr) (m d : Nat) (q : Int) (M : List Int) (w : World) (hL : L.length = n) (hn : n ≤ 1048576) (hI : Ints w A L) (hcap : n ≤ c) (hc : c ≤ 9223372036854775807) (hM : M.length = m) (hm : m ≤ 1048576) (hJ : Ints w B M) (hdap : m ≤ d) (hd : d ≤ 9223372036854775807) :
    Calls Try.prog 18 #[.agg #[.int .i64 p, .slice A n c], .agg #[.int .i64 q, .slice B m d]] w (RetMvs w (wbL p L q M).length (wbL p L q M) (code2 p L q M)) := by
  have HL := Lib.hid hL
  have HM := Lib.hid hM
  obtain ⟨b1, b2, b3⟩ := twoBoxes w p q A B n c m d 30
  have hbal := (Below.refl _ ((w.alloc (.cells #[.int .i64 p, .slice A n c] 30)).alloc (.cells #[.int .i64 q, .slice B m d] 30))).alloc (Nat.le_refl _) (.cells #[.int .i64 p, .slice A n c, .int .i64 q, .slice B m d] 30)
  have X0 := Lib.hid (b1.below hbal b1.lt)
  have Y0 := Lib.hid (b2.below hbal b2.lt)
  have hc0 := Box.new ((w.alloc (.cells #[.int .i64 p, .slice A n c] 30)).alloc (.cells #[.int .i64 q, .slice B m d] 30)) 30 #[.int .i64 p, .slice A n c, .int .i64 q, .slice B m d]
  simp only [World.size_alloc] at hc0
  have Z0 := Lib.hid hc0
  have HB0 := Lib.hid (b3.trans (hbal.mono b3.size))
  have HI0 := Lib.hid (hI.below HB0.out)
  have HJ0 := Lib.hid (hJ.below HB0.out)
  have HIW := Lib.hid hI
  have HJW := Lib.hid hJ
  obtain ⟨i0, hi, hz0, hz1, hz2⟩ := info_parts Try.infoM
  clear hL hM b1 b2 b3 hbal hc0 hI hJ
  by_cases hz : code2 p L q M = 0
  · obtain ⟨hs, ht, rfl, rfl, hlen⟩ := code2_zero hz
    rw [HL.out, HM.out] at hlen
    subst hlen
    have HZ := Lib.hid hz
    have hz' : (code2 3 L 3 M != 0) = false := by simpa using hz
    have h8 := (state_facts hs HL.out).2.2.1
    have HPL := Lib.hid (state_pegsOk hs)
    have HPM := Lib.hid (state_pegsOk ht)
    rw [hz]
    clear hz hs ht
    rcases grt_cases L M n with hg | ⟨D, hg⟩
    · have HG := Lib.hid hg
      rw [wbL_same HZ.out HL.out hg]
      clear hg
      go_enter Try.func18, Try.ntmps18
      go_wp2_with fail
      refine (l02Code_two (w.heap.size + 1 + 1) A n c 3 L B n d 3 M _ Z0.out HL.out hn HI0.out HM.out hm HJ0.out).mono ?_
      rintro e w1 ⟨rfl, hb⟩
      rw [HZ.out]
      have X1 := Lib.hid (X0.out.below hb X0.out.lt)
      have Y1 := Lib.hid (Y0.out.below hb Y0.out.lt)
      have HI1 := Lib.hid (HI0.out.below hb)
      have HJ1 := Lib.hid (HJ0.out.below hb)
      have HB1 := Lib.hid (HB0.out.trans (hb.mono HB0.out.size))
      clear hb X0 Y0 HI0 HJ0 HB0 hz'
      obtain ⟨x0, x1, y0, y1⟩ := cells22 X1.out Y1.out
      go_wp2_with fail
      refine (l02Greatest_calls A n c 3 L B d 3 M _ HL.out HM.out h8 HI1.out HJ1.out).mono ?_
      rintro e w2 ⟨rfl, hb⟩
      have HB2 := Lib.hid (HB1.out.trans (hb.mono HB1.out.size))
      have hs2 := HB2.out.size
      clear hb X1 Y1 HI1 HJ1 HB1
      rw [HG.out]
      go_wp2
      go_ret2
      exact ⟨_, _, rfl, OwnG.emptyAt (Box.new w2 69 #[]) hs2, HB2.out.alloc hs2 _⟩
    · have HG := Lib.hid hg
      rw [wbL_at HZ.out HL.out hg]
      have HLEN := Lib.hid (show D ≤ 7 by have := (carry_facts HPL.out HPM.out HL.out HM.out hg).1; omega)
      obtain ⟨hD, hP0, hP1, hQ0, hQ1, hne⟩ := carry_facts HPL.out HPM.out HL.out HM.out hg
      clear hg
      have HLT : Hid ((L.take D).length = D) := by unfold Hid; rw [List.length_take, HL.out]; omega
      have HMT : Hid ((M.take D).length = D) := by unfold Hid; rw [List.length_take, HM.out]; omega
      have HPLT := Lib.hid (pegsOk_take HPL.out D)
      have HPMT := Lib.hid (pegsOk_take HPM.out D)
      obtain ⟨ad, rfl, had, hcx⟩ := HI0.out D (by rw [HL.out]; exact hD)
      obtain ⟨ad', rfl, had', hcy⟩ := HJ0.out D (by rw [HM.out]; exact hD)
      rw [List.getD_eq_getElem?_getD] at hcx hcy
      have HNU := Lib.hid (fun W hW1 hW2 => l02Numbers_calls (some ad) n c 3 L (some ad') d 3 M D W HL.out HM.out h8 hW1 hW2 hcap hc hdap hd HPL.out HPM.out HG.out)
      obtain ⟨WL, hWL⟩ : ∃ WL, wbD L M D = WL := ⟨_, rfl⟩
      rw [hWL]
      unfold wbD at hWL
      generalize L[D]?.getD 0 = P at *
      generalize M[D]?.getD 0 = Q at *
      generalize oneN L M D = one at *
      generalize twoN L M D = two at *
      have HWL := Lib.hid hWL
      clear hWL
      go_enter Try.func18, Try.ntmps18
      go_wp2_with fail
      refine (l02Code_two (w.heap.size + 1 + 1) (some ad) n c 3 L (some ad') n d 3 M _ Z0.out HL.out hn HI0.out HM.out hm HJ0.out).mono ?_
      rintro e w1 ⟨rfl, hb⟩
      rw [HZ.out]
      have X1 := Lib.hid (X0.out.below hb X0.out.lt)
      have Y1 := Lib.hid (Y0.out.below hb Y0.out.lt)
      have HI1 := Lib.hid (HI0.out.below hb)
      have HJ1 := Lib.hid (HJ0.out.below hb)
      have HB1 := Lib.hid (HB0.out.trans (hb.mono HB0.out.size))
      have hcx1 := (hb.cell (p := ad.add D) (by rw [add_block]; exact had)).trans hcx
      have hcy1 := (hb.cell (p := ad'.add D) (by rw [add_block]; exact had')).trans hcy
      have had1 := Nat.lt_of_lt_of_le had hb.size
      have had1' := Nat.lt_of_lt_of_le had' hb.size
      clear hb X0 Y0 HI0 HJ0 HB0 hz' hcx hcy had had'
      obtain ⟨x0, x1, y0, y1⟩ := cells22 X1.out Y1.out
      go_wp2_with fail
      refine (l02Greatest_calls (some ad) n c 3 L (some ad') d 3 M _ HL.out HM.out h8 HI1.out HJ1.out).mono ?_
      rintro e w2 ⟨rfl, hb⟩
      rw [HG.out]
      have X2 := Lib.hid (X1.out.below hb X1.out.lt)
      have Y2 := Lib.hid (Y1.out.below hb Y1.out.lt)
      have HI2 := Lib.hid (HI1.out.below hb)
      have HJ2 := Lib.hid (HJ1.out.below hb)
      have HB2 := Lib.hid (HB1.out.trans (hb.mono HB1.out.size))
      have hcx2 := (hb.cell (p := ad.add D) (by rw [add_block]; exact had1)).trans hcx1
      have hcy2 := (hb.cell (p := ad'.add D) (by rw [add_block]; exact had1')).trans hcy1
      clear hb X1 Y1 HI1 HJ1 HB1 x0 x1 y0 y1 hcx1 hcy1
      obtain ⟨x0, x1, y0, y1⟩ := cells22 X2.out Y2.out
      have hi0 : (0 : Int) ≤ (D : Int) := by omega
      have hi1 : (D : Int) < (n : Int) := by omega
      have hi2 : (D : Int) ≤ (c : Int) := by omega
      have hi3 : (D : Int) ≤ (d : Int) := by omega
      have hi4 : ¬ (D : Int) < 0 := by omega
      have hr : 0 ≤ 3 - P - Q ∧ 3 - P - Q ≤ 2 := by omega
      have hw0 : IntKind.i64.wrap (3 - P) = 3 - P := IntWalk.i64_in _ (by omega)
      have hw1 : IntKind.i64.wrap (3 - P - Q) = 3 - P - Q := IntWalk.i64_in _ (by omega)
      have hw2 : wrap64 (3 - P) = 3 - P := IntWalk.wrap64_in _ (by omega)
      have hw3 : wrap64 (3 - P - Q) = 3 - P - Q := IntWalk.wrap64_in _ (by omega)
      go_wp2_with fail
      go_quiet (fail)
      go_wp2_with fail
      refine (HNU.out _ (HI2.out.below (belowDraws (Below.refl _ _) _)) (HJ2.out.below (belowDraws (Below.refl _ _) _))).mono ?_
      rintro e w3 ⟨rfl, hb⟩
      have hb3 := (belowDraws (Below.refl w2.heap.size w2) _).trans hb
      have X3 := Lib.hid (X2.out.below hb3 X2.out.lt)
      have Y3 := Lib.hid (Y2.out.below hb3 Y2.out.lt)
      have HB3 := Lib.hid (HB2.out.trans (hb3.mono HB2.out.size))
      clear hb hb3 x0 x1 y0 y1 hcx2 hcy2 X2 Y2 HI2 HJ2 HB2 HNU hw0 hw1 hw2 hw3
      have hq1 := wayL_bd (L := L.take D) (a := 3 - P - Q) (by simp; omega)
      have hq2 := wayL_bd (L := M.take D) (a := 3 - P - Q) (by simp; omega)
      have hq3 := wayL_bd (L := L.take D) (a := Q) (by simp; omega)
      have hq4 := wayL_bd (L := M.take D) (a := P) (by simp; omega)
      have hq5 := wayL_bd (L := List.replicate D Q) (a := P) (by simp; omega)
      have HIT := Lib.hid (fun (W : World) (h : Below w.heap.size w W) => (HIW.out.below h).take D)
      have HJT := Lib.hid (fun (W : World) (h : Below w.heap.size w W) => (HJW.out.below h).take D)
      clear had1 had1' HIW HJW
      by_cases hle : one ≤ two
      · have HE := Lib.hid (show w1L L M D P Q = WL by have h := HWL.out; rw [if_pos hle] at h; exact h)
        clear HWL hq3 hq4 hq5
        obtain ⟨x0, x1, _, _⟩ := X3.out.two
        go_wp2_with fail
        refine (l02Way_calls (some ad) D c (L.take D) (3 - P - Q) _ HLT.out (by omega) (fun h => by cases h) (HIT.out _ HB3.out) HPLT.out hr).mono ?_
        rintro e w4 ⟨A4, c4, rfl, hO, hb⟩
        have Y4 := Lib.hid (Y3.out.below hb Y3.out.lt)
        have O4 := Lib.hid (OwnG.mono hO HB3.out.size)
        have HB4 := Lib.hid (HB3.out.trans (hb.mono HB3.out.size))
        have hs4 := HB4.out.size
        clear hO hb X3 Y3 HB3
        clear x0 x1
        go_wp2_with (at_builtin; refine wpList_append_own _ rfl _ _ 36 rfl w.heap.size 69 i0 (.agg #[.int .i64 0, .int .i64 0, .int .i64 0]) 3 24 Try.underlying36 hi hz0 hz1 hz2 rfl (by decide) _ _ _ rfl (OwnG.alloc O4.out _) ⟨w4.heap.size, 0, none⟩ 1 1 [.int .i64 D, .int .i64 P, .int .i64 Q] rfl rfl (World.news_of_block (cs := #[.int .i64 D, .int .i64 P, .int .i64 Q]) (t := 69) (fr := (0, 0)) (heap_alloc_new w4 _)) (by simp [Value.oneCell']) (by unfold maxLen; omega) (by omega) (by simp; omega) ?_; intro v' w5 hown' hgrow _; obtain ⟨A5, c5, rfl⟩ := ownG_shape hown'; have OO := Lib.hid hown'; have Y5 := Lib.hid (OwnG.grown_box O4.out hgrow Y4.out (by decide)); have HB5 := Lib.hid (HB4.out.trans (OwnG.grown_below O4.out hgrow (Nat.le_refl _) hs4)); clear hown' hgrow; obtain ⟨y0, y1, _, _⟩ := Y5.out.two)
        have O5 := Lib.hid (own_snoc OO.out)
        have hs5 := HB5.out.size
        clear OO O4 Y4 HB4
        go_wp2_with fail
        refine (l02Way_calls (some ad') D d (M.take D) (3 - P - Q) _ HMT.out (by omega) (fun h => by cases h) (HJT.out _ HB5.out) HPMT.out hr).mono ?_
        rintro e w6 ⟨A6, c6, rfl, hO, hb⟩
        have OW := Lib.hid hO
        have O6 := Lib.hid (OwnG.below O5.out hb)
        have HB6 := Lib.hid (HB5.out.trans (hb.mono HB5.out.size))
        clear hO hb Y5 O5 HB5 y0 y1
        go_wp2_with fail
        refine (l02Back_calls A6 (wayL (M.take D) (3 - P - Q)).length c6 (wayL (M.take D) (3 - P - Q)) _ rfl (by omega) (OwnM.mvs OW.out)).mono ?_
        rintro e w7 ⟨A7, c7, rfl, hO, hb⟩
        have OB := Lib.hid hO
        have O7 := Lib.hid (OwnG.below O6.out hb)
        have HB7 := Lib.hid (HB6.out.trans (hb.mono HB6.out.size))
        have hs7 := HB7.out.size
        have HQB := Lib.hid (bkL_len (wayL (M.take D) (3 - P - Q)))
        clear hO hb O6 HB6 OW
        go_wp2_with (at_builtin; refine wpList_append_mvs rfl _ _ rfl w.heap.size _ _ _ _ rfl O7.out _ _ _ _ _ rfl OB.out (by have h := HQB.out; omega) hs7 ?_; intro A8 c8 w8 hO hg; have O8 := Lib.hid hO; have HB8 := Lib.hid (HB7.out.trans (grown_belowN O7.out hg (Nat.le_refl _) hs7)); clear hO hg)
        go_ret2
        refine ret_of_own rfl O8.out ?_ HB8.out
        rw [← HE.out]
        unfold w1L
        simp
      · have HE := Lib.hid (show w2L L M D P Q = WL by have h := HWL.out; rw [if_neg hle] at h; exact h)
        clear HWL hq1 hq2
        obtain ⟨x0, x1, _, _⟩ := X3.out.two
        go_wp2_with fail
        refine (l02Way_calls (some ad) D c (L.take D) (Q) _ HLT.out (by omega) (fun h => by cases h) (HIT.out _ HB3.out) HPLT.out ⟨hQ0, hQ1⟩).mono ?_
        rintro e w4 ⟨A4, c4, rfl, hO, hb⟩
        have Y4 := Lib.hid (Y3.out.below hb Y3.out.lt)
        have O4 := Lib.hid (OwnG.mono hO HB3.out.size)
        have HB4 := Lib.hid (HB3.out.trans (hb.mono HB3.out.size))
        have hs4 := HB4.out.size
        clear hO hb X3 Y3 HB3
        clear x0 x1
        go_wp2_with (at_builtin; refine wpList_append_own _ rfl _ _ 36 rfl w.heap.size 69 i0 (.agg #[.int .i64 0, .int .i64 0, .int .i64 0]) 3 24 Try.underlying36 hi hz0 hz1 hz2 rfl (by decide) _ _ _ rfl (OwnG.alloc O4.out _) ⟨w4.heap.size, 0, none⟩ 1 1 [.int .i64 D, .int .i64 P, .int .i64 (3 - P - Q)] rfl rfl (World.news_of_block (cs := #[.int .i64 D, .int .i64 P, .int .i64 (3 - P - Q)]) (t := 69) (fr := (0, 0)) (heap_alloc_new w4 _)) (by simp [Value.oneCell']) (by unfold maxLen; omega) (by omega) (by simp; omega) ?_; intro v' w5 hown' hgrow _; obtain ⟨A5, c5, rfl⟩ := ownG_shape hown'; have OO := Lib.hid hown'; have Y5 := Lib.hid (OwnG.grown_box O4.out hgrow Y4.out (by decide)); have HB5 := Lib.hid (HB4.out.trans (OwnG.grown_below O4.out hgrow (Nat.le_refl _) hs4)); clear hown' hgrow)
        have O5 := Lib.hid (own_snoc OO.out)
        have hs5 := HB5.out.size
        clear OO O4 Y4 HB4
        go_wp2_with fail
        refine (l02Tower_calls D P Q _ (by omega) ⟨hP0, hP1⟩ ⟨hQ0, hQ1⟩).mono ?_
        rintro e w9 ⟨A9, c9, rfl, hO, hb⟩
        have OT := Lib.hid hO
        have Y9 := Lib.hid (Y5.out.below hb Y5.out.lt)
        have O9 := Lib.hid (OwnG.below O5.out hb)
        have HB9 := Lib.hid (HB5.out.trans (hb.mono HB5.out.size))
        have hs9 := HB9.out.size
        clear hO hb Y5 O5 HB5
        go_upto_region 15 with (at_builtin; refine wpList_append_mvs rfl _ _ rfl w.heap.size _ _ _ _ rfl O9.out _ _ _ _ _ rfl OT.out (by omega) hs9 ?_; intro A10 c10 w10 hO hg; have O10 := Lib.hid hO; have Y10 := Lib.hid (grown_boxN O9.out hg Y9.out (by decide)); have HB10 := Lib.hid (HB9.out.trans (grown_belowN O9.out hg (Nat.le_refl _) hs9)); clear hO hg)
        clear O9 Y9 HB9 OT
        have hs10 := HB10.out.size
        go_wp2_with (at_builtin; refine wpList_append_own _ rfl _ _ 36 rfl w.heap.size 69 i0 (.agg #[.int .i64 0, .int .i64 0, .int .i64 0]) 3 24 Try.underlying36 hi hz0 hz1 hz2 rfl (by decide) _ _ _ rfl (OwnG.alloc O10.out _) ⟨w10.heap.size, 0, none⟩ 1 1 [.int .i64 D, .int .i64 (3 - P - Q), .int .i64 Q] rfl rfl (World.news_of_block (cs := #[.int .i64 D, .int .i64 (3 - P - Q), .int .i64 Q]) (t := 69) (fr := (0, 0)) (heap_alloc_new w10 _)) (by simp [Value.oneCell']) (by unfold maxLen; omega) (by omega) (by simp; omega) ?_; intro v' w11 hown' hgrow _; obtain ⟨A11, c11, rfl⟩ := ownG_shape hown'; have OO := Lib.hid hown'; have Y11 := Lib.hid (OwnG.grown_box O10.out hgrow Y10.out (by decide)); have HB11 := Lib.hid (HB10.out.trans (OwnG.grown_below O10.out hgrow (Nat.le_refl _) hs10)); clear hown' hgrow; obtain ⟨y0, y1, _, _⟩ := Y11.out.two)
        have O11 := Lib.hid (own_snoc OO.out)
        have hs11 := HB11.out.size
        clear OO O10 Y10 HB10
        go_wp2_with fail
        refine (l02Way_calls (some ad') D d (M.take D) P _ HMT.out (by omega) (fun h => by cases h) (HJT.out _ HB11.out) HPMT.out ⟨hP0, hP1⟩).mono ?_
        rintro e w6 ⟨A6, c6, rfl, hO, hb⟩
        have OW := Lib.hid hO
        have O6 := Lib.hid (OwnG.below O11.out hb)
        have HB6 := Lib.hid (HB11.out.trans (hb.mono HB11.out.size))
        clear hO hb Y11 O11 HB11 y0 y1
        go_wp2_with fail
        refine (l02Back_calls A6 (wayL (M.take D) (P)).length c6 (wayL (M.take D) (P)) _ rfl (by omega) (OwnM.mvs OW.out)).mono ?_
        rintro e w7 ⟨A7, c7, rfl, hO, hb⟩
        have OB := Lib.hid hO
        have O7 := Lib.hid (OwnG.below O6.out hb)
        have HB7 := Lib.hid (HB6.out.trans (hb.mono HB6.out.size))
        have hs7 := HB7.out.size
        have HQB := Lib.hid (bkL_len (wayL (M.take D) (P)))
        clear hO hb O6 HB6 OW
        go_wp2_with (at_builtin; refine wpList_append_mvs rfl _ _ rfl w.heap.size _ _ _ _ rfl O7.out _ _ _ _ _ rfl OB.out (by have h := HQB.out; omega) hs7 ?_; intro A8 c8 w8 hO hg; have O8 := Lib.hid hO; have HB8 := Lib.hid (HB7.out.trans (grown_belowN O7.out hg (Nat.le_refl _) hs7)); clear hO hg)
        go_ret2
        refine ret_of_own rfl O8.out ?_ HB8.out
        rw [← HE.out]
        unfold w2L
        simp
  · have hz' : (code2 p L q M != 0) = true := by simpa using hz
    rw [wbL_no hz]
    clear hz
    go_enter Try.func18, Try.ntmps18
    go_wp2_with fail
    refine (l02Code_two (w.heap.size + 1 + 1) A n c p L B m d q M _ Z0.out HL.out hn HI0.out HM.out hm HJ0.out).mono ?_
    rintro e w1 ⟨rfl, hb⟩
    have HB1 := Lib.hid (HB0.out.trans (hb.mono HB0.out.size))
    clear hb X0 Y0 Z0 HI0 HJ0 HB0
    go_wp2
    go_ret2
    exact retMvs_zero rfl HB1.out

end Go.Proofs.Ytbcgomimfgggnaa
