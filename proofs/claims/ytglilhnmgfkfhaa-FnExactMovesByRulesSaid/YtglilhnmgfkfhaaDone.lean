/- Contracts: copies of states, and the state after a legal move. -/
import Derived.Test.YtglilhnmgfkfhaaMark
import Derived.Test.YtglilhnmgfkfhaaLegal
import Derived.Test.YtglilhnmgfkfhaaNews
import Derived.Laws.CopyOwn
import Derived.Laws.AppendOwnNone
import Derived.Deep.RegionHeld3
import Derived.Deep.DeepCutAuto
namespace Go.Proofs.Ytglilhnmgfkfhaa
open Go.RowKit
set_option linter.unusedVariables false

theorem Try.sizeI : (Try.prog.info? 2).map (·.size) = some 1 := by kernel_rfl

/-- A list of integers has room. -/
theorem own_below {B : Nat} {w w1 : World} {A : Option Addr} {n c : Nat} {L : List Int} (h : Own B w A n c L) (hg : w.grownBy w1 (Value.slice A n c).ownBlock) {B0 : Nat} (hB : B0 ≤ B) (hs : B0 ≤ w.heap.size) : Below B0 w w1 :=
  (Below.refl B0 w).grown hg hs (fun k hk => Nat.le_trans hB (own_bk h k hk))

set_option maxHeartbeats 400000 in
theorem copyOfState_calls (A : Option Addr) (n c : Nat) (p : Int) (L : List Int) (w : World) (hL : L.length = n) (hn : n ≤ 1048576) (hI : Ints w A L) :
    Calls Try.prog 56 #[.agg #[.int .i64 p, .slice A n c]] w fun e w' => ∃ A' c', e = .returned (.agg #[.int .i64 p, .slice A' n c']) ∧ n ≤ c' ∧ c' ≤ 1048576 ∧ Own w.heap.size w' A' n c' L ∧ Below w.heap.size w w' := by
  have hmk := run_make_row' (P := Try.prog) 24 2 (.int .i64 0) 8 Try.underlying24 Try.infoI rfl .i64 .i64 n (by omega) (by omega)
  have HL : Hid (L.length = n) := hL
  clear hL
  obtain ⟨Z, HZ⟩ : ∃ Z : List Value, Hid (Z = List.replicate n (Value.int .i64 0)) := ⟨_, rfl⟩
  have hmc : madeCells #[Value.int .i64 0] n = Z.toArray := by
    apply Array.ext'
    rw [toList_madeCells_one, HZ.out]
  rw [hmc] at hmk
  have hzl : Hid (Z.length = n) := by unfold Hid; rw [HZ.out]; simp
  have HG : Hid ((((w.alloc (.cells #[.int .i64 p, .slice A n c] 33)).alloc (.cells #[.int .i64 0, .slice none 0 0] 33)).alloc (.cells Z.toArray 2)).heap[w.heap.size + 1 + 1]? = some (.cells Z.toArray 2 (0, 0))) := by
    have := Box.new ((w.alloc (.cells #[.int .i64 p, .slice A n c] 33)).alloc (.cells #[.int .i64 0, .slice none 0 0] 33)) 2 Z.toArray
    simp only [World.size_alloc] at this
    exact this
  have HB : Hid (Below w.heap.size w (((w.alloc (.cells #[.int .i64 p, .slice A n c] 33)).alloc (.cells #[.int .i64 0, .slice none 0 0] 33)).alloc (.cells Z.toArray 2))) := (((Below.refl _ _).alloc (Nat.le_refl _) _).alloc (by simp) _).alloc (by simp; omega) _
  have HBX : Hid (Box (((w.alloc (.cells #[.int .i64 p, .slice A n c] 33)).alloc (.cells #[.int .i64 0, .slice none 0 0] 33)).alloc (.cells Z.toArray 2)) w.heap.size 33 #[.int .i64 p, .slice A n c]) := ((Box.new _ _ _).alloc _).alloc _
  have HBR : Hid (Box (((w.alloc (.cells #[.int .i64 p, .slice A n c] 33)).alloc (.cells #[.int .i64 0, .slice none 0 0] 33)).alloc (.cells Z.toArray 2)) (w.heap.size + 1) 33 #[.int .i64 0, .slice none 0 0]) := by
    have := Box.new (w.alloc (.cells #[.int .i64 p, .slice A n c] 33)) 33 #[.int .i64 0, .slice none 0 0]
    rw [World.size_alloc] at this
    exact this.alloc _
  have HPOS : Hid (0 < (L.map (Value.int .i64)).length → (some (⟨w.heap.size + 1 + 1, 0, none⟩ : Addr)) = some ⟨w.heap.size + 1 + 1, 0, none⟩ ∧ ∃ ad, A = some ad ∧ ∀ j v, (L.map (Value.int .i64))[j]? = some v → (((w.alloc (.cells #[.int .i64 p, .slice A n c] 33)).alloc (.cells #[.int .i64 0, .slice none 0 0] 33)).alloc (.cells Z.toArray 2)).cell? (ad.add j) = some v) := by
    intro h
    refine ⟨rfl, ?_⟩
    obtain ⟨ad, rfl, _⟩ := hI 0 (by simpa using h)
    exact ⟨ad, rfl, (hI.below HB.out).news⟩
  have HS : Hid ((L.map (Value.int .i64)).length = Nat.min n n) := by unfold Hid; simp [HL.out]
  have HF : Hid (0 + (L.map (Value.int .i64)).length ≤ Z.length) := by unfold Hid; rw [hzl.out]; simp [HL.out]
  have HSP : Hid (splice Z 0 (L.map (Value.int .i64)) = L.map (Value.int .i64)) := by unfold Hid splice; rw [List.drop_of_length_le (by rw [hzl.out]; simp [HL.out])]; simp
  have HBI := Lib.hid (hI.below HB.out)
  clear hI hmc
  go_enter Try.func56, Try.ntmps56
  go_wp2_with (with_reducible refine wpList_copy_splice rfl (.tmp 8) (.tmp 10) 24 24 rfl 2 Try.underlying24 Try.sizeI (some ⟨w.heap.size + 1 + 1, 0, none⟩) A n n n c rfl rfl (w.heap.size + 1 + 1) 0 Z 2 HG.out (L.map (Value.int .i64)) HS.out HPOS.out HF.out (ints_oneCell _ _) (w.heap.size + 1 + 1) _ (Below.refl _ _) (Nat.le_refl _) ?_; intro w1 hg1 hb1; have HX1 := Lib.hid (Box.below HBX.out hb1 (by omega)); have HR1 := Lib.hid (Box.below HBR.out hb1 (by omega)); have HB1 := Lib.hid (HB.out.trans (hb1.mono (by omega))); clear hb1; obtain ⟨x0, x1, _, _⟩ := HX1.out.two; obtain ⟨r0, r1, _, _⟩ := HR1.out.two; obtain ⟨_, _, fr0, fr1⟩ := HR1.out.two)
  have hgo : Box w1 (w.heap.size + 1 + 1) 2 (L.map (Value.int .i64)).toArray := by have := hg1.out; rw [HSP.out] at this; exact this
  have hown : Own w.heap.size w1 (some ⟨w.heap.size + 1 + 1, 0, none⟩) n n L :=
    ⟨by simp [HL.out], .inr ⟨_, n, _, rfl, by omega, hgo, Nat.le_refl _, by unfold maxLen; omega, by simp [HL.out], by rw [List.take_of_length_le (by simp [HL.out])]⟩⟩
  refine bodyPost_ret (v := .agg #[.int .i64 p, .slice (some ⟨w.heap.size + 1 + 1, 0, none⟩) n n]) (by simp [results, Try.results56, go_sem, r0, r1]) rfl ⟨_, n, rfl, Nat.le_refl _, hn, ?_, ?_⟩
  · exact (hown.setBoxed HR1.out (by decide) _ _).setBoxed (HR1.out.set _ _) (by decide) _ _
  · exact (HB1.out.setCell (by simp) _).setCell (by simp) _

set_option maxHeartbeats 2000000 in
theorem afterMove_calls (A : Option Addr) (n c : Nat) (p : Int) (L : List Int) (j : Nat) (f t : Int) (w : World) (hL : L.length = n) (hn : n ≤ 1048576) (hj : j < n) (hI : Ints w A L) :
    Calls Try.prog 48 #[.agg #[.int .i64 p, .slice A n c], .agg #[.int .i64 j, .int .i64 f, .int .i64 t]] w fun e w' => ∃ A' c', e = .returned (.agg #[.int .i64 p, .slice A' n c']) ∧ Own w.heap.size w' A' n c' (L.set j t) ∧ Below w.heap.size w w' := by
  have HL : Hid (L.length = n) := hL
  have hW : ∃ W, W = (((w.alloc (.cells #[.int .i64 p, .slice A n c] 33)).alloc (.cells #[.int .i64 j, .int .i64 f, .int .i64 t] 53)).alloc (.cells #[.int .i64 0, .slice none 0 0] 33)) := ⟨_, rfl⟩
  obtain ⟨W, hW⟩ := hW
  have X0 : Hid (Box W w.heap.size 33 #[.int .i64 p, .slice A n c]) := by unfold Hid; rw [hW]; exact ((Box.new _ _ _).alloc _).alloc _
  have Y0 : Hid (Box W (w.heap.size + 1) 53 #[.int .i64 j, .int .i64 f, .int .i64 t]) := by
    unfold Hid; rw [hW]
    have := Box.new (w.alloc (.cells #[.int .i64 p, .slice A n c] 33)) 53 #[.int .i64 j, .int .i64 f, .int .i64 t]
    rw [World.size_alloc] at this
    exact this.alloc _
  have R0 : Hid (Box W (w.heap.size + 1 + 1) 33 #[.int .i64 0, .slice none 0 0]) := by
    unfold Hid; rw [hW]
    have := Box.new ((w.alloc (.cells #[.int .i64 p, .slice A n c] 33)).alloc (.cells #[.int .i64 j, .int .i64 f, .int .i64 t] 53)) 33 #[.int .i64 0, .slice none 0 0]
    simp only [World.size_alloc] at this
    exact this
  have hWs : Hid (W.heap.size = w.heap.size + 3) := by unfold Hid; rw [hW]; simp
  have HB0 : Hid (Below w.heap.size w W) := by unfold Hid; rw [hW]; exact (((Below.refl _ _).alloc (Nat.le_refl _) _).alloc (by simp) _).alloc (by simp; omega) _
  have hI0 := Lib.hid (hI.below HB0.out)
  obtain ⟨s0, s1, m0, m1, m2⟩ := cells23 X0.out Y0.out
  have HW := Lib.hid hW
  clear hW hL hI
  have hz0 : w.heap.size + 2 < W.heap.size := by rw [hWs.out]; omega
  go_enter Try.func48, Try.ntmps48
  go_wp2_with fail
  rw [← HW.out]
  refine (copyOfState_calls A n c p L _ HL.out hn hI0.out).mono ?_
  rintro e w1 ⟨A', c', rfl, hcc, hcm, hO1, hb1⟩
  have z1 : W.heap.size ≤ w1.heap.size := Below.size hb1
  have F1 := Lib.hid (Box.new w1 33 #[.int .i64 p, .slice A' n c'])
  have F2 := Lib.hid ((hO1.below ((Below.refl _ w1).alloc (Nat.le_refl _) (.cells #[.int .i64 p, .slice A' n c'] 33))).mono (B' := w.heap.size + 3) (by rw [← hWs.out]; exact Nat.le_refl _))
  have F3 := Lib.hid ((Box.below Y0.out hb1 (Box.lt Y0.out)).alloc (.cells #[.int .i64 p, .slice A' n c'] 33))
  have F4 := Lib.hid ((Box.below R0.out hb1 (Box.lt R0.out)).alloc (.cells #[.int .i64 p, .slice A' n c'] 33))
  have F5 := Lib.hid ((HB0.out.trans (hb1.mono (HB0.out.size))).alloc (Nat.le_trans HB0.out.size z1) (.cells #[.int .i64 p, .slice A' n c'] 33))
  have F6 : Hid (w.heap.size + 3 ≤ w1.heap.size) := by unfold Hid; have := hWs.out; omega
  obtain ⟨g1, rfl⟩ : ∃ g1, A' = some ⟨g1, 0, none⟩ := by
    rcases hO1.form with ⟨_, h, _⟩ | ⟨g1, h, _⟩
    · omega
    · exact ⟨g1, h⟩
  clear hb1 hO1 s0 s1 m0 m1 m2
  go_upto_region 2 with (fail)
  generalize hwz : w1.alloc (.cells #[.int .i64 p, .slice (some ⟨g1, 0, none⟩) n c'] 33) = wz at *
  clear hwz
  generalize w1.heap.size = g5 at *
  obtain ⟨q0, q1, _, _⟩ := F1.out.two
  obtain ⟨m0, m1, m2⟩ := F3.out.three
  obtain ⟨r0, r1, rf0, rf1⟩ := F4.out.two
  have hne1 : ¬ g1 = g5 := F2.out.ne_box F1.out (by decide)
  have hne2 : ¬ g5 = g1 := fun e => hne1 e.symm
  have hne3 : ¬ g1 = w.heap.size + 1 + 1 := F2.out.ne_box F4.out (by decide)
  have hne4 : ¬ w.heap.size + 1 + 1 = g1 := fun e => hne3 e.symm
  have hne5 : ¬ g5 = w.heap.size + 1 + 1 := by have := F6.out; omega
  have hne6 : ¬ w.heap.size + 1 + 1 = g5 := fun e => hne5 e.symm
  have hcell : wz.cell? ⟨g1, j, none⟩ = some (.int .i64 (L.getD j 0)) := by
    rw [World.ownsRow.cellAt F2.out j (by omega), List.getElem?_map, List.getElem?_eq_getElem (by rw [HL.out]; exact hj), List.getD_eq_getElem?_getD, List.getElem?_eq_getElem (by rw [HL.out]; exact hj)]
    rfl
  have hfz := World.ownsRow.frozenAt F2.out j
  have hj0 : (0 : Int) ≤ (j : Int) := by omega
  have hj1 : (j : Int) < (n : Int) := by omega
  go_wp2
  have st := World.ownsRow.stored F2.out j (.int .i64 t)
  have hO : Own (w.heap.size + 3) (wz.setCell ⟨g1, j, none⟩ (.int .i64 t)) (some ⟨g1, 0, none⟩) n c' (L.set j t) := by
    have := st.1
    rw [← List.map_set] at this
    exact this
  have hR : Box (wz.setCell ⟨g1, j, none⟩ (.int .i64 t)) (w.heap.size + 1 + 1) 33 #[.int .i64 0, .slice none 0 0] := F4.out.other hne4 _
  refine bodyPost_ret (v := .agg #[.int .i64 p, .slice (some ⟨g1, 0, none⟩) n c']) (by simp [results, Try.results48, go_sem, r0, r1]) rfl ⟨_, c', rfl, ?_, ?_⟩
  · exact ((hO.setBoxed hR (by decide) _ _).setBoxed (hR.set _ _) (by decide) _ _).mono (by omega)
  · have hg1 : w.heap.size ≤ g1 := by
      rcases F2.out.form with ⟨h, _⟩ | ⟨g', h, h', _⟩
      · cases h
      · injection h with h
        injection h with h
        omega
    exact ((F5.out.setCell hg1 _).setCell (by simp; omega) _).setCell (by simp; omega) _

end Go.Proofs.Ytglilhnmgfkfhaa
