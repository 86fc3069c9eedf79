/- Contracts: copies of states, and the state after a legal move. · Contracts: the neighbours of a state. · Contracts: the state after a move. · Words for runs: the discs after so many moves. No program. · The way to a peg: each move is legal, the last leads there: no program. · The way to a peg, parted at the largest disc: no program. · Contracts: the code of one state and of two states of three pegs. · Contracts: the code of a state and a peg; the goals and the distance to a peg. -/
import Derived.Test.YtnbjnlgdolhlmaaPk1
import Derived.Test.YtnbjnlgdolhlmaaPk2
import Derived.Laws.CopyOwn
import Derived.Laws.AppendOwnNone
import Derived.Deep.RegionHeld3
import Derived.Deep.DeepCutAuto
import Derived.Deep.AppendLies
namespace Go.Proofs.Ytnbjnlgdolhlmaa
open Go.RowKit
set_option linter.unusedVariables false

theorem Try.sizeI : (Try.prog.info? 2).map (·.size) = some 1 := by kernel_rfl

/-- A list of integers has room. -/
theorem own_below {B : Nat} {w w1 : World} {A : Option Addr} {n c : Nat} {L : List Int} (h : Own B w A n c L) (hg : w.grownBy w1 (Value.slice A n c).ownBlock) {B0 : Nat} (hB : B0 ≤ B) (hs : B0 ≤ w.heap.size) : Below B0 w w1 :=
  (Below.refl B0 w).grown hg hs (fun k hk => Nat.le_trans hB (own_bk h k hk))

set_option maxHeartbeats 400000 in
theorem l01Own_calls (A : Option Addr) (n c : Nat) (L : List Int) (w : World) (hL : L.length = n) (hn : n ≤ 1048576) (hA : A = none → c = 0) (hI : Ints w A L) :
    Calls Try.prog 38 #[.slice A n c] w fun e w' => ∃ A' c', e = .returned (.slice A' n c') ∧ Own w.heap.size w' A' n c' L ∧ Below w.heap.size w w' := by
  obtain ⟨i0, hi, hz0, hz1, hz2⟩ := info_parts Try.infoI
  have HL : Hid (L.length = n) := hL
  have he : Own w.heap.size (w.alloc (.cells #[] 2)) (some ⟨w.heap.size, 0, none⟩) 0 0 [] := Own.emptyAt (Box.new _ _ _) (Nat.le_refl _)
  have HB0 := Lib.hid ((Below.refl w.heap.size w).alloc (Nat.le_refl _) (.cells #[] 2))
  have HI := Lib.hid (hI.below HB0.out)
  rcases A with _ | ad
  · obtain rfl := hA rfl
    have hn0 : n = 0 := by
      rcases Nat.eq_zero_or_pos n with h | h
      · exact h
      · obtain ⟨_, h1, _⟩ := hI 0 (by omega)
        cases h1
    subst hn0
    obtain rfl : L = [] := List.eq_nil_of_length_eq_zero hL
    clear hL hI
    go_enter Try.func38, Try.ntmps38
    go_wp2_with (at_builtin; refine wpList_append_own_none rfl _ _ 24 rfl w.heap.size 2 i0 1 Try.underlying24 hi _ _ _ rfl he rfl ?_)
    go_ret
    exact ⟨_, _, rfl, he, HB0.out⟩
  · clear hL hI hA
    go_enter Try.func38, Try.ntmps38
    go_wp2_with (at_builtin; refine wpList_append_own _ rfl _ _ 24 rfl w.heap.size 2 i0 (.int .i64 0) 1 8 Try.underlying24 hi hz0 hz1 hz2 rfl (by decide) _ _ _ rfl he ad n c (L.map (Value.int .i64)) rfl (by simp [HL.out]) (HI.out.news) (ints_oneCell _ _) (by unfold maxLen; omega) (by omega) (by simp) ?_; intro v' w1 hown' hgrow _; obtain ⟨A', c', rfl⟩ := own_shape hown'; have HO := Lib.hid hown'; have HG := Lib.hid hgrow; clear hown' hgrow)
    go_ret
    refine ⟨A', c', by simp, ?_, ?_⟩
    · have := HO.out
      unfold Own
      simpa using this
    · exact HB0.out.trans (own_below he HG.out (Nat.le_refl _) (by simp))

set_option maxHeartbeats 400000 in
theorem copyOfState_calls (A : Option Addr) (n c : Nat) (p : Int) (L : List Int) (w : World) (hL : L.length = n) (hn : n ≤ 1048576) (hI : Ints w A L) :
    Calls Try.prog 61 #[.agg #[.int .i64 p, .slice A n c]] w fun e w' => ∃ A' c', e = .returned (.agg #[.int .i64 p, .slice A' n c']) ∧ n ≤ c' ∧ c' ≤ 1048576 ∧ Own w.heap.size w' A' n c' L ∧ Below w.heap.size w w' := by
  have hmk := run_make_row' (P := Try.prog) 24 2 (.int .i64 0) 8 Try.underlying24 Try.infoI rfl .i64 .i64 n (by omega) (by omega)
  have HL : Hid (L.length = n) := hL
  clear hL
  obtain ⟨Z, HZ⟩ : ∃ Z : List Value, Hid (Z = List.replicate n (Value.int .i64 0)) := ⟨_, rfl⟩
  have hmc : madeCells #[Value.int .i64 0] n = Z.toArray := by
    apply Array.ext'
    rw [toList_madeCells_one, HZ.out]
  rw [hmc] at hmk
  have hzl : Hid (Z.length = n) := by unfold Hid; rw [HZ.out]; simp
  have HG : Hid ((((w.alloc (.cells #[.int .i64 p, .slice A n c] 26)).alloc (.cells #[.int .i64 0, .slice none 0 0] 26)).alloc (.cells Z.toArray 2)).heap[w.heap.size + 1 + 1]? = some (.cells Z.toArray 2 (0, 0))) := by
    have := Box.new ((w.alloc (.cells #[.int .i64 p, .slice A n c] 26)).alloc (.cells #[.int .i64 0, .slice none 0 0] 26)) 2 Z.toArray
    simp only [World.size_alloc] at this
    exact this
  have HB : Hid (Below w.heap.size w (((w.alloc (.cells #[.int .i64 p, .slice A n c] 26)).alloc (.cells #[.int .i64 0, .slice none 0 0] 26)).alloc (.cells Z.toArray 2))) := (((Below.refl _ _).alloc (Nat.le_refl _) _).alloc (by simp) _).alloc (by simp; omega) _
  have HBX : Hid (Box (((w.alloc (.cells #[.int .i64 p, .slice A n c] 26)).alloc (.cells #[.int .i64 0, .slice none 0 0] 26)).alloc (.cells Z.toArray 2)) w.heap.size 26 #[.int .i64 p, .slice A n c]) := ((Box.new _ _ _).alloc _).alloc _
  have HBR : Hid (Box (((w.alloc (.cells #[.int .i64 p, .slice A n c] 26)).alloc (.cells #[.int .i64 0, .slice none 0 0] 26)).alloc (.cells Z.toArray 2)) (w.heap.size + 1) 26 #[.int .i64 0, .slice none 0 0]) := by
    have := Box.new (w.alloc (.cells #[.int .i64 p, .slice A n c] 26)) 26 #[.int .i64 0, .slice none 0 0]
    rw [World.size_alloc] at this
    exact this.alloc _
  have HPOS : Hid (0 < (L.map (Value.int .i64)).length → (some (⟨w.heap.size + 1 + 1, 0, none⟩ : Addr)) = some ⟨w.heap.size + 1 + 1, 0, none⟩ ∧ ∃ ad, A = some ad ∧ ∀ j v, (L.map (Value.int .i64))[j]? = some v → (((w.alloc (.cells #[.int .i64 p, .slice A n c] 26)).alloc (.cells #[.int .i64 0, .slice none 0 0] 26)).alloc (.cells Z.toArray 2)).cell? (ad.add j) = some v) := by
    intro h
    refine ⟨rfl, ?_⟩
    obtain ⟨ad, rfl, _⟩ := hI 0 (by simpa using h)
    exact ⟨ad, rfl, (hI.below HB.out).news⟩
  have HS : Hid ((L.map (Value.int .i64)).length = Nat.min n n) := by unfold Hid; simp [HL.out]
  have HF : Hid (0 + (L.map (Value.int .i64)).length ≤ Z.length) := by unfold Hid; rw [hzl.out]; simp [HL.out]
  have HSP : Hid (splice Z 0 (L.map (Value.int .i64)) = L.map (Value.int .i64)) := by unfold Hid splice; rw [List.drop_of_length_le (by rw [hzl.out]; simp [HL.out])]; simp
  have HBI := Lib.hid (hI.below HB.out)
  clear hI hmc
  go_enter Try.func61, Try.ntmps61
  go_wp2_with (with_reducible refine wpList_copy_splice rfl (.tmp 8) (.tmp 10) 24 24 rfl 2 Try.underlying24 Try.sizeI (some ⟨w.heap.size + 1 + 1, 0, none⟩) A n n n c rfl rfl (w.heap.size + 1 + 1) 0 Z 2 HG.out (L.map (Value.int .i64)) HS.out HPOS.out HF.out (ints_oneCell _ _) (w.heap.size + 1 + 1) _ (Below.refl _ _) (Nat.le_refl _) ?_; intro w1 hg1 hb1; have HX1 := Lib.hid (Box.below HBX.out hb1 (by omega)); have HR1 := Lib.hid (Box.below HBR.out hb1 (by omega)); have HB1 := Lib.hid (HB.out.trans (hb1.mono (by omega))); clear hb1; obtain ⟨x0, x1, _, _⟩ := HX1.out.two; obtain ⟨r0, r1, _, _⟩ := HR1.out.two; obtain ⟨_, _, fr0, fr1⟩ := HR1.out.two)
  have hgo : Box w1 (w.heap.size + 1 + 1) 2 (L.map (Value.int .i64)).toArray := by have := hg1.out; rw [HSP.out] at this; exact this
  have hown : Own w.heap.size w1 (some ⟨w.heap.size + 1 + 1, 0, none⟩) n n L :=
    ⟨by simp [HL.out], .inr ⟨_, n, _, rfl, by omega, hgo, Nat.le_refl _, by unfold maxLen; omega, by simp [HL.out], by rw [List.take_of_length_le (by simp [HL.out])]⟩⟩
  refine bodyPost_ret (v := .agg #[.int .i64 p, .slice (some ⟨w.heap.size + 1 + 1, 0, none⟩) n n]) (by simp [results, Try.results61, go_sem, r0, r1]) rfl ⟨_, n, rfl, Nat.le_refl _, hn, ?_, ?_⟩
  · exact (hown.setBoxed HR1.out (by decide) _ _).setBoxed (HR1.out.set _ _) (by decide) _ _
  · exact (HB1.out.setCell (by simp) _).setCell (by simp) _

set_option maxHeartbeats 2000000 in
theorem afterMove_calls (A : Option Addr) (n c : Nat) (p : Int) (L : List Int) (j : Nat) (f t : Int) (w : World) (hL : L.length = n) (hn : n ≤ 1048576) (hj : j < n) (hI : Ints w A L) :
    Calls Try.prog 45 #[.agg #[.int .i64 p, .slice A n c], .agg #[.int .i64 j, .int .i64 f, .int .i64 t]] w fun e w' => ∃ A' c', e = .returned (.agg #[.int .i64 p, .slice A' n c']) ∧ Own w.heap.size w' A' n c' (L.set j t) ∧ Below w.heap.size w w' := by
  have HL : Hid (L.length = n) := hL
  have hW : ∃ W, W = (((w.alloc (.cells #[.int .i64 p, .slice A n c] 26)).alloc (.cells #[.int .i64 j, .int .i64 f, .int .i64 t] 39)).alloc (.cells #[.int .i64 0, .slice none 0 0] 26)) := ⟨_, rfl⟩
  obtain ⟨W, hW⟩ := hW
  have X0 : Hid (Box W w.heap.size 26 #[.int .i64 p, .slice A n c]) := by unfold Hid; rw [hW]; exact ((Box.new _ _ _).alloc _).alloc _
  have Y0 : Hid (Box W (w.heap.size + 1) 39 #[.int .i64 j, .int .i64 f, .int .i64 t]) := by
    unfold Hid; rw [hW]
    have := Box.new (w.alloc (.cells #[.int .i64 p, .slice A n c] 26)) 39 #[.int .i64 j, .int .i64 f, .int .i64 t]
    rw [World.size_alloc] at this
    exact this.alloc _
  have R0 : Hid (Box W (w.heap.size + 1 + 1) 26 #[.int .i64 0, .slice none 0 0]) := by
    unfold Hid; rw [hW]
    have := Box.new ((w.alloc (.cells #[.int .i64 p, .slice A n c] 26)).alloc (.cells #[.int .i64 j, .int .i64 f, .int .i64 t] 39)) 26 #[.int .i64 0, .slice none 0 0]
    simp only [World.size_alloc] at this
    exact this
  have hWs : Hid (W.heap.size = w.heap.size + 3) := by unfold Hid; rw [hW]; simp
  have HB0 : Hid (Below w.heap.size w W) := by unfold Hid; rw [hW]; exact (((Below.refl _ _).alloc (Nat.le_refl _) _).alloc (by simp) _).alloc (by simp; omega) _
  have hI0 := Lib.hid (hI.below HB0.out)
  obtain ⟨s0, s1, m0, m1, m2⟩ := cells23 X0.out Y0.out
  have HW := Lib.hid hW
  clear hW hL hI
  have hz0 : w.heap.size + 2 < W.heap.size := by rw [hWs.out]; omega
  go_enter Try.func45, Try.ntmps45
  go_wp2_with fail
  rw [← HW.out]
  refine (copyOfState_calls A n c p L _ HL.out hn hI0.out).mono ?_
  rintro e w1 ⟨A', c', rfl, hcc, hcm, hO1, hb1⟩
  have z1 : W.heap.size ≤ w1.heap.size := Below.size hb1
  have F1 := Lib.hid (Box.new w1 26 #[.int .i64 p, .slice A' n c'])
  have F2 := Lib.hid ((hO1.below ((Below.refl _ w1).alloc (Nat.le_refl _) (.cells #[.int .i64 p, .slice A' n c'] 26))).mono (B' := w.heap.size + 3) (by rw [← hWs.out]; exact Nat.le_refl _))
  have F3 := Lib.hid ((Box.below Y0.out hb1 (Box.lt Y0.out)).alloc (.cells #[.int .i64 p, .slice A' n c'] 26))
  have F4 := Lib.hid ((Box.below R0.out hb1 (Box.lt R0.out)).alloc (.cells #[.int .i64 p, .slice A' n c'] 26))
  have F5 := Lib.hid ((HB0.out.trans (hb1.mono (HB0.out.size))).alloc (Nat.le_trans HB0.out.size z1) (.cells #[.int .i64 p, .slice A' n c'] 26))
  have F6 : Hid (w.heap.size + 3 ≤ w1.heap.size) := by unfold Hid; have := hWs.out; omega
  obtain ⟨g1, rfl⟩ : ∃ g1, A' = some ⟨g1, 0, none⟩ := by
    rcases hO1.form with ⟨_, h, _⟩ | ⟨g1, h, _⟩
    · omega
    · exact ⟨g1, h⟩
  clear hb1 hO1 s0 s1 m0 m1 m2
  go_upto_region 2 with (fail)
  generalize hwz : w1.alloc (.cells #[.int .i64 p, .slice (some ⟨g1, 0, none⟩) n c'] 26) = wz at *
  clear hwz
  generalize w1.heap.size = g5 at *
  obtain ⟨q0, q1, _, _⟩ := F1.out.two
  obtain ⟨m0, m1, m2⟩ := F3.out.three
  obtain ⟨r0, r1, rf0, rf1⟩ := F4.out.two
  have hne1 : ¬ g1 = g5 := F2.out.ne_box F1.out (by decide)
  have hne2 : ¬ g5 = g1 := fun e => hne1 e.symm
  have hne3 : ¬ g1 = w.heap.size + 1 + 1 := F2.out.ne_box F4.out (by decide)
  have hne4 : ¬ w.heap.size + 1 + 1 = g1 := fun e => hne3 e.symm
  have hne5 : ¬ g5 = w.heap.size + 1 + 1 := by have := F6.out; omega
  have hne6 : ¬ w.heap.size + 1 + 1 = g5 := fun e => hne5 e.symm
  have hcell : wz.cell? ⟨g1, j, none⟩ = some (.int .i64 (L.getD j 0)) := by
    rw [World.ownsRow.cellAt F2.out j (by omega), List.getElem?_map, List.getElem?_eq_getElem (by rw [HL.out]; exact hj), List.getD_eq_getElem?_getD, List.getElem?_eq_getElem (by rw [HL.out]; exact hj)]
    rfl
  have hfz := World.ownsRow.frozenAt F2.out j
  have hj0 : (0 : Int) ≤ (j : Int) := by omega
  have hj1 : (j : Int) < (n : Int) := by omega
  go_wp2
  have st := World.ownsRow.stored F2.out j (.int .i64 t)
  have hO : Own (w.heap.size + 3) (wz.setCell ⟨g1, j, none⟩ (.int .i64 t)) (some ⟨g1, 0, none⟩) n c' (L.set j t) := by
    have := st.1
    rw [← List.map_set] at this
    exact this
  have hR : Box (wz.setCell ⟨g1, j, none⟩ (.int .i64 t)) (w.heap.size + 1 + 1) 26 #[.int .i64 0, .slice none 0 0] := F4.out.other hne4 _
  refine bodyPost_ret (v := .agg #[.int .i64 p, .slice (some ⟨g1, 0, none⟩) n c']) (by simp [results, Try.results45, go_sem, r0, r1]) rfl ⟨_, c', rfl, ?_, ?_⟩
  · exact ((hO.setBoxed hR (by decide) _ _).setBoxed (hR.set _ _) (by decide) _ _).mono (by omega)
  · have hg1 : w.heap.size ≤ g1 := by
      rcases F2.out.form with ⟨h, _⟩ | ⟨g', h, h', _⟩
      · cases h
      · injection h with h
        injection h with h
        omega
    exact ((F5.out.setCell hg1 _).setCell (by simp; omega) _).setCell (by simp; omega) _

end Go.Proofs.Ytnbjnlgdolhlmaa

namespace Go.Proofs.Ytnbjnlgdolhlmaa
open Go.RowKit Go.Shelf
set_option linter.unusedVariables false
attribute [local go_sem] Oper.semAt_some

theorem Try.infoSt : (Try.prog.info? 26).map (fun i => (i.zero, i.size, i.bytes)) = some (some (.agg #[.int .i64 0, .slice none 0 0]), 2, 32) := by kernel_rfl

/-- The states behind moves. -/
def nbF (p : Int) (L : List Int) (M : List Mv) : List (Int × List Int) := M.map (fun m => (p, L.set m.1.toNat m.2.2))
theorem nbF_snoc (p : Int) (L : List Int) (M : List Mv) (m : Mv) : nbF p L (M ++ [m]) = nbF p L M ++ [(p, L.set m.1.toNat m.2.2)] := by simp [nbF]
def nbV (p : Int) (L : List Int) : List (Int × List Int) := if stateB p L = true then nbF p L (movesL p L) else []
theorem nb_yes {p : Int} {L : List Int} (h : stateB p L = true) : nbV p L = nbF p L (movesL p L) ∧ codeS p L = 0 := ⟨by unfold nbV; rw [if_pos h], codeS_yes h⟩
theorem nb_no {p : Int} {L : List Int} (h : stateB p L = false) : nbV p L = [] ∧ codeS p L = 1 := ⟨by unfold nbV; rw [h]; rfl, codeS_no h⟩
theorem sum_le_mul : ∀ (l : List Nat) (b : Nat), (∀ x ∈ l, x ≤ b) → l.sum ≤ l.length * b
  | [], b, _ => by simp
  | x :: t, b, hl => by
    have h1 := hl x List.mem_cons_self
    have h2 := sum_le_mul t b (fun y hy => hl y (List.mem_cons_of_mem _ hy))
    rw [List.sum_cons, List.length_cons, Nat.add_mul]
    omega
theorem nbV_small (p : Int) (L : List Int) : ((nbV p L).map (fun x => x.2.length + 1)).sum ≤ 1048576 := by
  by_cases h : stateB p L = true
  · obtain ⟨h3, h5, h8, _⟩ := state_facts h rfl
    have h1 := sum_le_mul ((nbV p L).map (fun x => x.2.length + 1)) 9 (fun x hx => by
      obtain ⟨l, hl, rfl⟩ := List.mem_map.1 hx
      rw [(nb_yes h).1] at hl
      unfold nbF at hl
      obtain ⟨m, _, rfl⟩ := List.mem_map.1 hl
      simp only [List.length_set]
      omega)
    have h2 := movesL_len h
    rw [(nb_yes h).1] at h1 ⊢
    simp only [List.length_map, nbF] at h1 ⊢
    omega
  · rw [(nb_no (by simpa using h)).1]; simp
theorem mv_disc {p : Int} {L : List Int} {x : Mv} (h : x ∈ movesL p L) : ∃ j : Nat, x.1 = (j : Int) ∧ j < L.length := by
  have h1 := movesTo_legal (p := p) (L := L) L.length x h
  unfold legalB at h1
  simp only [Bool.and_eq_true, decide_eq_true_iff] at h1
  obtain ⟨j, hj⟩ := Int.eq_ofNat_of_zero_le h1.1.1
  exact ⟨j, hj, by have := h1.1.2.1; omega⟩

end Go.Proofs.Ytnbjnlgdolhlmaa

namespace Go.Proofs.Ytnbjnlgdolhlmaa
open Go.RowKit
set_option linter.unusedVariables false

/-- What AfterMove answers. -/
def aftB (p : Int) (L : List Int) (d f t : Int) : Bool := stateB p L && legalB p L d f t
def aftP (p : Int) (L : List Int) (d f t : Int) : Int := if aftB p L d f t = true then p else 0
def aftL (p : Int) (L : List Int) (d f t : Int) : List Int := if aftB p L d f t = true then L.set d.toNat t else []
def aftE (p : Int) (L : List Int) (d f t : Int) : Int := if stateB p L = true then (if legalB p L d f t = true then 0 else 5) else 1
theorem aft_yes {p : Int} {L : List Int} {d f t : Int} (h : stateB p L = true) (h' : legalB p L d f t = true) : aftP p L d f t = p ∧ aftL p L d f t = L.set d.toNat t ∧ aftE p L d f t = 0 := by unfold aftP aftL aftE aftB; simp [h, h']
theorem aft_no2 {p : Int} {L : List Int} {d f t : Int} (h : stateB p L = true) (h' : legalB p L d f t = false) : aftP p L d f t = 0 ∧ aftL p L d f t = [] ∧ aftE p L d f t = 5 := by unfold aftP aftL aftE aftB; simp [h, h']
theorem aft_no1 {p : Int} {L : List Int} {d f t : Int} (h : stateB p L = false) : aftP p L d f t = 0 ∧ aftL p L d f t = [] ∧ aftE p L d f t = 1 := by unfold aftP aftL aftE aftB; simp [h]
theorem legal_d {p : Int} {L : List Int} {d f t : Int} (h : legalB p L d f t = true) : 0 ≤ d ∧ d < L.length := by
  unfold legalB at h
  simp only [Bool.and_eq_true, decide_eq_true_iff] at h
  exact ⟨h.1.1, h.1.2.1⟩

set_option maxHeartbeats 1000000 in
theorem implAfterMove_ret (A : Option Addr) (n c : Nat) (p : Int) (L : List Int) (d f t : Int) (w : World) (hL : L.length = n) (hn : n ≤ 1048576) (hI : Ints w A L) (hcap : n ≤ c) (hc : c ≤ 9223372036854775807) :
    Calls Try.prog 22 #[.agg #[.int .i64 p, .slice A n c], .agg #[.int .i64 d, .int .i64 f, .int .i64 t]] w (RetState w (aftP p L d f t) (aftL p L d f t).length (aftL p L d f t) (aftE p L d f t)) := by
  have HL : Hid (L.length = n) := hL
  have hW : ∃ W, W = (((w.alloc (.cells #[.int .i64 p, .slice A n c] 26)).alloc (.cells #[.int .i64 d, .int .i64 f, .int .i64 t] 39)).alloc (.cells #[.int .i64 0, .slice none 0 0] 26)) := ⟨_, rfl⟩
  obtain ⟨W, hW⟩ := hW
  have X0 : Hid (Box W w.heap.size 26 #[.int .i64 p, .slice A n c]) := by unfold Hid; rw [hW]; exact ((Box.new _ _ _).alloc _).alloc _
  have Y0 : Hid (Box W (w.heap.size + 1) 39 #[.int .i64 d, .int .i64 f, .int .i64 t]) := by
    unfold Hid; rw [hW]
    have := Box.new (w.alloc (.cells #[.int .i64 p, .slice A n c] 26)) 39 #[.int .i64 d, .int .i64 f, .int .i64 t]
    rw [World.size_alloc] at this
    exact this.alloc _
  have R0 : Hid (Box W (w.heap.size + 1 + 1) 26 #[.int .i64 0, .slice none 0 0]) := by
    unfold Hid; rw [hW]
    have := Box.new ((w.alloc (.cells #[.int .i64 p, .slice A n c] 26)).alloc (.cells #[.int .i64 d, .int .i64 f, .int .i64 t] 39)) 26 #[.int .i64 0, .slice none 0 0]
    simp only [World.size_alloc] at this
    exact this
  have hWs : Hid (W.heap.size = w.heap.size + 3) := by unfold Hid; rw [hW]; simp
  have HB0 : Hid (Below w.heap.size w W) := by unfold Hid; rw [hW]; exact (((Below.refl _ _).alloc (Nat.le_refl _) _).alloc (by simp) _).alloc (by simp; omega) _
  have hI0 := Lib.hid (hI.below HB0.out)
  obtain ⟨s0, s1, m0, m1, m2⟩ := cells23 X0.out Y0.out
  have HW := Lib.hid hW
  clear hW hL hI
  have hz0 : w.heap.size + 2 < W.heap.size := by rw [hWs.out]; omega
  by_cases hs : stateB p L = true
  · by_cases hl : legalB p L d f t = true
    · obtain ⟨q1, q2, q3⟩ := aft_yes hs hl
      rw [q1, q2, q3, List.length_set, HL.out]
      have hld := legal_d hl
      rw [HL.out] at hld
      obtain ⟨j, rfl⟩ := Int.eq_ofNat_of_zero_le hld.1
      rw [Int.toNat_natCast]
      clear q1 q2 q3
      go_enter Try.func22, Try.ntmps22
      go_wp2_with fail
      rw [← HW.out]
      refine (implIsState_calls A n c p L _ HL.out hn hI0.out).mono ?_
      rintro e w1 ⟨rfl, hb1⟩
      have X1 := Lib.hid (X0.out.below hb1 X0.out.lt)
      have Y1 := Lib.hid (Y0.out.below hb1 Y0.out.lt)
      have R1 := Lib.hid (R0.out.below hb1 R0.out.lt)
      have HB1 := Lib.hid (HB0.out.trans (hb1.mono HB0.out.size))
      have hI1 := Lib.hid (hI0.out.below hb1)
      have u1 := hb1.size
      clear hb1 s0 s1 m0 m1 m2
      obtain ⟨s0, s1, m0, m1, m2⟩ := cells23 X1.out Y1.out
      go_wp2_with fail
      refine (isLegalMove_calls A n c p L j f t _ HL.out hcap (by omega) hI1.out hs).mono ?_
      rintro e w2 ⟨rfl, hb2⟩
      have X2 := Lib.hid (X1.out.below hb2 X1.out.lt)
      have Y2 := Lib.hid (Y1.out.below hb2 Y1.out.lt)
      have R2 := Lib.hid (R1.out.below hb2 R1.out.lt)
      have HB2 := Lib.hid (HB1.out.trans (hb2.mono HB1.out.size))
      have hI2 := Lib.hid (hI1.out.below hb2)
      have u2 := hb2.size
      clear hb2 s0 s1 m0 m1 m2
      obtain ⟨s0, s1, m0, m1, m2⟩ := cells23 X2.out Y2.out
      go_wp2_with fail
      refine (afterMove_calls A n c p L j f t _ HL.out hn (by omega) hI2.out).mono ?_
      rintro e w3 ⟨A', c', rfl, hO, hb3⟩
      have R3 := Lib.hid (R2.out.below hb3 R2.out.lt)
      have HB3 := Lib.hid (HB2.out.trans (hb3.mono HB2.out.size))
      have HO := Lib.hid hO
      clear hb3 hO s0 s1 m0 m1 m2
      obtain ⟨r0, r1, _, _⟩ := R3.out.two
      go_wp2
      refine bodyPost_ret (v := .tuple #[.agg #[.int .i64 p, .slice A' n c'], .int .i64 0]) (by simp [results, Try.results22, go_sem, r0, r1]) rfl ⟨A', c', rfl, ?_, ?_⟩
      · exact ((HO.out.mono (B' := w.heap.size) (HB2.out.size)).setBoxed R3.out (by decide) _ _).setBoxed (R3.out.set _ _) (by decide) _ _
      · exact (HB3.out.setCell (by simp; omega) _).setCell (by simp; omega) _
    · have hl' : legalB p L d f t = false := by simpa using hl
      obtain ⟨q1, q2, q3⟩ := aft_no2 hs hl'
      rw [q1, q2, q3]
      clear q1 q2 q3 hl
      go_enter Try.func22, Try.ntmps22
      go_wp2_with fail
      rw [← HW.out]
      refine (implIsState_calls A n c p L _ HL.out hn hI0.out).mono ?_
      rintro e w1 ⟨rfl, hb1⟩
      have X1 := Lib.hid (X0.out.below hb1 X0.out.lt)
      have Y1 := Lib.hid (Y0.out.below hb1 Y0.out.lt)
      have R1 := Lib.hid (R0.out.below hb1 R0.out.lt)
      have HB1 := Lib.hid (HB0.out.trans (hb1.mono HB0.out.size))
      have hI1 := Lib.hid (hI0.out.below hb1)
      clear hb1 s0 s1 m0 m1 m2
      obtain ⟨s0, s1, m0, m1, m2⟩ := cells23 X1.out Y1.out
      go_wp2_with fail
      refine (isLegalMove_calls A n c p L d f t _ HL.out hcap (by omega) hI1.out hs).mono ?_
      rintro e w2 ⟨rfl, hb2⟩
      have R2 := Lib.hid (R1.out.below hb2 R1.out.lt)
      have HB2 := Lib.hid (HB1.out.trans (hb2.mono HB1.out.size))
      clear hb2 s0 s1 m0 m1 m2
      obtain ⟨r0, r1, _, _⟩ := R2.out.two
      go_wp2
      refine bodyPost_ret (v := .tuple #[.agg #[.int .i64 0, .slice none 0 0], .int .i64 5]) (by simp [results, Try.results22, go_sem, r0, r1]) rfl ⟨none, 0, rfl, Own.nilS _ _, ?_⟩
      first | exact HB2.out | exact (HB2.out.setCell (by simp; omega) _).setCell (by simp; omega) _
  · have hs' : stateB p L = false := by simpa using hs
    obtain ⟨q1, q2, q3⟩ := aft_no1 (d := d) (f := f) (t := t) hs'
    rw [q1, q2, q3]
    clear q1 q2 q3 hs
    go_enter Try.func22, Try.ntmps22
    go_wp2_with fail
    rw [← HW.out]
    refine (implIsState_calls A n c p L _ HL.out hn hI0.out).mono ?_
    rintro e w1 ⟨rfl, hb1⟩
    have R1 := Lib.hid (R0.out.below hb1 R0.out.lt)
    have HB1 := Lib.hid (HB0.out.trans (hb1.mono HB0.out.size))
    clear hb1 s0 s1 m0 m1 m2
    obtain ⟨r0, r1, _, _⟩ := R1.out.two
    go_wp2
    refine bodyPost_ret (v := .tuple #[.agg #[.int .i64 0, .slice none 0 0], .int .i64 1]) (by simp [results, Try.results22, go_sem, r0, r1]) rfl ⟨none, 0, rfl, Own.nilS _ _, ?_⟩
    first | exact HB1.out | exact (HB1.out.setCell (by simp; omega) _).setCell (by simp; omega) _

end Go.Proofs.Ytnbjnlgdolhlmaa

namespace Go.Proofs.Ytnbjnlgdolhlmaa
open Go.RowKit
set_option linter.unusedVariables false

def mvAt (M : List Mv) (k : Nat) : Mv := M[k]?.getD (0, 0, 0)
/-- The discs after so many moves. -/
def stA (L : List Int) (M : List Mv) : Nat → List Int
  | 0 => L
  | k + 1 => (stA L M k).set (mvAt M k).1.toNat (mvAt M k).2.2
/-- So many moves are legal, one after the other. -/
def okA (p : Int) (L : List Int) (M : List Mv) : Nat → Bool
  | 0 => true
  | k + 1 => okA p L M k && legalB p (stA L M k) (mvAt M k).1 (mvAt M k).2.1 (mvAt M k).2.2
theorem stA_len (L : List Int) (M : List Mv) : ∀ k, (stA L M k).length = L.length
  | 0 => rfl
  | k + 1 => by show ((stA L M k).set _ _).length = _; rw [List.length_set, stA_len L M k]
theorem okA_le {p : Int} {L : List Int} {M : List Mv} {k : Nat} (h : okA p L M k = false) : ∀ m, k ≤ m → okA p L M m = false
  | 0, hm => by rw [show k = 0 by omega] at h; exact h
  | m + 1, hm => by
    by_cases e : k = m + 1
    · rw [← e]; exact h
    · show (okA p L M m && _) = false
      rw [okA_le h m (by omega)]; rfl
theorem state_set {p : Int} {L : List Int} {d f t : Int} (h : stateB p L = true) (hl : legalB p L d f t = true) : stateB p (L.set d.toNat t) = true := by
  unfold legalB at hl
  simp only [Bool.and_eq_true, decide_eq_true_iff] at hl
  refine stateB_yes (by rw [List.length_set]; exact stateB_fits h) ?_
  intro i hi
  rw [List.length_set] at hi
  have hm := stateB_mem h
  rw [List.getD_eq_getElem?_getD, List.getElem?_set]
  by_cases e : d.toNat = i
  · rw [if_pos e, if_pos (by omega), Option.getD_some]
    unfold inB
    rw [decide_eq_true_iff]
    omega
  · rw [if_neg e, List.getElem?_eq_getElem hi, Option.getD_some]
    have := hm _ (List.getElem_mem hi)
    unfold inB
    rw [decide_eq_true_iff]
    omega
theorem stA_state {p : Int} {L : List Int} {M : List Mv} (h : stateB p L = true) : ∀ k, okA p L M k = true → stateB p (stA L M k) = true
  | 0, _ => h
  | k + 1, ho => by
    have ho' : (okA p L M k && legalB p (stA L M k) (mvAt M k).1 (mvAt M k).2.1 (mvAt M k).2.2) = true := ho
    rw [Bool.and_eq_true] at ho'
    exact state_set (stA_state h k ho'.1) ho'.2
/-- The states of a run. -/
def runL (p : Int) (L : List Int) (M : List Mv) (k : Nat) : List (Int × List Int) := (List.range (k + 1)).map (fun j => (p, stA L M j))
theorem runL_succ (p : Int) (L : List Int) (M : List Mv) (k : Nat) : runL p L M (k + 1) = runL p L M k ++ [(p, stA L M (k + 1))] := by
  unfold runL
  rw [List.range_succ (n := k + 1), List.map_append]
  rfl
theorem runL_at (p : Int) (L : List Int) (M : List Mv) {k j : Nat} (h : j ≤ k) : (runL p L M k)[j]? = some (p, stA L M j) := by
  unfold runL
  rw [List.getElem?_map, List.getElem?_range (by omega)]
  rfl
def rsB (p : Int) (L : List Int) (M : List Mv) : Bool := stateB p L && (decide (M.length ≤ 6561) && okA p L M M.length)
def rsV (p : Int) (L : List Int) (M : List Mv) : List (Int × List Int) := if rsB p L M = true then runL p L M M.length else []
def rsC (p : Int) (L : List Int) (M : List Mv) : Int := if stateB p L = true then (if M.length ≤ 6561 then (if okA p L M M.length = true then 0 else 5) else 2) else 1
theorem rs_yes {p : Int} {L : List Int} {M : List Mv} (h : stateB p L = true) (h2 : M.length ≤ 6561) (h3 : okA p L M M.length = true) : rsV p L M = runL p L M M.length ∧ rsC p L M = 0 := by
  unfold rsV rsC rsB; simp [h, h2, h3]
theorem rs_no5 {p : Int} {L : List Int} {M : List Mv} (h : stateB p L = true) (h2 : M.length ≤ 6561) (h3 : okA p L M M.length = false) : rsV p L M = [] ∧ rsC p L M = 5 := by
  unfold rsV rsC rsB; simp [h, h2, h3]
theorem rs_no2 {p : Int} {L : List Int} {M : List Mv} (h : stateB p L = true) (h2 : ¬ M.length ≤ 6561) : rsV p L M = [] ∧ rsC p L M = 2 := by
  unfold rsV rsC rsB; simp [h, h2]
theorem rs_no1 {p : Int} {L : List Int} {M : List Mv} (h : stateB p L = false) : rsV p L M = [] ∧ rsC p L M = 1 := by
  unfold rsV rsC rsB; simp [h]
theorem rsV_small (p : Int) (L : List Int) (M : List Mv) : ((rsV p L M).map (fun x => x.2.length + 1)).sum ≤ 1048576 := by
  by_cases h : rsB p L M = true
  · have h' := h
    unfold rsB at h'
    simp only [Bool.and_eq_true, decide_eq_true_iff] at h'
    obtain ⟨h3, h5, h8, _⟩ := state_facts h'.1 rfl
    unfold rsV
    rw [if_pos h]
    have h1 := sum_le_mul ((runL p L M M.length).map (fun x => x.2.length + 1)) 9 (fun x hx => by
      obtain ⟨l, hl, rfl⟩ := List.mem_map.1 hx
      unfold runL at hl
      obtain ⟨j, _, rfl⟩ := List.mem_map.1 hl
      have := stA_len L M j
      simp only
      omega)
    have h2 : (runL p L M M.length).length = M.length + 1 := by unfold runL; simp
    rw [List.length_map, h2] at h1
    omega
  · unfold rsV
    rw [if_neg h]
    simp

end Go.Proofs.Ytnbjnlgdolhlmaa

namespace Go.Proofs.Ytnbjnlgdolhlmaa
open Go.RowKit
set_option linter.unusedVariables false

theorem mvW_free (a : Int) (ha : 0 ≤ a ∧ a ≤ 2) : ∀ L : List Int, pegsOk L → fdW L a < L.length → L[fdW L a]?.getD 0 ≠ (goalsL L a)[fdW L a]?.getD 0 ∧ (0 ≤ (goalsL L a)[fdW L a]?.getD 0 ∧ (goalsL L a)[fdW L a]?.getD 0 ≤ 2) ∧
    (∀ i, i < fdW L a → L[i]?.getD 0 ≠ L[fdW L a]?.getD 0 ∧ L[i]?.getD 0 ≠ (goalsL L a)[fdW L a]?.getD 0) ∧ aft L a ≠ L[fdW L a]?.getD 0 ∧ aft L a ≠ (goalsL L a)[fdW L a]?.getD 0
  | [], _, h => absurd h (by simp)
  | x :: r, hp, h => by
    obtain ⟨hx2, hr⟩ := pegsOk_cons hp
    have hb := aft_bd r a hr ha
    by_cases hx : x = aft r a
    · have e : fdW (x :: r) a = fdW r a + 1 := by rw [fdW, if_pos hx]
      have h' : fdW r a < r.length := by rw [e] at h; simpa using h
      obtain ⟨i1, i2, i3, i4, i5⟩ := mvW_free a ha r hr h'
      have ea : aft (x :: r) a = aft r a := by rw [aft, if_pos hx]
      have eg : goalsL (x :: r) a = aft r a :: goalsL r a := rfl
      rw [e, ea, eg, List.getElem?_cons_succ, List.getElem?_cons_succ]
      refine ⟨i1, i2, fun i hi => ?_, i4, i5⟩
      cases i with
      | zero =>
        show x ≠ _ ∧ x ≠ _
        rw [hx]
        exact ⟨i4, i5⟩
      | succ i =>
        rw [List.getElem?_cons_succ]
        exact i3 i (by omega)
    · have e : fdW (x :: r) a = 0 := by rw [fdW, if_neg hx]
      have ea : aft (x :: r) a = 3 - aft r a - x := by rw [aft, if_neg hx]
      rw [e, ea]
      show x ≠ aft r a ∧ (0 ≤ aft r a ∧ aft r a ≤ 2) ∧ (∀ i, i < 0 → _) ∧ 3 - aft r a - x ≠ x ∧ 3 - aft r a - x ≠ aft r a
      exact ⟨hx, hb, fun i hi => absurd hi (Nat.not_lt_zero i), by omega, by omega⟩
theorem mvW_legal {L : List Int} {a : Int} (hp : pegsOk L) (ha : 0 ≤ a ∧ a ≤ 2) (h : fdW L a < L.length) : legalB 3 L (mvW L a).1 (mvW L a).2.1 (mvW L a).2.2 = true := by
  obtain ⟨i1, i2, i3, _⟩ := mvW_free a ha L hp h
  refine legal_yes ⟨?_, ?_, i2.1, ?_, i1, ?_⟩ ?_
  · show (0 : Int) ≤ (fdW L a : Int); omega
  · show ((fdW L a : Nat) : Int) < L.length; omega
  · show (goalsL L a)[fdW L a]?.getD 0 < 3; omega
  · show L.getD ((fdW L a : Nat) : Int).toNat 0 = L[fdW L a]?.getD 0
    rw [Int.toNat_natCast, List.getD_eq_getElem?_getD]
  · intro i hi
    have hi' : i < fdW L a := by simpa [mvW] using hi
    rw [List.getD_eq_getElem?_getD]
    exact i3 i hi'
theorem mvAt_cons (m : Mv) (M : List Mv) (k : Nat) : mvAt (m :: M) (k + 1) = mvAt M k := by unfold mvAt; rw [List.getElem?_cons_succ]
theorem stA_cons (L : List Int) (m : Mv) (M : List Mv) : ∀ k, stA L (m :: M) (k + 1) = stA (L.set m.1.toNat m.2.2) M k
  | 0 => rfl
  | k + 1 => by
    show (stA L (m :: M) (k + 1)).set (mvAt (m :: M) (k + 1)).1.toNat (mvAt (m :: M) (k + 1)).2.2 = _
    rw [stA_cons L m M k, mvAt_cons]
    rfl
theorem okA_cons (p : Int) (L : List Int) (m : Mv) (M : List Mv) : ∀ k, okA p L (m :: M) (k + 1) = (legalB p L m.1 m.2.1 m.2.2 && okA p (L.set m.1.toNat m.2.2) M k)
  | 0 => by
    show (true && legalB p L m.1 m.2.1 m.2.2) = (legalB p L m.1 m.2.1 m.2.2 && true)
    rw [Bool.true_and, Bool.and_true]
  | k + 1 => by
    show (okA p L (m :: M) (k + 1) && legalB p (stA L (m :: M) (k + 1)) (mvAt (m :: M) (k + 1)).1 (mvAt (m :: M) (k + 1)).2.1 (mvAt (m :: M) (k + 1)).2.2) = _
    rw [okA_cons p L m M k, stA_cons, mvAt_cons, Bool.and_assoc]
    rfl
theorem fdW_there (a : Int) : ∀ L : List Int, fdW L a = L.length → aft L a = a ∧ L = List.replicate L.length a
  | [], _ => ⟨rfl, rfl⟩
  | x :: r, h => by
    by_cases hx : x = aft r a
    · have e : fdW (x :: r) a = fdW r a + 1 := by rw [fdW, if_pos hx]
      obtain ⟨i1, i2⟩ := fdW_there a r (by rw [e] at h; simpa using h)
      have ea : aft (x :: r) a = aft r a := by rw [aft, if_pos hx]
      refine ⟨by rw [ea, i1], ?_⟩
      rw [List.length_cons, List.replicate_succ, ← i2, hx, i1]
    · have e : fdW (x :: r) a = 0 := by rw [fdW, if_neg hx]
      rw [e] at h
      simp at h
/-- The way is legal, and leads to the peg. -/
theorem way_run (a : Int) (ha : 0 ≤ a ∧ a ≤ 2) : ∀ (n : Nat) (L : List Int), (distP L a).toNat = n → pegsOk L → okA 3 L (wayL L a) (wayL L a).length = true ∧ stA L (wayL L a) (wayL L a).length = List.replicate L.length a
  | 0, L, hd, hp => by
    have h1 := fdW_lt_iff L a
    have h2 := fdW_le L a
    have h3 := distP_nonneg L a
    have h4 : fdW L a = L.length := by omega
    rw [wayL_end h4]
    exact ⟨rfl, (fdW_there a L h4).2⟩
  | n + 1, L, hd, hp => by
    have h3 := distP_nonneg L a
    have hpos : 0 < distP L a := by omega
    have hlt := (fdW_lt_iff L a).2 hpos
    have hs := (stepW_dist L a hp ha hpos).1
    obtain ⟨i1, i2⟩ := way_run a ha n (stepW L a) (by omega) (stepW_pegs L a hp ha)
    have hset : L.set (mvW L a).1.toNat (mvW L a).2.2 = stepW L a := by unfold mvW stepW; simp
    rw [wayL_more hp ha hlt, List.length_cons, okA_cons, stA_cons, hset, mvW_legal hp ha hlt, i1, i2, stepW_len]
    exact ⟨rfl, rfl⟩

end Go.Proofs.Ytnbjnlgdolhlmaa

namespace Go.Proofs.Ytnbjnlgdolhlmaa
open Go.RowKit
set_option linter.unusedVariables false

theorem aft_app (u a : Int) : ∀ L : List Int, aft (L ++ [u]) a = aft L (aft [u] a)
  | [] => rfl
  | x :: r => by
    show (if x = aft (r ++ [u]) a then aft (r ++ [u]) a else 3 - aft (r ++ [u]) a - x) = if x = aft r (aft [u] a) then aft r (aft [u] a) else 3 - aft r (aft [u] a) - x
    rw [aft_app u a r]
theorem goals_app (u a : Int) : ∀ L : List Int, goalsL (L ++ [u]) a = goalsL L (aft [u] a) ++ [a]
  | [] => rfl
  | x :: r => by
    show aft (r ++ [u]) a :: goalsL (r ++ [u]) a = aft r (aft [u] a) :: (goalsL r (aft [u] a) ++ [a])
    rw [aft_app u a r, goals_app u a r]
theorem distP_app (u a : Int) : ∀ L : List Int, distP (L ++ [u]) a = distP L (aft [u] a) + (if u = a then 0 else pow2 L.length)
  | [] => by
    rw [List.nil_append, distP_cons]
    show (if u = a then 0 else 1) + 2 * distP [] a = distP [] (aft [u] a) + (if u = a then 0 else pow2 0)
    have e : ∀ b, distP [] b = 0 := fun _ => rfl
    rw [e, e, pow2_zero]
    split <;> omega
  | x :: r => by
    rw [List.cons_append, distP_cons, distP_cons, aft_app u a r, distP_app u a r, List.length_cons, pow2_succ]
    split <;> split <;> omega
theorem fdW_app (u a : Int) : ∀ L : List Int, fdW L (aft [u] a) < L.length → fdW (L ++ [u]) a = fdW L (aft [u] a)
  | [], h => absurd h (by simp)
  | x :: r, h => by
    show (if x = aft (r ++ [u]) a then fdW (r ++ [u]) a + 1 else 0) = if x = aft r (aft [u] a) then fdW r (aft [u] a) + 1 else 0
    rw [aft_app u a r]
    by_cases hx : x = aft r (aft [u] a)
    · have e : fdW (x :: r) (aft [u] a) = fdW r (aft [u] a) + 1 := by rw [fdW, if_pos hx]
      rw [if_pos hx, if_pos hx, fdW_app u a r (by rw [e] at h; simpa using h)]
    · rw [if_neg hx, if_neg hx]
theorem at_left {L R : List Int} {k : Nat} (h : k < L.length) : (L ++ R)[k]?.getD 0 = L[k]?.getD 0 := by rw [List.getElem?_append_left h]
theorem mvW_app {u a : Int} {L : List Int} (h : fdW L (aft [u] a) < L.length) : mvW (L ++ [u]) a = mvW L (aft [u] a) := by
  unfold mvW
  rw [fdW_app u a L h, goals_app, at_left h, at_left (by rw [goalsL_len]; exact h)]
theorem stepW_app {u a : Int} {L : List Int} (h : fdW L (aft [u] a) < L.length) : stepW (L ++ [u]) a = stepW L (aft [u] a) ++ [u] := by
  unfold stepW
  rw [fdW_app u a L h, goals_app, at_left (by rw [goalsL_len]; exact h), List.set_append_left _ _ h]
theorem aft1_bd {u a : Int} (hu : 0 ≤ u ∧ u ≤ 2) (ha : 0 ≤ a ∧ a ≤ 2) : 0 ≤ aft [u] a ∧ aft [u] a ≤ 2 := aft_bd [u] a (fun x hx => by rw [List.mem_singleton] at hx; subst hx; exact hu) ha
/-- While the smaller discs are on their way, the largest stays. -/
theorem wy_app {u a : Int} (hu : 0 ≤ u ∧ u ≤ 2) (ha : 0 ≤ a ∧ a ≤ 2) : ∀ (k : Nat) (L : List Int), pegsOk L → (k : Int) ≤ distP L (aft [u] a) → wyL k (L ++ [u]) a = wyL k L (aft [u] a)
  | 0, _, _, _ => rfl
  | k + 1, L, hp, hk => by
    have hpos : 0 < distP L (aft [u] a) := by omega
    have hlt := (fdW_lt_iff L (aft [u] a)).2 hpos
    have hs := (stepW_dist L (aft [u] a) hp (aft1_bd hu ha) hpos).1
    show mvW (L ++ [u]) a :: wyL k (stepW (L ++ [u]) a) a = mvW L (aft [u] a) :: wyL k (stepW L (aft [u] a)) (aft [u] a)
    rw [mvW_app hlt, stepW_app hlt, wy_app hu ha k (stepW L (aft [u] a)) (stepW_pegs L _ hp (aft1_bd hu ha)) (by omega)]
theorem way_app_same {a : Int} (ha : 0 ≤ a ∧ a ≤ 2) {L : List Int} (hp : pegsOk L) : wayL (L ++ [a]) a = wayL L a := by
  have e : aft [a] a = a := by show (if a = a then a else _) = a; rw [if_pos rfl]
  have h0 := distP_nonneg L a
  have k := wy_app ha ha (distP L a).toNat L hp (by rw [e]; omega)
  rw [e] at k
  unfold wayL
  rw [distP_app, e, if_pos rfl, Int.add_zero]
  exact k

end Go.Proofs.Ytnbjnlgdolhlmaa

namespace Go.Proofs.Ytnbjnlgdolhlmaa
open Go.RowKit
set_option linter.unusedVariables false

theorem ret_int' {a b : Int} (h : b = a) : Ending.returned (.int .i64 a) = .returned (.int .i64 b) := by rw [h]

set_option maxHeartbeats 1000000 in
theorem l02Code_one (g : Nat) (A : Option Addr) (n c : Nat) (p : Int) (L : List Int) (w : World) (hx : Box w g 26 #[.int .i64 p, .slice A n c]) (hL : L.length = n) (hn : n ≤ 1048576) (hI : Ints w A L) :
    Calls Try.prog 41 #[.slice (some ⟨g, 0, none⟩) 1 1] w fun e w' => e = .returned (.int .i64 (code1 p L)) ∧ Below w.heap.size w w' := by
  have HL := Lib.hid hL
  have X0 := Lib.hid hx
  clear hL hx
  obtain ⟨x0, x1, _, _⟩ := X0.out.two
  by_cases hs : stateB p L = true
  · have HS := Lib.hid hs
    by_cases hp : p = 3
    · have hd : (p != 3) = false := by simpa using hp
      have HP := Lib.hid hp
      clear hp
      go_enter Try.func41, Try.ntmps41
      go_wp2
      refine wp_loop_rounds 2 ?_
      rw [rounds_succ]
      go_wp2_with fail
      refine (l01Is_calls A n c p L _ HL.out hn hI).mono ?_
      rintro e w1 ⟨rfl, hb1⟩
      obtain ⟨y0, y1, _, _⟩ := (X0.out.below hb1 X0.out.lt).two
      have HB := Lib.hid hb1
      clear hb1 x0 x1
      go_wp2
      rw [rounds_succ]
      go_wp2
      refine wp_loop_rounds 2 ?_
      rw [rounds_succ]
      go_wp2_with fail
      go_quiet (fail)
      go_wp2
      rw [rounds_succ]
      go_wp2
      go_ret
      exact ⟨ret_int' (by unfold code1; rw [if_pos HS.out, if_pos HP.out]), by first | exact HB.out | exact belowDraws HB.out _⟩
    · have hd : (p != 3) = true := by simpa using hp
      go_enter Try.func41, Try.ntmps41
      go_wp2
      refine wp_loop_rounds 2 ?_
      rw [rounds_succ]
      go_wp2_with fail
      refine (l01Is_calls A n c p L _ HL.out hn hI).mono ?_
      rintro e w1 ⟨rfl, hb1⟩
      obtain ⟨y0, y1, _, _⟩ := (X0.out.below hb1 X0.out.lt).two
      have HB := Lib.hid hb1
      clear hb1 x0 x1
      go_wp2
      rw [rounds_succ]
      go_wp2
      refine wp_loop_rounds 2 ?_
      rw [rounds_succ]
      go_wp2_with fail
      go_quiet (fail)
      go_wp2
      go_ret
      exact ⟨ret_int' (by unfold code1; rw [if_pos HS.out, if_neg hp]), by first | exact HB.out | exact belowDraws HB.out _⟩
  · have hs' : stateB p L = false := by simpa using hs
    clear hs
    go_enter Try.func41, Try.ntmps41
    go_wp2
    refine wp_loop_rounds 2 ?_
    rw [rounds_succ]
    go_wp2_with fail
    refine (l01Is_calls A n c p L _ HL.out hn hI).mono ?_
    rintro e w1 ⟨rfl, hb1⟩
    go_wp2
    go_ret
    exact ⟨ret_int' (by unfold code1; rw [if_neg (by simp [hs'])]), hb1⟩

set_option maxHeartbeats 1000000 in
theorem codeOfStates_one (g : Nat) (A : Option Addr) (n c : Nat) (p : Int) (L : List Int) (w : World) (hx : Box w g 26 #[.int .i64 p, .slice A n c]) (hL : L.length = n) (hn : n ≤ 1048576) (hI : Ints w A L) :
    Calls Try.prog 51 #[.slice (some ⟨g, 0, none⟩) 1 1] w fun e w' => e = .returned (.int .i64 (code1 p L)) ∧ Below w.heap.size w w' := by
  have HL := Lib.hid hL
  have X0 := Lib.hid hx
  clear hL hx
  obtain ⟨x0, x1, _, _⟩ := X0.out.two
  have hI1 := hI.below ((Below.refl _ w).alloc (Nat.le_refl _) (.cells #[.int .i64 p, .slice A n c] 26))
  by_cases hs : stateB p L = true
  · have HS := Lib.hid hs
    by_cases hp : p = 3
    · have hd : (p != 3) = false := by simpa using hp
      have HP := Lib.hid hp
      clear hp
      go_enter Try.func51, Try.ntmps51
      go_wp2
      refine wp_loop_rounds 2 ?_
      rw [rounds_succ]
      go_wp2_with fail
      refine (implIsState_calls A n c p L _ HL.out hn hI1).mono ?_
      rintro e w1 ⟨rfl, hb1⟩
      have X1 := Lib.hid ((X0.out.alloc (.cells #[.int .i64 p, .slice A n c] 26)).below hb1 (by have := X0.out.lt; simp; omega))
      have HB := Lib.hid (((Below.refl _ w).alloc (Nat.le_refl _) (.cells #[.int .i64 p, .slice A n c] 26)).trans (hb1.mono (by simp)))
      clear hb1 x0 x1
      obtain ⟨x0, x1, _, _⟩ := X1.out.two
      obtain ⟨y0, y1, _, _⟩ := (X1.out.alloc (.cells #[.int .i64 p, .slice A n c] 26)).two
      go_wp2
      rw [rounds_succ]
      go_wp2
      refine wp_loop_rounds 2 ?_
      rw [rounds_succ]
      go_wp2_with fail
      go_quiet (fail)
      go_wp2
      rw [rounds_succ]
      go_wp2
      go_ret
      exact ⟨ret_int' (by unfold code1; rw [if_pos HS.out, if_pos HP.out]), by first | exact belowDraws (HB.out.alloc HB.out.size _) _ | exact HB.out.alloc HB.out.size _⟩
    · have hd : (p != 3) = true := by simpa using hp
      go_enter Try.func51, Try.ntmps51
      go_wp2
      refine wp_loop_rounds 2 ?_
      rw [rounds_succ]
      go_wp2_with fail
      refine (implIsState_calls A n c p L _ HL.out hn hI1).mono ?_
      rintro e w1 ⟨rfl, hb1⟩
      have X1 := Lib.hid ((X0.out.alloc (.cells #[.int .i64 p, .slice A n c] 26)).below hb1 (by have := X0.out.lt; simp; omega))
      have HB := Lib.hid (((Below.refl _ w).alloc (Nat.le_refl _) (.cells #[.int .i64 p, .slice A n c] 26)).trans (hb1.mono (by simp)))
      clear hb1 x0 x1
      obtain ⟨x0, x1, _, _⟩ := X1.out.two
      obtain ⟨y0, y1, _, _⟩ := (X1.out.alloc (.cells #[.int .i64 p, .slice A n c] 26)).two
      go_wp2
      rw [rounds_succ]
      go_wp2
      refine wp_loop_rounds 2 ?_
      rw [rounds_succ]
      go_wp2_with fail
      go_quiet (fail)
      go_wp2
      go_ret
      exact ⟨ret_int' (by unfold code1; rw [if_pos HS.out, if_neg hp]), by first | exact belowDraws (HB.out.alloc HB.out.size _) _ | exact HB.out.alloc HB.out.size _⟩
  · have hs' : stateB p L = false := by simpa using hs
    clear hs
    go_enter Try.func51, Try.ntmps51
    go_wp2
    refine wp_loop_rounds 2 ?_
    rw [rounds_succ]
    go_wp2_with fail
    refine (implIsState_calls A n c p L _ HL.out hn hI1).mono ?_
    rintro e w1 ⟨rfl, hb1⟩
    have HB := Lib.hid (((Below.refl _ w).alloc (Nat.le_refl _) (.cells #[.int .i64 p, .slice A n c] 26)).trans (hb1.mono (by simp)))
    clear hb1
    go_wp2
    go_ret
    exact ⟨ret_int' (by unfold code1; rw [if_neg (by simp [hs'])]), HB.out⟩

end Go.Proofs.Ytnbjnlgdolhlmaa

namespace Go.Proofs.Ytnbjnlgdolhlmaa
open Go.RowKit
set_option linter.unusedVariables false

set_option maxHeartbeats 1000000 in
theorem l02With_calls (A : Option Addr) (n c : Nat) (p : Int) (L : List Int) (a : Int) (w : World) (hL : L.length = n) (hn : n ≤ 1048576) (hI : Ints w A L) :
    Calls Try.prog 30 #[.agg #[.int .i64 p, .slice A n c], .int .i64 a] w fun e w' => e = .returned (.int .i64 (codeW p L a)) ∧ Below w.heap.size w w' := by
  have HL := Lib.hid hL
  have hI1 := hI.below (((Below.refl _ w).alloc (Nat.le_refl _) (.cells #[.int .i64 p, .slice A n c] 26)).alloc (by simp) (.cells #[.int .i64 p, .slice A n c] 26))
  have hX : Box ((w.alloc (.cells #[.int .i64 p, .slice A n c] 26)).alloc (.cells #[.int .i64 p, .slice A n c] 26)) (w.heap.size + 1) 26 #[.int .i64 p, .slice A n c] := by
    have := Box.new (w.alloc (.cells #[.int .i64 p, .slice A n c] 26)) 26 #[.int .i64 p, .slice A n c]
    rwa [World.size_alloc] at this
  have hB0 : Below w.heap.size w ((w.alloc (.cells #[.int .i64 p, .slice A n c] 26)).alloc (.cells #[.int .i64 p, .slice A n c] 26)) := ((Below.refl _ _).alloc (Nat.le_refl _) _).alloc (by simp) _
  have X0 := Lib.hid hX
  have HB0 := Lib.hid hB0
  clear hL hX hB0
  by_cases hz : code1 p L = 0
  · have hz' : (code1 p L == 0) = true := by simpa using hz
    by_cases ha : inB a 0 2 = true
    · have HZ := Lib.hid hz
      have HA := Lib.hid ha
      clear hz
      go_enter Try.func30, Try.ntmps30
      go_wp2_with fail
      refine (l02Code_one (w.heap.size + 1) A n c p L _ X0.out HL.out hn hI1).mono ?_
      rintro e w1 ⟨rfl, hb1⟩
      have HB1 := Lib.hid (HB0.out.trans (hb1.mono HB0.out.size))
      clear hb1
      go_wp2_with fail
      refine (l01In_calls a 0 2 _).mono ?_
      rintro e w' ⟨rfl, rfl⟩
      go_wp2
      go_ret
      exact ⟨ret_int' (by unfold codeW; rw [if_pos HZ.out, if_pos HA.out, HZ.out]), HB1.out⟩
    · have ha' : inB a 0 2 = false := by simpa using ha
      have HZ := Lib.hid hz
      have HA := Lib.hid ha'
      clear hz ha
      go_enter Try.func30, Try.ntmps30
      go_wp2_with fail
      refine (l02Code_one (w.heap.size + 1) A n c p L _ X0.out HL.out hn hI1).mono ?_
      rintro e w1 ⟨rfl, hb1⟩
      have HB1 := Lib.hid (HB0.out.trans (hb1.mono HB0.out.size))
      clear hb1
      go_wp2_with fail
      refine (l01In_calls a 0 2 _).mono ?_
      rintro e w' ⟨rfl, rfl⟩
      go_wp2
      go_ret
      exact ⟨ret_int' (by unfold codeW; rw [if_pos HZ.out, if_neg (by simp [HA.out])]), HB1.out⟩
  · have hz' : (code1 p L == 0) = false := by simpa using hz
    have HZ := Lib.hid hz
    clear hz
    go_enter Try.func30, Try.ntmps30
    go_wp2_with fail
    refine (l02Code_one (w.heap.size + 1) A n c p L _ X0.out HL.out hn hI1).mono ?_
    rintro e w1 ⟨rfl, hb1⟩
    have HB1 := Lib.hid (HB0.out.trans (hb1.mono HB0.out.size))
    clear hb1
    go_wp2
    go_ret
    exact ⟨ret_int' (by unfold codeW; rw [if_neg HZ.out]), HB1.out⟩

set_option maxHeartbeats 1000000 in
theorem codeOfPeg_one (g : Nat) (A : Option Addr) (n c : Nat) (p : Int) (L : List Int) (a : Int) (w : World) (hx : Box w g 26 #[.int .i64 p, .slice A n c]) (hL : L.length = n) (hn : n ≤ 1048576) (hI : Ints w A L) :
    Calls Try.prog 27 #[.int .i64 a, .slice (some ⟨g, 0, none⟩) 1 1] w fun e w' => e = .returned (.int .i64 (codeW p L a)) ∧ Below w.heap.size w w' := by
  have HL := Lib.hid hL
  clear hL
  have hpg : pegB 3 a = inB a 0 2 := by rw [pegB_in]; rfl
  by_cases hz : code1 p L = 0
  · have hz' : (code1 p L == 0) = true := by simpa using hz
    by_cases ha : inB a 0 2 = true
    · have HZ := Lib.hid hz
      have HA := Lib.hid ha
      rw [← hpg] at ha
      clear hz hpg
      go_enter Try.func27, Try.ntmps27
      go_wp2_with fail
      refine (codeOfStates_one g A n c p L _ hx HL.out hn hI).mono ?_
      rintro e w1 ⟨rfl, hb1⟩
      go_wp2_with fail
      refine (isPeg_calls 3 a _).mono ?_
      rintro e w' ⟨rfl, rfl⟩
      go_wp2
      go_ret
      exact ⟨ret_int' (by unfold codeW; rw [if_pos HZ.out, if_pos HA.out, HZ.out]), hb1⟩
    · have ha' : inB a 0 2 = false := by simpa using ha
      have HZ := Lib.hid hz
      have HA := Lib.hid ha'
      rw [← hpg] at ha'
      clear hz ha hpg
      go_enter Try.func27, Try.ntmps27
      go_wp2_with fail
      refine (codeOfStates_one g A n c p L _ hx HL.out hn hI).mono ?_
      rintro e w1 ⟨rfl, hb1⟩
      go_wp2_with fail
      refine (isPeg_calls 3 a _).mono ?_
      rintro e w' ⟨rfl, rfl⟩
      go_wp2
      go_ret
      exact ⟨ret_int' (by unfold codeW; rw [if_pos HZ.out, if_neg (by simp [HA.out])]), hb1⟩
  · have hz' : (code1 p L == 0) = false := by simpa using hz
    have HZ := Lib.hid hz
    clear hz
    go_enter Try.func27, Try.ntmps27
    go_wp2_with fail
    refine (codeOfStates_one g A n c p L _ hx HL.out hn hI).mono ?_
    rintro e w1 ⟨rfl, hb1⟩
    go_wp2
    go_ret
    exact ⟨ret_int' (by unfold codeW; rw [if_neg HZ.out]), hb1⟩

end Go.Proofs.Ytnbjnlgdolhlmaa
