/- Contracts: copies of states, and the state after a legal move. · Contracts: the neighbours of a state. · Contracts: the state after a move. · Words for runs: the discs after so many moves. No program. · The way to a peg: each move is legal, the last leads there: no program. · The way to a peg, parted at the largest disc: no program. · IsOnWay: which states lie on a way; the codes. · What lies on the way to a peg, parted at the largest disc: no program. · A state lies on the way to a peg if, and only if, the distances add up: no program. · Contracts: DistanceToPeg, by the specification's model and by the program. · Contracts: the perfect state. · Ways to pegs: what the answers have to do with each other, in the words of their contracts. · The chosen way between two states leads there, and no other number of moves is told for it. No program. -/
import Derived.Test.YtbcgomimfgggnaaPk1
import Derived.Test.YtbcgomimfgggnaaPk3
import Derived.Test.YtbcgomimfgggnaaPk4
import Derived.Laws.CopyOwn
import Derived.Laws.AppendOwnNone
import Derived.Deep.RegionHeld3
import Derived.Deep.DeepCutAuto
import Derived.Deep.AppendLies
import Derived.Test.YtbcgomimfgggnaaPk2
import Derived.Maps.AppendAt
namespace Go.Proofs.Ytbcgomimfgggnaa
open Go.RowKit
set_option linter.unusedVariables false
set_option maxRecDepth 100000

theorem Try.sizeI : (Try.prog.info? 2).map (·.size) = some 1 := by kernel_rfl

/-- A list of integers has room. -/
theorem own_below {B : Nat} {w w1 : World} {A : Option Addr} {n c : Nat} {L : List Int} (h : Own B w A n c L) (hg : w.grownBy w1 (Value.slice A n c).ownBlock) {B0 : Nat} (hB : B0 ≤ B) (hs : B0 ≤ w.heap.size) : Below B0 w w1 :=
  (Below.refl B0 w).grown hg hs (fun k hk => Nat.le_trans hB (own_bk h k hk))

set_option maxHeartbeats 400000 in
theorem l01Own_calls (A : Option Addr) (n c : Nat) (L : List Int) (w : World) (hL : L.length = n) (hn : n ≤ 1048576) (hA : A = none → c = 0) (hI : Ints w A L) :
    Calls Try.prog 81 #[.slice A n c] w fun e w' => ∃ A' c', e = .returned (.slice A' n c') ∧ Own w.heap.size w' A' n c' L ∧ Below w.heap.size w w' := by
  obtain ⟨i0, hi, hz0, hz1, hz2⟩ := info_parts Try.infoI
  have HL : Hid (L.length = n) := hL
  have he : Own w.heap.size (w.alloc (.cells #[] 2)) (some ⟨w.heap.size, 0, none⟩) 0 0 [] := Own.emptyAt (Box.new _ _ _) (Nat.le_refl _)
  have HB0 := Lib.hid ((Below.refl w.heap.size w).alloc (Nat.le_refl _) (.cells #[] 2))
  have HI := Lib.hid (hI.below HB0.out)
  rcases A with _ | ad
  · obtain rfl := hA rfl
    have hn0 : n = 0 := by
      rcases Nat.eq_zero_or_pos n with h | h
      · exact h
      · obtain ⟨_, h1, _⟩ := hI 0 (by omega)
        cases h1
    subst hn0
    obtain rfl : L = [] := List.eq_nil_of_length_eq_zero hL
    clear hL hI
    go_enter Try.func81, Try.ntmps81
    go_wp2_with (at_builtin; refine wpList_append_own_none rfl _ _ 28 rfl w.heap.size 2 i0 1 Try.underlying28 hi _ _ _ rfl he rfl ?_)
    go_ret
    exact ⟨_, _, rfl, he, HB0.out⟩
  · clear hL hI hA
    go_enter Try.func81, Try.ntmps81
    go_wp2_with (at_builtin; refine wpList_append_own _ rfl _ _ 28 rfl w.heap.size 2 i0 (.int .i64 0) 1 8 Try.underlying28 hi hz0 hz1 hz2 rfl (by decide) _ _ _ rfl he ad n c (L.map (Value.int .i64)) rfl (by simp [HL.out]) (HI.out.news) (ints_oneCell _ _) (by unfold maxLen; omega) (by omega) (by simp) ?_; intro v' w1 hown' hgrow _; obtain ⟨A', c', rfl⟩ := own_shape hown'; have HO := Lib.hid hown'; have HG := Lib.hid hgrow; clear hown' hgrow)
    go_ret
    refine ⟨A', c', by simp, ?_, ?_⟩
    · have := HO.out
      unfold Own
      simpa using this
    · exact HB0.out.trans (own_below he HG.out (Nat.le_refl _) (by simp))

set_option maxHeartbeats 400000 in
theorem copyOfState_calls (A : Option Addr) (n c : Nat) (p : Int) (L : List Int) (w : World) (hL : L.length = n) (hn : n ≤ 1048576) (hI : Ints w A L) :
    Calls Try.prog 72 #[.agg #[.int .i64 p, .slice A n c]] w fun e w' => ∃ A' c', e = .returned (.agg #[.int .i64 p, .slice A' n c']) ∧ n ≤ c' ∧ c' ≤ 1048576 ∧ Own w.heap.size w' A' n c' L ∧ Below w.heap.size w w' := by
  have hmk := run_make_row' (P := Try.prog) 28 2 (.int .i64 0) 8 Try.underlying28 Try.infoI rfl .i64 .i64 n (by omega) (by omega)
  have HL : Hid (L.length = n) := hL
  clear hL
  obtain ⟨Z, HZ⟩ : ∃ Z : List Value, Hid (Z = List.replicate n (Value.int .i64 0)) := ⟨_, rfl⟩
  have hmc : madeCells #[Value.int .i64 0] n = Z.toArray := by
    apply Array.ext'
    rw [toList_madeCells_one, HZ.out]
  rw [hmc] at hmk
  have hzl : Hid (Z.length = n) := by unfold Hid; rw [HZ.out]; simp
  have HG : Hid ((((w.alloc (.cells #[.int .i64 p, .slice A n c] 30)).alloc (.cells #[.int .i64 0, .slice none 0 0] 30)).alloc (.cells Z.toArray 2)).heap[w.heap.size + 1 + 1]? = some (.cells Z.toArray 2 (0, 0))) := by
    have := Box.new ((w.alloc (.cells #[.int .i64 p, .slice A n c] 30)).alloc (.cells #[.int .i64 0, .slice none 0 0] 30)) 2 Z.toArray
    simp only [World.size_alloc] at this
    exact this
  have HB : Hid (Below w.heap.size w (((w.alloc (.cells #[.int .i64 p, .slice A n c] 30)).alloc (.cells #[.int .i64 0, .slice none 0 0] 30)).alloc (.cells Z.toArray 2))) := (((Below.refl _ _).alloc (Nat.le_refl _) _).alloc (by simp) _).alloc (by simp; omega) _
  have HBX : Hid (Box (((w.alloc (.cells #[.int .i64 p, .slice A n c] 30)).alloc (.cells #[.int .i64 0, .slice none 0 0] 30)).alloc (.cells Z.toArray 2)) w.heap.size 30 #[.int .i64 p, .slice A n c]) := ((Box.new _ _ _).alloc _).alloc _
  have HBR : Hid (Box (((w.alloc (.cells #[.int .i64 p, .slice A n c] 30)).alloc (.cells #[.int .i64 0, .slice none 0 0] 30)).alloc (.cells Z.toArray 2)) (w.heap.size + 1) 30 #[.int .i64 0, .slice none 0 0]) := by
    have := Box.new (w.alloc (.cells #[.int .i64 p, .slice A n c] 30)) 30 #[.int .i64 0, .slice none 0 0]
    rw [World.size_alloc] at this
    exact this.alloc _
  have HPOS : Hid (0 < (L.map (Value.int .i64)).length → (some (⟨w.heap.size + 1 + 1, 0, none⟩ : Addr)) = some ⟨w.heap.size + 1 + 1, 0, none⟩ ∧ ∃ ad, A = some ad ∧ ∀ j v, (L.map (Value.int .i64))[j]? = some v → (((w.alloc (.cells #[.int .i64 p, .slice A n c] 30)).alloc (.cells #[.int .i64 0, .slice none 0 0] 30)).alloc (.cells Z.toArray 2)).cell? (ad.add j) = some v) := by
    intro h
    refine ⟨rfl, ?_⟩
    obtain ⟨ad, rfl, _⟩ := hI 0 (by simpa using h)
    exact ⟨ad, rfl, (hI.below HB.out).news⟩
  have HS : Hid ((L.map (Value.int .i64)).length = Nat.min n n) := by unfold Hid; simp [HL.out]
  have HF : Hid (0 + (L.map (Value.int .i64)).length ≤ Z.length) := by unfold Hid; rw [hzl.out]; simp [HL.out]
  have HSP : Hid (splice Z 0 (L.map (Value.int .i64)) = L.map (Value.int .i64)) := by unfold Hid splice; rw [List.drop_of_length_le (by rw [hzl.out]; simp [HL.out])]; simp
  have HBI := Lib.hid (hI.below HB.out)
  clear hI hmc
  go_enter Try.func72, Try.ntmps72
  go_wp2_with (with_reducible refine wpList_copy_splice rfl (.tmp 8) (.tmp 10) 28 28 rfl 2 Try.underlying28 Try.sizeI (some ⟨w.heap.size + 1 + 1, 0, none⟩) A n n n c rfl rfl (w.heap.size + 1 + 1) 0 Z 2 HG.out (L.map (Value.int .i64)) HS.out HPOS.out HF.out (ints_oneCell _ _) (w.heap.size + 1 + 1) _ (Below.refl _ _) (Nat.le_refl _) ?_; intro w1 hg1 hb1; have HX1 := Lib.hid (Box.below HBX.out hb1 (by omega)); have HR1 := Lib.hid (Box.below HBR.out hb1 (by omega)); have HB1 := Lib.hid (HB.out.trans (hb1.mono (by omega))); clear hb1; obtain ⟨x0, x1, _, _⟩ := HX1.out.two; obtain ⟨r0, r1, _, _⟩ := HR1.out.two; obtain ⟨_, _, fr0, fr1⟩ := HR1.out.two)
  have hgo : Box w1 (w.heap.size + 1 + 1) 2 (L.map (Value.int .i64)).toArray := by have := hg1.out; rw [HSP.out] at this; exact this
  have hown : Own w.heap.size w1 (some ⟨w.heap.size + 1 + 1, 0, none⟩) n n L :=
    ⟨by simp [HL.out], .inr ⟨_, n, _, rfl, by omega, hgo, Nat.le_refl _, by unfold maxLen; omega, by simp [HL.out], by rw [List.take_of_length_le (by simp [HL.out])]⟩⟩
  refine bodyPost_ret (v := .agg #[.int .i64 p, .slice (some ⟨w.heap.size + 1 + 1, 0, none⟩) n n]) (by simp [results, Try.results72, go_sem, r0, r1]) rfl ⟨_, n, rfl, Nat.le_refl _, hn, ?_, ?_⟩
  · exact (hown.setBoxed HR1.out (by decide) _ _).setBoxed (HR1.out.set _ _) (by decide) _ _
  · exact (HB1.out.setCell (by simp) _).setCell (by simp) _

set_option maxHeartbeats 2000000 in
theorem afterMove_calls (A : Option Addr) (n c : Nat) (p : Int) (L : List Int) (j : Nat) (f t : Int) (w : World) (hL : L.length = n) (hn : n ≤ 1048576) (hj : j < n) (hI : Ints w A L) :
    Calls Try.prog 74 #[.agg #[.int .i64 p, .slice A n c], .agg #[.int .i64 j, .int .i64 f, .int .i64 t]] w fun e w' => ∃ A' c', e = .returned (.agg #[.int .i64 p, .slice A' n c']) ∧ Own w.heap.size w' A' n c' (L.set j t) ∧ Below w.heap.size w w' := by
  have HL : Hid (L.length = n) := hL
  have hW : ∃ W, W = (((w.alloc (.cells #[.int .i64 p, .slice A n c] 30)).alloc (.cells #[.int .i64 j, .int .i64 f, .int .i64 t] 69)).alloc (.cells #[.int .i64 0, .slice none 0 0] 30)) := ⟨_, rfl⟩
  obtain ⟨W, hW⟩ := hW
  have X0 : Hid (Box W w.heap.size 30 #[.int .i64 p, .slice A n c]) := by unfold Hid; rw [hW]; exact ((Box.new _ _ _).alloc _).alloc _
  have Y0 : Hid (Box W (w.heap.size + 1) 69 #[.int .i64 j, .int .i64 f, .int .i64 t]) := by
    unfold Hid; rw [hW]
    have := Box.new (w.alloc (.cells #[.int .i64 p, .slice A n c] 30)) 69 #[.int .i64 j, .int .i64 f, .int .i64 t]
    rw [World.size_alloc] at this
    exact this.alloc _
  have R0 : Hid (Box W (w.heap.size + 1 + 1) 30 #[.int .i64 0, .slice none 0 0]) := by
    unfold Hid; rw [hW]
    have := Box.new ((w.alloc (.cells #[.int .i64 p, .slice A n c] 30)).alloc (.cells #[.int .i64 j, .int .i64 f, .int .i64 t] 69)) 30 #[.int .i64 0, .slice none 0 0]
    simp only [World.size_alloc] at this
    exact this
  have hWs : Hid (W.heap.size = w.heap.size + 3) := by unfold Hid; rw [hW]; simp
  have HB0 : Hid (Below w.heap.size w W) := by unfold Hid; rw [hW]; exact (((Below.refl _ _).alloc (Nat.le_refl _) _).alloc (by simp) _).alloc (by simp; omega) _
  have hI0 := Lib.hid (hI.below HB0.out)
  obtain ⟨s0, s1, m0, m1, m2⟩ := cells23 X0.out Y0.out
  have HW := Lib.hid hW
  clear hW hL hI
  have hz0 : w.heap.size + 2 < W.heap.size := by rw [hWs.out]; omega
  go_enter Try.func74, Try.ntmps74
  go_wp2_with fail
  rw [← HW.out]
  refine (copyOfState_calls A n c p L _ HL.out hn hI0.out).mono ?_
  rintro e w1 ⟨A', c', rfl, hcc, hcm, hO1, hb1⟩
  have z1 : W.heap.size ≤ w1.heap.size := Below.size hb1
  have F1 := Lib.hid (Box.new w1 30 #[.int .i64 p, .slice A' n c'])
  have F2 := Lib.hid ((hO1.below ((Below.refl _ w1).alloc (Nat.le_refl _) (.cells #[.int .i64 p, .slice A' n c'] 30))).mono (B' := w.heap.size + 3) (by rw [← hWs.out]; exact Nat.le_refl _))
  have F3 := Lib.hid ((Box.below Y0.out hb1 (Box.lt Y0.out)).alloc (.cells #[.int .i64 p, .slice A' n c'] 30))
  have F4 := Lib.hid ((Box.below R0.out hb1 (Box.lt R0.out)).alloc (.cells #[.int .i64 p, .slice A' n c'] 30))
  have F5 := Lib.hid ((HB0.out.trans (hb1.mono (HB0.out.size))).alloc (Nat.le_trans HB0.out.size z1) (.cells #[.int .i64 p, .slice A' n c'] 30))
  have F6 : Hid (w.heap.size + 3 ≤ w1.heap.size) := by unfold Hid; have := hWs.out; omega
  obtain ⟨g1, rfl⟩ : ∃ g1, A' = some ⟨g1, 0, none⟩ := by
    rcases hO1.form with ⟨_, h, _⟩ | ⟨g1, h, _⟩
    · omega
    · exact ⟨g1, h⟩
  clear hb1 hO1 s0 s1 m0 m1 m2
  go_upto_region 2 with (fail)
  generalize hwz : w1.alloc (.cells #[.int .i64 p, .slice (some ⟨g1, 0, none⟩) n c'] 30) = wz at *
  clear hwz
  generalize w1.heap.size = g5 at *
  obtain ⟨q0, q1, _, _⟩ := F1.out.two
  obtain ⟨m0, m1, m2⟩ := F3.out.three
  obtain ⟨r0, r1, rf0, rf1⟩ := F4.out.two
  have hne1 : ¬ g1 = g5 := F2.out.ne_box F1.out (by decide)
  have hne2 : ¬ g5 = g1 := fun e => hne1 e.symm
  have hne3 : ¬ g1 = w.heap.size + 1 + 1 := F2.out.ne_box F4.out (by decide)
  have hne4 : ¬ w.heap.size + 1 + 1 = g1 := fun e => hne3 e.symm
  have hne5 : ¬ g5 = w.heap.size + 1 + 1 := by have := F6.out; omega
  have hne6 : ¬ w.heap.size + 1 + 1 = g5 := fun e => hne5 e.symm
  have hcell : wz.cell? ⟨g1, j, none⟩ = some (.int .i64 (L.getD j 0)) := by
    rw [World.ownsRow.cellAt F2.out j (by omega), List.getElem?_map, List.getElem?_eq_getElem (by rw [HL.out]; exact hj), List.getD_eq_getElem?_getD, List.getElem?_eq_getElem (by rw [HL.out]; exact hj)]
    rfl
  have hfz := World.ownsRow.frozenAt F2.out j
  have hj0 : (0 : Int) ≤ (j : Int) := by omega
  have hj1 : (j : Int) < (n : Int) := by omega
  go_wp2
  have st := World.ownsRow.stored F2.out j (.int .i64 t)
  have hO : Own (w.heap.size + 3) (wz.setCell ⟨g1, j, none⟩ (.int .i64 t)) (some ⟨g1, 0, none⟩) n c' (L.set j t) := by
    have := st.1
    rw [← List.map_set] at this
    exact this
  have hR : Box (wz.setCell ⟨g1, j, none⟩ (.int .i64 t)) (w.heap.size + 1 + 1) 30 #[.int .i64 0, .slice none 0 0] := F4.out.other hne4 _
  refine bodyPost_ret (v := .agg #[.int .i64 p, .slice (some ⟨g1, 0, none⟩) n c']) (by simp [results, Try.results74, go_sem, r0, r1]) rfl ⟨_, c', rfl, ?_, ?_⟩
  · exact ((hO.setBoxed hR (by decide) _ _).setBoxed (hR.set _ _) (by decide) _ _).mono (by omega)
  · have hg1 : w.heap.size ≤ g1 := by
      rcases F2.out.form with ⟨h, _⟩ | ⟨g', h, h', _⟩
      · cases h
      · injection h with h
        injection h with h
        omega
    exact ((F5.out.setCell hg1 _).setCell (by simp; omega) _).setCell (by simp; omega) _

end Go.Proofs.Ytbcgomimfgggnaa

namespace Go.Proofs.Ytbcgomimfgggnaa
open Go.RowKit Go.Shelf
set_option linter.unusedVariables false
set_option maxRecDepth 100000
attribute [local go_sem] Oper.semAt_some

theorem Try.infoSt : (Try.prog.info? 30).map (fun i => (i.zero, i.size, i.bytes)) = some (some (.agg #[.int .i64 0, .slice none 0 0]), 2, 32) := by kernel_rfl

/-- The states behind moves. -/
def nbF (p : Int) (L : List Int) (M : List Mv) : List (Int × List Int) := M.map (fun m => (p, L.set m.1.toNat m.2.2))
theorem nbF_snoc (p : Int) (L : List Int) (M : List Mv) (m : Mv) : nbF p L (M ++ [m]) = nbF p L M ++ [(p, L.set m.1.toNat m.2.2)] := by simp [nbF]
def nbV (p : Int) (L : List Int) : List (Int × List Int) := if stateB p L = true then nbF p L (movesL p L) else []
theorem nb_yes {p : Int} {L : List Int} (h : stateB p L = true) : nbV p L = nbF p L (movesL p L) ∧ codeS p L = 0 := ⟨by unfold nbV; rw [if_pos h], codeS_yes h⟩
theorem nb_no {p : Int} {L : List Int} (h : stateB p L = false) : nbV p L = [] ∧ codeS p L = 1 := ⟨by unfold nbV; rw [h]; rfl, codeS_no h⟩
theorem sum_le_mul : ∀ (l : List Nat) (b : Nat), (∀ x ∈ l, x ≤ b) → l.sum ≤ l.length * b
  | [], b, _ => by simp
  | x :: t, b, hl => by
    have h1 := hl x List.mem_cons_self
    have h2 := sum_le_mul t b (fun y hy => hl y (List.mem_cons_of_mem _ hy))
    rw [List.sum_cons, List.length_cons, Nat.add_mul]
    omega
theorem nbV_small (p : Int) (L : List Int) : ((nbV p L).map (fun x => x.2.length + 1)).sum ≤ 1048576 := by
  by_cases h : stateB p L = true
  · obtain ⟨h3, h5, h8, _⟩ := state_facts h rfl
    have h1 := sum_le_mul ((nbV p L).map (fun x => x.2.length + 1)) 9 (fun x hx => by
      obtain ⟨l, hl, rfl⟩ := List.mem_map.1 hx
      rw [(nb_yes h).1] at hl
      unfold nbF at hl
      obtain ⟨m, _, rfl⟩ := List.mem_map.1 hl
      simp only [List.length_set]
      omega)
    have h2 := movesL_len h
    rw [(nb_yes h).1] at h1 ⊢
    simp only [List.length_map, nbF] at h1 ⊢
    omega
  · rw [(nb_no (by simpa using h)).1]; simp
theorem mv_disc {p : Int} {L : List Int} {x : Mv} (h : x ∈ movesL p L) : ∃ j : Nat, x.1 = (j : Int) ∧ j < L.length := by
  have h1 := movesTo_legal (p := p) (L := L) L.length x h
  unfold legalB at h1
  simp only [Bool.and_eq_true, decide_eq_true_iff] at h1
  obtain ⟨j, hj⟩ := Int.eq_ofNat_of_zero_le h1.1.1
  exact ⟨j, hj, by have := h1.1.2.1; omega⟩

end Go.Proofs.Ytbcgomimfgggnaa

namespace Go.Proofs.Ytbcgomimfgggnaa
open Go.RowKit
set_option linter.unusedVariables false
set_option maxRecDepth 100000

/-- What AfterMove answers. -/
def aftB (p : Int) (L : List Int) (d f t : Int) : Bool := stateB p L && legalB p L d f t
def aftP (p : Int) (L : List Int) (d f t : Int) : Int := if aftB p L d f t = true then p else 0
def aftL (p : Int) (L : List Int) (d f t : Int) : List Int := if aftB p L d f t = true then L.set d.toNat t else []
def aftE (p : Int) (L : List Int) (d f t : Int) : Int := if stateB p L = true then (if legalB p L d f t = true then 0 else 5) else 1
theorem aft_yes {p : Int} {L : List Int} {d f t : Int} (h : stateB p L = true) (h' : legalB p L d f t = true) : aftP p L d f t = p ∧ aftL p L d f t = L.set d.toNat t ∧ aftE p L d f t = 0 := by unfold aftP aftL aftE aftB; simp [h, h']
theorem aft_no2 {p : Int} {L : List Int} {d f t : Int} (h : stateB p L = true) (h' : legalB p L d f t = false) : aftP p L d f t = 0 ∧ aftL p L d f t = [] ∧ aftE p L d f t = 5 := by unfold aftP aftL aftE aftB; simp [h, h']
theorem aft_no1 {p : Int} {L : List Int} {d f t : Int} (h : stateB p L = false) : aftP p L d f t = 0 ∧ aftL p L d f t = [] ∧ aftE p L d f t = 1 := by unfold aftP aftL aftE aftB; simp [h]
theorem legal_d {p : Int} {L : List Int} {d f t : Int} (h : legalB p L d f t = true) : 0 ≤ d ∧ d < L.length := by
  unfold legalB at h
  simp only [Bool.and_eq_true, decide_eq_true_iff] at h
  exact ⟨h.1.1, h.1.2.1⟩

end Go.Proofs.Ytbcgomimfgggnaa

namespace Go.Proofs.Ytbcgomimfgggnaa
open Go.RowKit
set_option linter.unusedVariables false
set_option maxRecDepth 100000

def mvAt (M : List Mv) (k : Nat) : Mv := M[k]?.getD (0, 0, 0)
/-- The discs after so many moves. -/
def stA (L : List Int) (M : List Mv) : Nat → List Int
  | 0 => L
  | k + 1 => (stA L M k).set (mvAt M k).1.toNat (mvAt M k).2.2
/-- So many moves are legal, one after the other. -/
def okA (p : Int) (L : List Int) (M : List Mv) : Nat → Bool
  | 0 => true
  | k + 1 => okA p L M k && legalB p (stA L M k) (mvAt M k).1 (mvAt M k).2.1 (mvAt M k).2.2
theorem stA_len (L : List Int) (M : List Mv) : ∀ k, (stA L M k).length = L.length
  | 0 => rfl
  | k + 1 => by show ((stA L M k).set _ _).length = _; rw [List.length_set, stA_len L M k]
theorem okA_le {p : Int} {L : List Int} {M : List Mv} {k : Nat} (h : okA p L M k = false) : ∀ m, k ≤ m → okA p L M m = false
  | 0, hm => by rw [show k = 0 by omega] at h; exact h
  | m + 1, hm => by
    by_cases e : k = m + 1
    · rw [← e]; exact h
    · show (okA p L M m && _) = false
      rw [okA_le h m (by omega)]; rfl
theorem state_set {p : Int} {L : List Int} {d f t : Int} (h : stateB p L = true) (hl : legalB p L d f t = true) : stateB p (L.set d.toNat t) = true := by
  unfold legalB at hl
  simp only [Bool.and_eq_true, decide_eq_true_iff] at hl
  refine stateB_yes (by rw [List.length_set]; exact stateB_fits h) ?_
  intro i hi
  rw [List.length_set] at hi
  have hm := stateB_mem h
  rw [List.getD_eq_getElem?_getD, List.getElem?_set]
  by_cases e : d.toNat = i
  · rw [if_pos e, if_pos (by omega), Option.getD_some]
    unfold inB
    rw [decide_eq_true_iff]
    omega
  · rw [if_neg e, List.getElem?_eq_getElem hi, Option.getD_some]
    have := hm _ (List.getElem_mem hi)
    unfold inB
    rw [decide_eq_true_iff]
    omega
theorem stA_state {p : Int} {L : List Int} {M : List Mv} (h : stateB p L = true) : ∀ k, okA p L M k = true → stateB p (stA L M k) = true
  | 0, _ => h
  | k + 1, ho => by
    have ho' : (okA p L M k && legalB p (stA L M k) (mvAt M k).1 (mvAt M k).2.1 (mvAt M k).2.2) = true := ho
    rw [Bool.and_eq_true] at ho'
    exact state_set (stA_state h k ho'.1) ho'.2
/-- The states of a run. -/
def runL (p : Int) (L : List Int) (M : List Mv) (k : Nat) : List (Int × List Int) := (List.range (k + 1)).map (fun j => (p, stA L M j))
theorem runL_succ (p : Int) (L : List Int) (M : List Mv) (k : Nat) : runL p L M (k + 1) = runL p L M k ++ [(p, stA L M (k + 1))] := by
  unfold runL
  rw [List.range_succ (n := k + 1), List.map_append]
  rfl
theorem runL_at (p : Int) (L : List Int) (M : List Mv) {k j : Nat} (h : j ≤ k) : (runL p L M k)[j]? = some (p, stA L M j) := by
  unfold runL
  rw [List.getElem?_map, List.getElem?_range (by omega)]
  rfl
def rsB (p : Int) (L : List Int) (M : List Mv) : Bool := stateB p L && (decide (M.length ≤ 6561) && okA p L M M.length)
def rsV (p : Int) (L : List Int) (M : List Mv) : List (Int × List Int) := if rsB p L M = true then runL p L M M.length else []
def rsC (p : Int) (L : List Int) (M : List Mv) : Int := if stateB p L = true then (if M.length ≤ 6561 then (if okA p L M M.length = true then 0 else 5) else 2) else 1
theorem rs_yes {p : Int} {L : List Int} {M : List Mv} (h : stateB p L = true) (h2 : M.length ≤ 6561) (h3 : okA p L M M.length = true) : rsV p L M = runL p L M M.length ∧ rsC p L M = 0 := by
  unfold rsV rsC rsB; simp [h, h2, h3]
theorem rs_no5 {p : Int} {L : List Int} {M : List Mv} (h : stateB p L = true) (h2 : M.length ≤ 6561) (h3 : okA p L M M.length = false) : rsV p L M = [] ∧ rsC p L M = 5 := by
  unfold rsV rsC rsB; simp [h, h2, h3]
theorem rs_no2 {p : Int} {L : List Int} {M : List Mv} (h : stateB p L = true) (h2 : ¬ M.length ≤ 6561) : rsV p L M = [] ∧ rsC p L M = 2 := by
  unfold rsV rsC rsB; simp [h, h2]
theorem rs_no1 {p : Int} {L : List Int} {M : List Mv} (h : stateB p L = false) : rsV p L M = [] ∧ rsC p L M = 1 := by
  unfold rsV rsC rsB; simp [h]
theorem rsV_small (p : Int) (L : List Int) (M : List Mv) : ((rsV p L M).map (fun x => x.2.length + 1)).sum ≤ 1048576 := by
  by_cases h : rsB p L M = true
  · have h' := h
    unfold rsB at h'
    simp only [Bool.and_eq_true, decide_eq_true_iff] at h'
    obtain ⟨h3, h5, h8, _⟩ := state_facts h'.1 rfl
    unfold rsV
    rw [if_pos h]
    have h1 := sum_le_mul ((runL p L M M.length).map (fun x => x.2.length + 1)) 9 (fun x hx => by
      obtain ⟨l, hl, rfl⟩ := List.mem_map.1 hx
      unfold runL at hl
      obtain ⟨j, _, rfl⟩ := List.mem_map.1 hl
      have := stA_len L M j
      simp only
      omega)
    have h2 : (runL p L M M.length).length = M.length + 1 := by unfold runL; simp
    rw [List.length_map, h2] at h1
    omega
  · unfold rsV
    rw [if_neg h]
    simp

end Go.Proofs.Ytbcgomimfgggnaa

namespace Go.Proofs.Ytbcgomimfgggnaa
open Go.RowKit
set_option linter.unusedVariables false
set_option maxRecDepth 100000

theorem mvW_free (a : Int) (ha : 0 ≤ a ∧ a ≤ 2) : ∀ L : List Int, pegsOk L → fdW L a < L.length → L[fdW L a]?.getD 0 ≠ (goalsL L a)[fdW L a]?.getD 0 ∧ (0 ≤ (goalsL L a)[fdW L a]?.getD 0 ∧ (goalsL L a)[fdW L a]?.getD 0 ≤ 2) ∧
    (∀ i, i < fdW L a → L[i]?.getD 0 ≠ L[fdW L a]?.getD 0 ∧ L[i]?.getD 0 ≠ (goalsL L a)[fdW L a]?.getD 0) ∧ aft L a ≠ L[fdW L a]?.getD 0 ∧ aft L a ≠ (goalsL L a)[fdW L a]?.getD 0
  | [], _, h => absurd h (by simp)
  | x :: r, hp, h => by
    obtain ⟨hx2, hr⟩ := pegsOk_cons hp
    have hb := aft_bd r a hr ha
    by_cases hx : x = aft r a
    · have e : fdW (x :: r) a = fdW r a + 1 := by rw [fdW, if_pos hx]
      have h' : fdW r a < r.length := by rw [e] at h; simpa using h
      obtain ⟨i1, i2, i3, i4, i5⟩ := mvW_free a ha r hr h'
      have ea : aft (x :: r) a = aft r a := by rw [aft, if_pos hx]
      have eg : goalsL (x :: r) a = aft r a :: goalsL r a := rfl
      rw [e, ea, eg, List.getElem?_cons_succ, List.getElem?_cons_succ]
      refine ⟨i1, i2, fun i hi => ?_, i4, i5⟩
      cases i with
      | zero =>
        show x ≠ _ ∧ x ≠ _
        rw [hx]
        exact ⟨i4, i5⟩
      | succ i =>
        rw [List.getElem?_cons_succ]
        exact i3 i (by omega)
    · have e : fdW (x :: r) a = 0 := by rw [fdW, if_neg hx]
      have ea : aft (x :: r) a = 3 - aft r a - x := by rw [aft, if_neg hx]
      rw [e, ea]
      show x ≠ aft r a ∧ (0 ≤ aft r a ∧ aft r a ≤ 2) ∧ (∀ i, i < 0 → _) ∧ 3 - aft r a - x ≠ x ∧ 3 - aft r a - x ≠ aft r a
      exact ⟨hx, hb, fun i hi => absurd hi (Nat.not_lt_zero i), by omega, by omega⟩
theorem mvW_legal {L : List Int} {a : Int} (hp : pegsOk L) (ha : 0 ≤ a ∧ a ≤ 2) (h : fdW L a < L.length) : legalB 3 L (mvW L a).1 (mvW L a).2.1 (mvW L a).2.2 = true := by
  obtain ⟨i1, i2, i3, _⟩ := mvW_free a ha L hp h
  refine legal_yes ⟨?_, ?_, i2.1, ?_, i1, ?_⟩ ?_
  · show (0 : Int) ≤ (fdW L a : Int); omega
  · show ((fdW L a : Nat) : Int) < L.length; omega
  · show (goalsL L a)[fdW L a]?.getD 0 < 3; omega
  · show L.getD ((fdW L a : Nat) : Int).toNat 0 = L[fdW L a]?.getD 0
    rw [Int.toNat_natCast, List.getD_eq_getElem?_getD]
  · intro i hi
    have hi' : i < fdW L a := by simpa [mvW] using hi
    rw [List.getD_eq_getElem?_getD]
    exact i3 i hi'
theorem mvAt_cons (m : Mv) (M : List Mv) (k : Nat) : mvAt (m :: M) (k + 1) = mvAt M k := by unfold mvAt; rw [List.getElem?_cons_succ]
theorem stA_cons (L : List Int) (m : Mv) (M : List Mv) : ∀ k, stA L (m :: M) (k + 1) = stA (L.set m.1.toNat m.2.2) M k
  | 0 => rfl
  | k + 1 => by
    show (stA L (m :: M) (k + 1)).set (mvAt (m :: M) (k + 1)).1.toNat (mvAt (m :: M) (k + 1)).2.2 = _
    rw [stA_cons L m M k, mvAt_cons]
    rfl
theorem okA_cons (p : Int) (L : List Int) (m : Mv) (M : List Mv) : ∀ k, okA p L (m :: M) (k + 1) = (legalB p L m.1 m.2.1 m.2.2 && okA p (L.set m.1.toNat m.2.2) M k)
  | 0 => by
    show (true && legalB p L m.1 m.2.1 m.2.2) = (legalB p L m.1 m.2.1 m.2.2 && true)
    rw [Bool.true_and, Bool.and_true]
  | k + 1 => by
    show (okA p L (m :: M) (k + 1) && legalB p (stA L (m :: M) (k + 1)) (mvAt (m :: M) (k + 1)).1 (mvAt (m :: M) (k + 1)).2.1 (mvAt (m :: M) (k + 1)).2.2) = _
    rw [okA_cons p L m M k, stA_cons, mvAt_cons, Bool.and_assoc]
    rfl
theorem fdW_there (a : Int) : ∀ L : List Int, fdW L a = L.length → aft L a = a ∧ L = List.replicate L.length a
  | [], _ => ⟨rfl, rfl⟩
  | x :: r, h => by
    by_cases hx : x = aft r a
    · have e : fdW (x :: r) a = fdW r a + 1 := by rw [fdW, if_pos hx]
      obtain ⟨i1, i2⟩ := fdW_there a r (by rw [e] at h; simpa using h)
      have ea : aft (x :: r) a = aft r a := by rw [aft, if_pos hx]
      refine ⟨by rw [ea, i1], ?_⟩
      rw [List.length_cons, List.replicate_succ, ← i2, hx, i1]
    · have e : fdW (x :: r) a = 0 := by rw [fdW, if_neg hx]
      rw [e] at h
      simp at h
/-- The way is legal, and leads to the peg. -/
theorem way_run (a : Int) (ha : 0 ≤ a ∧ a ≤ 2) : ∀ (n : Nat) (L : List Int), (distP L a).toNat = n → pegsOk L → okA 3 L (wayL L a) (wayL L a).length = true ∧ stA L (wayL L a) (wayL L a).length = List.replicate L.length a
  | 0, L, hd, hp => by
    have h1 := fdW_lt_iff L a
    have h2 := fdW_le L a
    have h3 := distP_nonneg L a
    have h4 : fdW L a = L.length := by omega
    rw [wayL_end h4]
    exact ⟨rfl, (fdW_there a L h4).2⟩
  | n + 1, L, hd, hp => by
    have h3 := distP_nonneg L a
    have hpos : 0 < distP L a := by omega
    have hlt := (fdW_lt_iff L a).2 hpos
    have hs := (stepW_dist L a hp ha hpos).1
    obtain ⟨i1, i2⟩ := way_run a ha n (stepW L a) (by omega) (stepW_pegs L a hp ha)
    have hset : L.set (mvW L a).1.toNat (mvW L a).2.2 = stepW L a := by unfold mvW stepW; simp
    rw [wayL_more hp ha hlt, List.length_cons, okA_cons, stA_cons, hset, mvW_legal hp ha hlt, i1, i2, stepW_len]
    exact ⟨rfl, rfl⟩

end Go.Proofs.Ytbcgomimfgggnaa

namespace Go.Proofs.Ytbcgomimfgggnaa
open Go.RowKit
set_option linter.unusedVariables false
set_option maxRecDepth 100000

theorem aft_app (u a : Int) : ∀ L : List Int, aft (L ++ [u]) a = aft L (aft [u] a)
  | [] => rfl
  | x :: r => by
    show (if x = aft (r ++ [u]) a then aft (r ++ [u]) a else 3 - aft (r ++ [u]) a - x) = if x = aft r (aft [u] a) then aft r (aft [u] a) else 3 - aft r (aft [u] a) - x
    rw [aft_app u a r]
theorem goals_app (u a : Int) : ∀ L : List Int, goalsL (L ++ [u]) a = goalsL L (aft [u] a) ++ [a]
  | [] => rfl
  | x :: r => by
    show aft (r ++ [u]) a :: goalsL (r ++ [u]) a = aft r (aft [u] a) :: (goalsL r (aft [u] a) ++ [a])
    rw [aft_app u a r, goals_app u a r]
theorem distP_app (u a : Int) : ∀ L : List Int, distP (L ++ [u]) a = distP L (aft [u] a) + (if u = a then 0 else pow2 L.length)
  | [] => by
    rw [List.nil_append, distP_cons]
    show (if u = a then 0 else 1) + 2 * distP [] a = distP [] (aft [u] a) + (if u = a then 0 else pow2 0)
    have e : ∀ b, distP [] b = 0 := fun _ => rfl
    rw [e, e, pow2_zero]
    split <;> omega
  | x :: r => by
    rw [List.cons_append, distP_cons, distP_cons, aft_app u a r, distP_app u a r, List.length_cons, pow2_succ]
    split <;> split <;> omega
theorem fdW_app (u a : Int) : ∀ L : List Int, fdW L (aft [u] a) < L.length → fdW (L ++ [u]) a = fdW L (aft [u] a)
  | [], h => absurd h (by simp)
  | x :: r, h => by
    show (if x = aft (r ++ [u]) a then fdW (r ++ [u]) a + 1 else 0) = if x = aft r (aft [u] a) then fdW r (aft [u] a) + 1 else 0
    rw [aft_app u a r]
    by_cases hx : x = aft r (aft [u] a)
    · have e : fdW (x :: r) (aft [u] a) = fdW r (aft [u] a) + 1 := by rw [fdW, if_pos hx]
      rw [if_pos hx, if_pos hx, fdW_app u a r (by rw [e] at h; simpa using h)]
    · rw [if_neg hx, if_neg hx]
theorem at_left {L R : List Int} {k : Nat} (h : k < L.length) : (L ++ R)[k]?.getD 0 = L[k]?.getD 0 := by rw [List.getElem?_append_left h]
theorem mvW_app {u a : Int} {L : List Int} (h : fdW L (aft [u] a) < L.length) : mvW (L ++ [u]) a = mvW L (aft [u] a) := by
  unfold mvW
  rw [fdW_app u a L h, goals_app, at_left h, at_left (by rw [goalsL_len]; exact h)]
theorem stepW_app {u a : Int} {L : List Int} (h : fdW L (aft [u] a) < L.length) : stepW (L ++ [u]) a = stepW L (aft [u] a) ++ [u] := by
  unfold stepW
  rw [fdW_app u a L h, goals_app, at_left (by rw [goalsL_len]; exact h), List.set_append_left _ _ h]
theorem aft1_bd {u a : Int} (hu : 0 ≤ u ∧ u ≤ 2) (ha : 0 ≤ a ∧ a ≤ 2) : 0 ≤ aft [u] a ∧ aft [u] a ≤ 2 := aft_bd [u] a (fun x hx => by rw [List.mem_singleton] at hx; subst hx; exact hu) ha
/-- While the smaller discs are on their way, the largest stays. -/
theorem wy_app {u a : Int} (hu : 0 ≤ u ∧ u ≤ 2) (ha : 0 ≤ a ∧ a ≤ 2) : ∀ (k : Nat) (L : List Int), pegsOk L → (k : Int) ≤ distP L (aft [u] a) → wyL k (L ++ [u]) a = wyL k L (aft [u] a)
  | 0, _, _, _ => rfl
  | k + 1, L, hp, hk => by
    have hpos : 0 < distP L (aft [u] a) := by omega
    have hlt := (fdW_lt_iff L (aft [u] a)).2 hpos
    have hs := (stepW_dist L (aft [u] a) hp (aft1_bd hu ha) hpos).1
    show mvW (L ++ [u]) a :: wyL k (stepW (L ++ [u]) a) a = mvW L (aft [u] a) :: wyL k (stepW L (aft [u] a)) (aft [u] a)
    rw [mvW_app hlt, stepW_app hlt, wy_app hu ha k (stepW L (aft [u] a)) (stepW_pegs L _ hp (aft1_bd hu ha)) (by omega)]
theorem way_app_same {a : Int} (ha : 0 ≤ a ∧ a ≤ 2) {L : List Int} (hp : pegsOk L) : wayL (L ++ [a]) a = wayL L a := by
  have e : aft [a] a = a := by show (if a = a then a else _) = a; rw [if_pos rfl]
  have h0 := distP_nonneg L a
  have k := wy_app ha ha (distP L a).toNat L hp (by rw [e]; omega)
  rw [e] at k
  unfold wayL
  rw [distP_app, e, if_pos rfl, Int.add_zero]
  exact k

end Go.Proofs.Ytbcgomimfgggnaa

namespace Go.Proofs.Ytbcgomimfgggnaa
open Go.RowKit
set_option linter.unusedVariables false
set_option maxRecDepth 100000

/-- The state behind a move. -/
def apM (N : List Int) (m : Mv) : List Int := N.set m.1.toNat m.2.2
/-- Whether M is met along the moves from N. -/
def onM (M : List Int) : List Int → List Mv → Bool
  | N, [] => decide (N = M)
  | N, m :: r => if N = M then true else onM M (apM N m) r
theorem apM_step (L : List Int) (a : Int) : apM L (mvW L a) = stepW L a := by unfold apM mvW stepW; simp
theorem on_eq (M : List Int) : ∀ W, onM M M W = true
  | [] => by unfold onM; exact decide_eq_true rfl
  | m :: r => by unfold onM; rw [if_pos rfl]
theorem on_more {M L : List Int} {a : Int} (hp : pegsOk L) (ha : 0 ≤ a ∧ a ≤ 2) (hd : fdW L a < L.length) (hne : L ≠ M) : onM M L (wayL L a) = onM M (stepW L a) (wayL (stepW L a) a) := by
  rw [wayL_more hp ha hd, onM, if_neg hne, apM_step]
theorem on_end {M L : List Int} {a : Int} (hd : fdW L a = L.length) (hne : L ≠ M) : onM M L (wayL L a) = false := by
  rw [wayL_end hd, onM]
  exact decide_eq_false hne
def owE (p : Int) (L : List Int) (a q : Int) (M : List Int) : Int := if code2 p L q M = 0 then (if inB a 0 2 = true then 0 else 2) else code2 p L q M
def owV (p : Int) (L : List Int) (a q : Int) (M : List Int) : Bool := if code2 p L q M = 0 ∧ inB a 0 2 = true then onM M L (wayL L a) else false
theorem ow_codeW {p q a : Int} {L M : List Int} (h : code2 p L q M = 0) : codeW p L a = owE p L a q M := by
  obtain ⟨hs, ht, hp, hq, hl⟩ := code2_zero h
  have h1 : code1 p L = 0 := by unfold code1; rw [if_pos hs, if_pos hp]
  unfold codeW owE
  rw [if_pos h1, if_pos h]
theorem ext_of {L M : List Int} {n : Nat} (h1 : L.length = n) (h2 : M.length = n) (h : ∀ i, i < n → L[i]?.getD 0 = M[i]?.getD 0) : L = M :=
  list_ext h1 h2 (fun j hj => by rw [List.getD_eq_getElem?_getD, List.getD_eq_getElem?_getD]; exact h j hj)
theorem fdW_bd {L : List Int} {a : Int} (h : fdW L a < L.length) : (0 : Int) ≤ (fdW L a : Int) := Int.natCast_nonneg _

set_option maxHeartbeats 1000000 in
theorem codeOfPeg_two (g : Nat) (A : Option Addr) (n c : Nat) (p : Int) (L : List Int) (B : Option Addr) (m d : Nat) (q : Int) (M : List Int) (a : Int) (w : World) (hx : Box w g 30 #[.int .i64 p, .slice A n c, .int .i64 q, .slice B m d]) (hL : L.length = n) (hn : n ≤ 1048576) (hI : Ints w A L) (hM : M.length = m) (hm : m ≤ 1048576) (hJ : Ints w B M) :
    Calls Try.prog 47 #[.int .i64 a, .slice (some ⟨g, 0, none⟩) 2 2] w fun e w' => e = .returned (.int .i64 (owE p L a q M)) ∧ Below w.heap.size w w' := by
  have HL := Lib.hid hL
  clear hL
  have hpg : pegB 3 a = inB a 0 2 := by rw [pegB_in]; rfl
  by_cases hz : code2 p L q M = 0
  · have hz' : (code2 p L q M == 0) = true := by simpa using hz
    by_cases ha : inB a 0 2 = true
    · have HZ := Lib.hid hz
      have HA := Lib.hid ha
      rw [← hpg] at ha
      clear hz hpg
      go_enter Try.func47, Try.ntmps47
      go_wp2_with fail
      refine (codeOfStates_two g A n c p L B m d q M _ hx HL.out hn hI hM hm hJ).mono ?_
      rintro e w1 ⟨rfl, hb1⟩
      go_wp2_with fail
      refine (isPeg_calls 3 a _).mono ?_
      rintro e w' ⟨rfl, rfl⟩
      go_wp2
      go_ret
      exact ⟨ret_int' (by unfold owE; rw [if_pos HZ.out, if_pos HA.out, HZ.out]), hb1⟩
    · have ha' : inB a 0 2 = false := by simpa using ha
      have HZ := Lib.hid hz
      have HA := Lib.hid ha'
      rw [← hpg] at ha'
      clear hz ha hpg
      go_enter Try.func47, Try.ntmps47
      go_wp2_with fail
      refine (codeOfStates_two g A n c p L B m d q M _ hx HL.out hn hI hM hm hJ).mono ?_
      rintro e w1 ⟨rfl, hb1⟩
      go_wp2_with fail
      refine (isPeg_calls 3 a _).mono ?_
      rintro e w' ⟨rfl, rfl⟩
      go_wp2
      go_ret
      exact ⟨ret_int' (by unfold owE; rw [if_pos HZ.out, if_neg (by simp [HA.out])]), hb1⟩
  · have hz' : (code2 p L q M == 0) = false := by simpa using hz
    have HZ := Lib.hid hz
    clear hz
    go_enter Try.func47, Try.ntmps47
    go_wp2_with fail
    refine (codeOfStates_two g A n c p L B m d q M _ hx HL.out hn hI hM hm hJ).mono ?_
    rintro e w1 ⟨rfl, hb1⟩
    go_wp2
    go_ret
    exact ⟨ret_int' (by unfold owE; rw [if_neg HZ.out]), hb1⟩

end Go.Proofs.Ytbcgomimfgggnaa

namespace Go.Proofs.Ytbcgomimfgggnaa
open Go.RowKit
set_option linter.unusedVariables false
set_option maxRecDepth 100000

/-- The state behind so many moves of the way. -/
def stN (a : Int) : Nat → List Int → List Int
  | 0, L => L
  | i + 1, L => stN a i (stepW L a)
theorem stN_len (a : Int) : ∀ (i : Nat) (L : List Int), (stN a i L).length = L.length
  | 0, _ => rfl
  | i + 1, L => by show (stN a i (stepW L a)).length = _; rw [stN_len a i, stepW_len]
theorem stN_add (a : Int) (j : Nat) : ∀ (i : Nat) (L : List Int), stN a (i + j) L = stN a j (stN a i L)
  | 0, L => by rw [Nat.zero_add]; rfl
  | i + 1, L => by rw [show i + 1 + j = (i + j) + 1 by omega]; exact stN_add a j i (stepW L a)
theorem on_iff (M : List Int) (a : Int) : ∀ (k : Nat) (L : List Int), onM M L (wyL k L a) = true ↔ ∃ i, i ≤ k ∧ stN a i L = M
  | 0, L => by
    show decide (L = M) = true ↔ _
    rw [decide_eq_true_iff]
    constructor
    · intro h; exact ⟨0, Nat.le_refl _, h⟩
    · rintro ⟨i, hi, h⟩
      obtain rfl : i = 0 := by omega
      exact h
  | k + 1, L => by
    show (if L = M then true else onM M (apM L (mvW L a)) (wyL k (stepW L a) a)) = true ↔ _
    rw [apM_step]
    by_cases h : L = M
    · rw [if_pos h]
      exact ⟨fun _ => ⟨0, Nat.zero_le _, h⟩, fun _ => rfl⟩
    · rw [if_neg h, on_iff M a k (stepW L a)]
      constructor
      · rintro ⟨i, hi, e⟩; exact ⟨i + 1, by omega, e⟩
      · rintro ⟨i, hi, e⟩
        cases i with
        | zero => exact absurd e h
        | succ i => exact ⟨i, by omega, e⟩
theorem stN_pegs {a : Int} (ha : 0 ≤ a ∧ a ≤ 2) : ∀ (i : Nat) (L : List Int), pegsOk L → pegsOk (stN a i L)
  | 0, _, h => h
  | i + 1, L, h => stN_pegs ha i (stepW L a) (stepW_pegs L a h ha)
theorem stN_app {u a : Int} (hu : 0 ≤ u ∧ u ≤ 2) (ha : 0 ≤ a ∧ a ≤ 2) : ∀ (i : Nat) (L : List Int), pegsOk L → (i : Int) ≤ distP L (aft [u] a) → stN a i (L ++ [u]) = stN (aft [u] a) i L ++ [u]
  | 0, _, _, _ => rfl
  | i + 1, L, hp, hi => by
    have hpos : 0 < distP L (aft [u] a) := by omega
    have hlt := (fdW_lt_iff L (aft [u] a)).2 hpos
    have hs := (stepW_dist L (aft [u] a) hp (aft1_bd hu ha) hpos).1
    show stN a i (stepW (L ++ [u]) a) = stN (aft [u] a) i (stepW L (aft [u] a)) ++ [u]
    rw [stepW_app hlt, stN_app hu ha i (stepW L (aft [u] a)) (stepW_pegs L _ hp (aft1_bd hu ha)) (by omega)]
theorem stN_end {a : Int} (ha : 0 ≤ a ∧ a ≤ 2) : ∀ (n : Nat) (L : List Int), (distP L a).toNat = n → pegsOk L → stN a n L = List.replicate L.length a
  | 0, L, hd, hp => by
    have h1 := fdW_lt_iff L a
    have h2 := fdW_le L a
    have h3 := distP_nonneg L a
    exact (fdW_there a L (by omega)).2
  | n + 1, L, hd, hp => by
    have h3 := distP_nonneg L a
    have hs := (stepW_dist L a hp ha (by omega)).1
    show stN a n (stepW L a) = _
    rw [stN_end ha n (stepW L a) (by omega) (stepW_pegs L a hp ha), stepW_len]
theorem aft_rep (t : Int) : ∀ n, aft (List.replicate n t) t = t
  | 0 => rfl
  | n + 1 => by
    rw [List.replicate_succ]
    show (if t = aft (List.replicate n t) t then _ else _) = t
    rw [aft_rep t n, if_pos rfl]
theorem fdW_rep (t : Int) : ∀ n, fdW (List.replicate n t) t = n
  | 0 => rfl
  | n + 1 => by
    rw [List.replicate_succ, fdW, aft_rep t n, if_pos rfl, fdW_rep t n]
theorem fdW_big {u a : Int} (h : u ≠ a) : ∀ n, fdW (List.replicate n (aft [u] a) ++ [u]) a = n
  | 0 => by
    show (if u = a then fdW [] a + 1 else 0) = 0
    rw [if_neg h]
  | n + 1 => by
    rw [List.replicate_succ, List.cons_append, fdW, aft_app, aft_rep, if_pos rfl, fdW_big h n]
/-- The largest disc's own move. -/
theorem stepW_big {u a : Int} (h : u ≠ a) (n : Nat) : stepW (List.replicate n (aft [u] a) ++ [u]) a = List.replicate n (aft [u] a) ++ [a] := by
  unfold stepW
  rw [fdW_big h n, goals_app]
  have hg : (goalsL (List.replicate n (aft [u] a)) (aft [u] a)).length = n := by rw [goalsL_len, List.length_replicate]
  have e : (goalsL (List.replicate n (aft [u] a)) (aft [u] a) ++ [a])[n]?.getD 0 = a := by
    rw [List.getElem?_append_right (by omega), hg, Nat.sub_self]
    rfl
  rw [e, List.set_append_right _ _ (by simp)]
  simp

/-- The way from a state whose largest disc is where it is to go. -/
theorem on_same {a v : Int} (ha : 0 ≤ a ∧ a ≤ 2) {L M : List Int} (hp : pegsOk L) (hl : M.length = L.length) : onM (M ++ [v]) (L ++ [a]) (wayL (L ++ [a]) a) = true ↔ v = a ∧ onM M L (wayL L a) = true := by
  have e : aft [a] a = a := by show (if a = a then a else _) = a; rw [if_pos rfl]
  have h0 := distP_nonneg L a
  have hd : distP (L ++ [a]) a = distP L a := by rw [distP_app, e, if_pos rfl, Int.add_zero]
  unfold wayL
  rw [hd, on_iff, on_iff]
  constructor
  · rintro ⟨i, hi, hs⟩
    rw [stN_app ha ha i L hp (by rw [e]; omega), e] at hs
    obtain ⟨h1, h2⟩ := List.append_inj hs (by rw [stN_len, hl])
    exact ⟨by injection h2 with h2; exact h2.symm, i, hi, h1⟩
  · rintro ⟨rfl, i, hi, hs⟩
    exact ⟨i, hi, by rw [stN_app ha ha i L hp (by rw [e]; omega), e, hs]⟩
theorem distP_rep {t : Int} (ht : 0 ≤ t ∧ t ≤ 2) : ∀ (n : Nat) (a : Int), 0 ≤ a ∧ a ≤ 2 → t ≠ a → distP (List.replicate n t) a = pow2 n - 1
  | 0, _, _, _ => rfl
  | n + 1, a, ha, h => by
    have e : aft [t] a = 3 - a - t := by show (if t = a then a else 3 - a - t) = _; rw [if_neg h]
    rw [List.replicate_succ', distP_app, if_neg h, List.length_replicate, e, distP_rep ht n (3 - a - t) (by omega) (by omega), pow2_succ]
    omega
theorem pegs_rep {t : Int} (ht : 0 ≤ t ∧ t ≤ 2) (n : Nat) : pegsOk (List.replicate n t) := fun x hx => by rw [(List.mem_replicate.1 hx).2]; exact ht
/-- The way from a state whose largest disc has to move. -/
theorem on_move {u a v : Int} (hu : 0 ≤ u ∧ u ≤ 2) (ha : 0 ≤ a ∧ a ≤ 2) (h : u ≠ a) {L M : List Int} (hp : pegsOk L) (hl : M.length = L.length) : onM (M ++ [v]) (L ++ [u]) (wayL (L ++ [u]) a) = true ↔
    (v = u ∧ onM M L (wayL L (aft [u] a)) = true) ∨ (v = a ∧ onM M (List.replicate L.length (aft [u] a)) (wayL (List.replicate L.length (aft [u] a)) a) = true) := by
  obtain ⟨t, ht⟩ : ∃ t, aft [u] a = t := ⟨_, rfl⟩
  have et : t = 3 - a - u := by rw [← ht]; show (if u = a then a else 3 - a - u) = _; rw [if_neg h]
  have hb : 0 ≤ t ∧ t ≤ 2 := by rw [← ht]; exact aft1_bd hu ha
  have eaa : aft [a] a = a := by show (if a = a then a else _) = a; rw [if_pos rfl]
  have h0 := distP_nonneg L t
  have hr := distP_rep hb L.length a ha (by omega)
  have hd : distP (L ++ [u]) a = distP L t + pow2 L.length := by rw [distP_app, ht, if_neg h]
  have hr0 := distP_nonneg (List.replicate L.length t) a
  obtain ⟨d, hdd⟩ : ∃ d, d = (distP L t).toNat := ⟨_, rfl⟩
  obtain ⟨e, hee⟩ : ∃ e, e = (distP (List.replicate L.length t) a).toNat := ⟨_, rfl⟩
  have hK : (distP (L ++ [u]) a).toNat = d + 1 + e := by omega
  have hend : stN a d (L ++ [u]) = List.replicate L.length t ++ [u] := by
    rw [stN_app hu ha d L hp (by rw [ht]; omega), ht, stN_end hb d L hdd.symm hp]
  have hbig : stepW (List.replicate L.length t ++ [u]) a = List.replicate L.length t ++ [a] := by rw [← ht]; exact stepW_big h L.length
  have late : ∀ j, j ≤ e → stN a (d + 1 + j) (L ++ [u]) = stN a j (List.replicate L.length t) ++ [a] := by
    intro j hj
    rw [show d + 1 + j = d + (j + 1) by omega, stN_add, hend]
    show stN a j (stepW (List.replicate L.length t ++ [u]) a) = _
    rw [hbig, stN_app ha ha j _ (pegs_rep hb _) (by rw [eaa]; omega), eaa]
  rw [ht]
  unfold wayL
  rw [hK, on_iff, on_iff, on_iff, ← hdd, ← hee]
  constructor
  · rintro ⟨i, hi, hs⟩
    by_cases hid : i ≤ d
    · left
      rw [stN_app hu ha i L hp (by rw [ht]; omega), ht] at hs
      obtain ⟨h1, h2⟩ := List.append_inj hs (by rw [stN_len, hl])
      exact ⟨by injection h2 with h2; exact h2.symm, i, hid, h1⟩
    · right
      obtain ⟨j, rfl⟩ : ∃ j, i = d + 1 + j := ⟨i - d - 1, by omega⟩
      rw [late j (by omega)] at hs
      obtain ⟨h1, h2⟩ := List.append_inj hs (by rw [stN_len, List.length_replicate, hl])
      exact ⟨by injection h2 with h2; exact h2.symm, j, by omega, h1⟩
  · rintro (⟨rfl, i, hi, hs⟩ | ⟨rfl, j, hj, hs⟩)
    · exact ⟨i, by omega, by rw [stN_app hu ha i L hp (by rw [ht]; omega), ht, hs]⟩
    · exact ⟨d + 1 + j, by omega, by rw [late j hj, hs]⟩

end Go.Proofs.Ytbcgomimfgggnaa

namespace Go.Proofs.Ytbcgomimfgggnaa
open Go.RowKit
set_option linter.unusedVariables false
set_option maxRecDepth 100000

/-- The distance by rule. -/
def dR (L M : List Int) : Int := if grt L M L.length = -1 then 0 else min (oneN L M (grt L M L.length).toNat) (twoN L M (grt L M L.length).toNat)
theorem grt_app {L M R S : List Int} (hl : M.length = L.length) : ∀ k, k ≤ L.length → grt (L ++ R) (M ++ S) k = grt L M k
  | 0, _ => rfl
  | k + 1, hk => by
    show (if (L ++ R)[k]?.getD 0 = (M ++ S)[k]?.getD 0 then grt (L ++ R) (M ++ S) k else (k : Int)) = if L[k]?.getD 0 = M[k]?.getD 0 then grt L M k else (k : Int)
    rw [at_left (by omega), at_left (by omega), grt_app hl k (by omega)]
theorem at_end (L : List Int) (u : Int) : (L ++ [u])[L.length]?.getD 0 = u := by simp
theorem dR_same {L M : List Int} (hl : M.length = L.length) (u : Int) : dR (L ++ [u]) (M ++ [u]) = dR L M := by
  have hlen : (L ++ [u]).length = L.length + 1 := by simp
  have hg : grt (L ++ [u]) (M ++ [u]) (L ++ [u]).length = grt L M L.length := by
    rw [hlen]
    show (if (L ++ [u])[L.length]?.getD 0 = (M ++ [u])[L.length]?.getD 0 then grt (L ++ [u]) (M ++ [u]) L.length else ((L.length : Nat) : Int)) = _
    have e2 : (M ++ [u])[L.length]?.getD 0 = u := by rw [← hl]; exact at_end M u
    rw [at_end, e2, if_pos rfl, grt_app hl _ (Nat.le_refl _)]
  unfold dR
  rw [hg]
  have hb := grt_bd L M L.length
  by_cases h : grt L M L.length = -1
  · rw [if_pos h, if_pos h]
  · rw [if_neg h, if_neg h]
    have hd : (grt L M L.length).toNat < L.length := by omega
    generalize (grt L M L.length).toNat = d at hd ⊢
    unfold oneN twoN
    rw [at_left hd, at_left (by omega), List.take_append_of_le_length (by omega), List.take_append_of_le_length (by omega)]
theorem dR_diff {L M : List Int} (hl : M.length = L.length) {u v : Int} (h : u ≠ v) : dR (L ++ [u]) (M ++ [v]) = min (distP L (3 - u - v) + distP M (3 - u - v) + 1) (distP L v + distP M u + pow2 L.length + 1) := by
  have hlen : (L ++ [u]).length = L.length + 1 := by simp
  have e2 : (M ++ [v])[L.length]?.getD 0 = v := by rw [← hl]; exact at_end M v
  have hg : grt (L ++ [u]) (M ++ [v]) (L ++ [u]).length = ((L.length : Nat) : Int) := by
    rw [hlen]
    show (if (L ++ [u])[L.length]?.getD 0 = (M ++ [v])[L.length]?.getD 0 then grt (L ++ [u]) (M ++ [v]) L.length else ((L.length : Nat) : Int)) = _
    rw [at_end, e2, if_neg h]
  unfold dR
  rw [hg, if_neg (by omega), Int.toNat_natCast]
  unfold oneN twoN
  have t1 : (L ++ [u]).take L.length = L := by simp
  have t2 : (M ++ [v]).take L.length = M := by rw [← hl]; simp
  rw [at_end, e2, t1, t2]
theorem snoc_of {n : Nat} {L : List Int} (h : L.length = n + 1) : ∃ (L' : List Int) (u : Int), L = L' ++ [u] ∧ L'.length = n := by
  have hne : L ≠ [] := by intro e; subst e; simp at h
  exact ⟨L.dropLast, L.getLast hne, (List.dropLast_concat_getLast hne).symm, by rw [List.length_dropLast]; omega⟩
theorem pegs_snoc {L : List Int} {u : Int} (h : pegsOk (L ++ [u])) : pegsOk L ∧ 0 ≤ u ∧ u ≤ 2 := ⟨fun x hx => h x (List.mem_append_left _ hx), h u (by simp)⟩
theorem distP_lt : ∀ (L : List Int) (a : Int), distP L a ≤ pow2 L.length - 1
  | [], _ => by show (0 : Int) ≤ 1 - 1; omega
  | x :: r, a => by
    have ih := distP_lt r a
    rw [distP_cons, List.length_cons, pow2_succ]
    split <;> omega
theorem pow2_one (n : Nat) : 1 ≤ pow2 n := by
  induction n with
  | zero => exact Int.le_refl _
  | succ n ih => rw [pow2_succ]; omega
theorem aft1 (u a : Int) : aft [u] a = if u = a then a else 3 - a - u := rfl
/-- To two pegs together it is at least from the one to the other. -/
theorem distP_two : ∀ (n : Nat) (M : List Int), M.length = n → pegsOk M → ∀ u a : Int, 0 ≤ u ∧ u ≤ 2 → 0 ≤ a ∧ a ≤ 2 → u ≠ a → pow2 n - 1 ≤ distP M u + distP M a
  | 0, M, hM, _, u, a, _, _, _ => by
    have h1 := distP_nonneg M u
    have h2 := distP_nonneg M a
    show (1 : Int) - 1 ≤ _
    omega
  | n + 1, M, hM, hp, u, a, hu, ha, h => by
    obtain ⟨M', v, rfl, hl⟩ := snoc_of hM
    obtain ⟨hp', hv⟩ := pegs_snoc hp
    have ih := distP_two n M' hl hp'
    rw [distP_app, distP_app, hl, aft1, aft1, pow2_succ]
    have h1 := pow2_one n
    by_cases c1 : v = u
    · subst c1
      rw [if_pos rfl, if_pos rfl, if_neg h, if_neg h]
      have := ih v (3 - a - v) hv (by omega) (by omega)
      omega
    · by_cases c2 : v = a
      · subst c2
        rw [if_neg c1, if_neg c1, if_pos rfl, if_pos rfl]
        have := ih (3 - u - v) v (by omega) hv (by omega)
        omega
      · rw [if_neg c1, if_neg c1, if_neg c2, if_neg c2]
        have h3 := distP_nonneg M' (3 - u - v)
        have h4 := distP_nonneg M' (3 - a - v)
        omega
/-- From a perfect state on, the distance by rule is that to its peg. -/
theorem dR_perf : ∀ (n : Nat) (M : List Int), M.length = n → pegsOk M → ∀ t : Int, 0 ≤ t ∧ t ≤ 2 → dR (List.replicate n t) M = distP M t
  | 0, M, hM, _, t, _ => by
    obtain rfl : M = [] := List.length_eq_zero_iff.1 hM
    rfl
  | n + 1, M, hM, hp, t, ht => by
    obtain ⟨M', v, rfl, hl⟩ := snoc_of hM
    obtain ⟨hp', hv⟩ := pegs_snoc hp
    rw [List.replicate_succ', distP_app, aft1, hl]
    by_cases c : v = t
    · subst c
      rw [dR_same (by rw [hl, List.length_replicate]), dR_perf n M' hl hp' v hv, if_pos rfl, if_pos rfl, Int.add_zero]
    · rw [dR_diff (by rw [hl, List.length_replicate]) (fun e => c e.symm), if_neg c, if_neg c, List.length_replicate, distP_rep ht n (3 - t - v) (by omega) (by omega), distP_rep ht n v hv (fun e => c e.symm)]
      have h1 := distP_lt M' (3 - t - v)
      have h2 := distP_nonneg M' t
      have h3 := pow2_one n
      rw [hl] at h1
      omega
/-- On the way if, and only if, the distances add up. -/
theorem on_dist : ∀ (n : Nat) (L M : List Int), L.length = n → M.length = n → pegsOk L → pegsOk M → ∀ a : Int, 0 ≤ a ∧ a ≤ 2 → (onM M L (wayL L a) = true ↔ dR L M + distP M a = distP L a)
  | 0, L, M, hL, hM, _, _, a, _ => by
    obtain rfl : L = [] := List.length_eq_zero_iff.1 hL
    obtain rfl : M = [] := List.length_eq_zero_iff.1 hM
    exact ⟨fun _ => rfl, fun _ => rfl⟩
  | n + 1, L, M, hL, hM, hpL, hpM, a, ha => by
    obtain ⟨L', u, rfl, hl⟩ := snoc_of hL
    obtain ⟨M', v, rfl, hm⟩ := snoc_of hM
    obtain ⟨hp, hu⟩ := pegs_snoc hpL
    obtain ⟨hq, hv⟩ := pegs_snoc hpM
    have hml : M'.length = L'.length := by omega
    have ih := on_dist n
    have p1 := pow2_one n
    have dl := fun b => distP_lt L' b
    have dm := fun b => distP_lt M' b
    have nl := fun b => distP_nonneg L' b
    have nm := fun b => distP_nonneg M' b
    rw [hl] at dl
    rw [hm] at dm
    by_cases c : u = a
    · subst c
      rw [on_same ha hp hml, ih L' M' hl hm hp hq u ha, distP_app, distP_app, aft1, aft1, if_pos rfl, if_pos rfl, hm]
      by_cases d : v = u
      · subst d
        rw [dR_same hml, if_pos rfl, if_pos rfl, Int.add_zero, Int.add_zero]
        exact ⟨fun h => h.2, fun h => ⟨rfl, h⟩⟩
      · rw [if_neg d, if_neg d, dR_diff hml (fun e => d e.symm), hl]
        have a1 := dl u
        have a2 := nl (3 - u - v)
        have a3 := nm (3 - u - v)
        have a4 := nl v
        have a5 := nm u
        constructor
        · intro h; exact absurd h.1 d
        · intro h; omega
    · obtain ⟨t, ht⟩ : ∃ t, t = 3 - a - u := ⟨_, rfl⟩
      have htb : 0 ≤ t ∧ t ≤ 2 := by omega
      have e1 : aft [u] a = t := by rw [aft1, if_neg c, ht]
      rw [on_move hu ha c hp hml, e1, ih L' M' hl hm hp hq t htb, ih _ M' (by rw [List.length_replicate, hl]) hm (pegs_rep htb _) hq a ha, distP_app, distP_app, e1, if_neg c, aft1, hm, hl, dR_perf n M' hm hq t htb, distP_rep htb n a ha (by omega)]
      by_cases d : v = u
      · subst d
        rw [dR_same hml, if_neg c, if_neg c, ← ht]
        constructor
        · rintro (h | h)
          · omega
          · exact absurd h.1 c
        · intro h
          exact .inl ⟨rfl, by omega⟩
      · rw [dR_diff hml (fun e => d e.symm), hl]
        by_cases d2 : v = a
        · subst d2
          rw [if_pos rfl, if_pos rfl, show 3 - u - v = t by omega]
          have a1 := distP_two n M' hm hq u v hu hv c
          have a2 := dl t
          have a3 := nl v
          constructor
          · rintro (h | h)
            · exact absurd h.1.symm c
            · omega
          · intro h
            exact .inr ⟨rfl, by omega⟩
        · rw [if_neg d2, if_neg d2, show 3 - u - v = a by omega, show 3 - a - v = u by omega, show v = t by omega]
          have a1 := distP_two n M' hm hq u a hu ha c
          have a2 := dl t
          have a3 := nl a
          have a4 := nm u
          have a5 := nl t
          constructor
          · rintro (h | h)
            · omega
            · omega
          · intro h; omega

end Go.Proofs.Ytbcgomimfgggnaa

namespace Go.Proofs.Ytbcgomimfgggnaa
open Go.RowKit
set_option linter.unusedVariables false
set_option maxRecDepth 100000

def dpV (p : Int) (L : List Int) (a : Int) : Int := if codeW p L a = 0 then distP L a else 0

theorem ret_twoD' {a b c d : Int} (h : c = a) (h' : d = b) : Ending.returned (.tuple #[.int .i64 a, .int .i64 b]) = .returned (.tuple #[.int .i64 c, .int .i64 d]) := by rw [h, h']

set_option maxHeartbeats 1000000 in
theorem implDistTo_calls (A : Option Addr) (n c : Nat) (p : Int) (L : List Int) (a : Int) (w : World) (hL : L.length = n) (hn : n ≤ 1048576) (hI : Ints w A L) :
    Calls Try.prog 16 #[.agg #[.int .i64 p, .slice A n c], .int .i64 a] w fun e w' => e = .returned (.tuple #[.int .i64 (dpV p L a), .int .i64 (codeW p L a)]) ∧ Below w.heap.size w w' := by
  have HL := Lib.hid hL
  have X0 := Lib.hid ((Box.new w 30 #[.int .i64 p, .slice A n c]).alloc (.cells #[.int .i64 p, .slice A n c] 30))
  have hX : Box ((w.alloc (.cells #[.int .i64 p, .slice A n c] 30)).alloc (.cells #[.int .i64 p, .slice A n c] 30)) (w.heap.size + 1) 30 #[.int .i64 p, .slice A n c] := by
    have := Box.new (w.alloc (.cells #[.int .i64 p, .slice A n c] 30)) 30 #[.int .i64 p, .slice A n c]
    rwa [World.size_alloc] at this
  have Y0 := Lib.hid hX
  have HB0 := Lib.hid (((Below.refl _ w).alloc (Nat.le_refl _) (.cells #[.int .i64 p, .slice A n c] 30)).alloc (by simp) (.cells #[.int .i64 p, .slice A n c] 30))
  have HI0 := Lib.hid (hI.below HB0.out)
  clear hL hI hX
  by_cases hz : codeW p L a = 0
  · obtain ⟨hs, hp, ha⟩ := codeW_zero hz
    have e1 : Hid (dpV p L a = distP L a) := by unfold Hid dpV; rw [if_pos hz]
    have HZ := Lib.hid hz
    have hz' : (codeW p L a != 0) = false := by simpa using hz
    subst hp
    have h8 := (state_facts hs HL.out).2.2.1
    have HP := Lib.hid (state_pegsOk hs)
    clear hz hs
    go_enter Try.func16, Try.ntmps16
    go_wp2_with fail
    refine (codeOfPeg_one (w.heap.size + 1) A n c 3 L a _ Y0.out HL.out hn HI0.out).mono ?_
    rintro e w1 ⟨rfl, hb1⟩
    have X1 := Lib.hid (X0.out.below hb1 X0.out.lt)
    have HB1 := Lib.hid (HB0.out.trans (hb1.mono HB0.out.size))
    have HI1 := Lib.hid (HI0.out.below hb1)
    clear hb1
    obtain ⟨x0, x1, _, _⟩ := X1.out.two
    go_wp2_with fail
    refine (distanceToPeg_calls A n c L a _ HL.out h8 HI1.out HP.out ha).mono ?_
    rintro e w2 ⟨rfl, hb2⟩
    have HB2 := Lib.hid (HB1.out.trans (hb2.mono HB1.out.size))
    clear hb2
    go_wp2
    go_ret2
    exact ⟨ret_twoD' e1.out HZ.out, HB2.out⟩
  · have hz' : (codeW p L a != 0) = true := by simpa using hz
    have e1 : Hid (dpV p L a = 0) := by unfold Hid dpV; rw [if_neg hz]
    go_enter Try.func16, Try.ntmps16
    go_wp2_with fail
    refine (codeOfPeg_one (w.heap.size + 1) A n c p L a _ Y0.out HL.out hn HI0.out).mono ?_
    rintro e w1 ⟨rfl, hb1⟩
    have HB1 := Lib.hid (HB0.out.trans (hb1.mono HB0.out.size))
    clear hb1
    go_wp2
    go_ret2
    exact ⟨ret_twoD' e1.out rfl, HB1.out⟩

end Go.Proofs.Ytbcgomimfgggnaa

namespace Go.Proofs.Ytbcgomimfgggnaa
open Go.RowKit
set_option linter.unusedVariables false
set_option maxRecDepth 100000

set_option maxHeartbeats 400000 in
theorem perfectState_calls (k a : Int) (n : Nat) (w : World) (hn : n ≤ 8) :
    Calls Try.prog 70 #[.int .i64 k, .int .i64 n, .int .i64 a] w fun e w' => ∃ A c, e = .returned (.agg #[.int .i64 k, .slice A n c]) ∧ Own w.heap.size w' A n c (List.replicate n a) ∧ Below w.heap.size w w' := by
  have hmk := run_make_row' (P := Try.prog) 28 2 (.int .i64 0) 8 Try.underlying28 Try.infoI rfl .i64 .i64 n (by omega) (by omega)
  go_enter Try.func70, Try.ntmps70
  go_wp2
  go_loopw [8, 13] (fun _ i wr => ∃ j : Nat, j ≤ n ∧ i = .int .i64 j ∧ wr.rowIs (w.heap.size + 1) 2 n (upto (List.replicate n a) j) ∧ Box wr w.heap.size 30 #[.int .i64 0, .slice none 0 0] ∧ Below w.heap.size w wr) (fun _ i _ => n - (intOf i).toNat)
  case atStart =>
    have e1 : Box (w.alloc (.cells #[.int .i64 0, .slice none 0 0] 30)) w.heap.size 30 #[.int .i64 0, .slice none 0 0] := Box.new _ _ _
    have e2 := World.rowIs_made (w.alloc (.cells #[.int .i64 0, .slice none 0 0] 30)) (.int .i64 0) n 2
    rw [World.size_alloc] at e2
    exact ⟨0, Nat.zero_le _, rfl, e2.congr (fun i _ => by simp [upto]), e1.alloc _, ((Below.refl _ _).alloc (Nat.le_refl _) _).alloc (by simp) _⟩
  case round =>
    obtain ⟨j, hj, rfl, hrow, hbx, hb⟩ := hrel
    have HBX := Lib.hid hbx
    have HB := Lib.hid hb
    clear hbx hb
    by_cases hlt : j < n
    · have hfz := hrow.frozen j
      have hold := hrow.cell hlt
      have HR := Lib.hid hrow
      clear hrow
      have hst := Lib.hid (upto_step (List.replicate n a) j)
      have hat : Hid ((List.replicate n a)[j]?.getD 0 = a) := by unfold Hid; simp [hlt]
      go_wp2
      go_roundw
      case rel =>
        refine ⟨j + 1, by omega, by go_num, (HR.out.set j _).congr (fun i _ => ?_), HBX.out.other (by simp) _, HB.out.setCell (by simp) _⟩
        have := hst.out i
        rw [hat.out] at this
        exact this
      case measure => simp [intOf]; omega
    · obtain rfl : j = n := by omega
      have HR := Lib.hid hrow
      clear hrow
      obtain ⟨r0, r1, g0, g1⟩ := HBX.out.two
      go_wp2
      have hrow' : Row wr (w.heap.size + 1) 2 (List.replicate j a) := by
        unfold Row
        rw [List.length_replicate]
        exact HR.out.congr (fun i hi => by simp [upto, hi])
      have hown := hrow'.own (B := w.heap.size) (by omega) (by simp; omega)
      rw [List.length_replicate] at hown
      refine bodyPost_ret (v := .agg #[.int .i64 k, .slice (some ⟨w.heap.size + 1, 0, none⟩) j j]) (by simp [results, Try.results70, go_sem, r0, r1]) rfl ⟨_, _, rfl, ?_, ?_⟩
      · exact (hown.setBoxed HBX.out (by decide) _ _).setBoxed (HBX.out.set _ _) (by decide) _ _
      · exact (HB.out.setCell (Nat.le_refl _) _).setCell (Nat.le_refl _) _

/-- What PerfectState answers. -/
def perfB (k n a : Int) : Bool := fitsB k n && inB a 0 (k - 1)
def perfP (k n a : Int) : Int := if perfB k n a = true then k else 0
def perfL (k n a : Int) : List Int := if perfB k n a = true then List.replicate n.toNat a else []
def perfE (k n a : Int) : Int := if perfB k n a = true then 0 else 2
theorem perfL_len (k n a : Int) : (perfL k n a).length ≤ 1048576 := by
  unfold perfL
  by_cases h : perfB k n a = true
  · rw [if_pos h, List.length_replicate]
    unfold perfB at h
    simp only [Bool.and_eq_true] at h
    have := fitsB_bd h.1
    omega
  · rw [if_neg h]; simp
theorem perf_yes {k n a : Int} (h : perfB k n a = true) : perfP k n a = k ∧ perfL k n a = List.replicate n.toNat a ∧ perfE k n a = 0 := by unfold perfP perfL perfE; simp [h]
theorem perf_no {k n a : Int} (h : perfB k n a = false) : perfP k n a = 0 ∧ perfL k n a = [] ∧ perfE k n a = 2 := by unfold perfP perfL perfE; simp [h]

/-- The answer where there is none: no state, and a code. -/
theorem retState_zero {w w' : World} {e : Ending} {E : Int} (he : e = .returned (.tuple #[.agg #[.int .i64 0, .slice none 0 0], .int .i64 E])) (hb : Below w.heap.size w w') : RetState w 0 ([] : List Int).length [] E e w' :=
  ⟨none, 0, he, Own.nilS _ _, hb⟩

end Go.Proofs.Ytbcgomimfgggnaa

namespace Go.Proofs.Ytbcgomimfgggnaa
open Go.RowKit
set_option linter.unusedVariables false
set_option maxRecDepth 100000

theorem nb_dR {p q : Int} {L M : List Int} (h : code2 p L q M = 0) : nwV 0 min p L q M = dR L M := by unfold nwV dR; rw [if_pos h]
theorem dp_is {p a : Int} {L : List Int} (h : codeW p L a = 0) : dpV p L a = distP L a := by unfold dpV; rw [if_pos h]
/-- Where IsOnWay has an answer, both distances to the peg have one, and it is yes if, and only if, they add up. -/
theorem fw_on {p q a : Int} {L M : List Int} (h : owE p L a q M = 0) : code2 p L q M = 0 ∧ codeW p L a = 0 ∧ codeW q M a = 0 ∧ (owV p L a q M = true ↔ nwV 0 min p L q M + dpV q M a = dpV p L a) := by
  have h2 : code2 p L q M = 0 := by
    by_cases e : code2 p L q M = 0
    · exact e
    · unfold owE at h; rw [if_neg e] at h; exact absurd h e
  have ha : inB a 0 2 = true := by
    unfold owE at h
    rw [if_pos h2] at h
    split at h
    · assumption
    · omega
  obtain ⟨hs, ht, rfl, rfl, hl⟩ := code2_zero h2
  have ha2 : 0 ≤ a ∧ a ≤ 2 := by unfold inB at ha; simpa using ha
  have c1 : codeW 3 L a = 0 := by unfold codeW code1; rw [if_pos hs, if_pos rfl, if_pos rfl, if_pos ha]
  have c2 : codeW 3 M a = 0 := by unfold codeW code1; rw [if_pos ht, if_pos rfl, if_pos rfl, if_pos ha]
  refine ⟨h2, c1, c2, ?_⟩
  rw [nb_dR h2, dp_is c1, dp_is c2]
  unfold owV
  rw [if_pos ⟨h2, ha⟩]
  exact on_dist L.length L M rfl hl.symm (state_pegsOk hs) (state_pegsOk ht) a ha2
/-- Where WayToPeg has an answer, it has as many moves as the distance, is legal, and leads to the perfect state. -/
theorem fw_way {p a : Int} {L : List Int} (h : codeW p L a = 0) : p = 3 ∧ stateB 3 L = true ∧ ((wayL L a).length : Int) = dpV p L a ∧ okA 3 L (wayL L a) (wayL L a).length = true ∧ stA L (wayL L a) (wayL L a).length = List.replicate L.length a ∧
    perfP 3 L.length a = 3 ∧ perfL 3 L.length a = List.replicate L.length a ∧ perfE 3 L.length a = 0 := by
  obtain ⟨hs, rfl, ha⟩ := codeW_zero h
  have hp := state_pegsOk hs
  obtain ⟨r1, r2⟩ := way_run a ha _ L rfl hp
  have h0 := distP_nonneg L a
  have hB : perfB 3 L.length a = true := by
    have hf := stateB_fits hs
    unfold perfB inB
    rw [hf]
    simp
    omega
  refine ⟨rfl, hs, ?_, r1, r2, by unfold perfP; rw [if_pos hB], ?_, by unfold perfE; rw [if_pos hB]⟩
  · rw [wayL_len, dp_is h]; omega
  · unfold perfL; rw [if_pos hB, Int.toNat_natCast]

end Go.Proofs.Ytbcgomimfgggnaa

namespace Go.Proofs.Ytbcgomimfgggnaa
open Go.RowKit
set_option linter.unusedVariables false
set_option maxRecDepth 100000

/-- The moves are legal, one after the other, and lead from L to E. -/
def RunTo (L : List Int) (W : List Mv) (E : List Int) : Prop := okA 3 L W W.length = true ∧ stA L W W.length = E
theorem run_nil (L : List Int) : RunTo L [] L := ⟨rfl, rfl⟩
theorem run_nil_is {L E : List Int} (h : RunTo L [] E) : L = E := h.2
theorem run_iff (L : List Int) (m : Mv) (W : List Mv) (E : List Int) : RunTo L (m :: W) E ↔ legalB 3 L m.1 m.2.1 m.2.2 = true ∧ RunTo (L.set m.1.toNat m.2.2) W E := by
  unfold RunTo
  rw [List.length_cons, okA_cons, stA_cons, Bool.and_eq_true, and_assoc]
theorem run_app : ∀ (W : List Mv) (L E : List Int) (W' : List Mv) (E' : List Int), RunTo L W E → RunTo E W' E' → RunTo L (W ++ W') E'
  | [], L, E, W', E', h, h' => by
    have e := run_nil_is h
    subst e
    exact h'
  | m :: W, L, E, W', E', h, h' => by
    obtain ⟨h1, h2⟩ := (run_iff _ _ _ _).1 h
    exact (run_iff _ _ _ _).2 ⟨h1, run_app W _ E W' E' h2 h'⟩
theorem legal_parts {L : List Int} {d f t : Int} (h : legalB 3 L d f t = true) : (0 ≤ d ∧ d < L.length ∧ 0 ≤ t ∧ t < 3 ∧ f ≠ t ∧ L[d.toNat]?.getD 0 = f) ∧ ∀ i, i < d.toNat → L[i]?.getD 0 ≠ f ∧ L[i]?.getD 0 ≠ t := by
  unfold legalB at h
  rw [Bool.and_eq_true, decide_eq_true_iff, List.all_eq_true] at h
  obtain ⟨⟨h1, h2, h3, h4, h5, h6⟩, h7⟩ := h
  rw [List.getD_eq_getElem?_getD] at h6
  refine ⟨⟨h1, h2, h3, h4, h5, h6⟩, fun i hi => ?_⟩
  have h8 := h7 i (List.mem_range.2 hi)
  simpa using h8
theorem legal_mk {L : List Int} {d f t : Int} (h : 0 ≤ d ∧ d < L.length ∧ 0 ≤ t ∧ t < 3 ∧ f ≠ t ∧ L[d.toNat]?.getD 0 = f) (h2 : ∀ i, i < d.toNat → L[i]?.getD 0 ≠ f ∧ L[i]?.getD 0 ≠ t) : legalB 3 L d f t = true :=
  legal_yes ⟨h.1, h.2.1, h.2.2.1, h.2.2.2.1, h.2.2.2.2.1, by rw [List.getD_eq_getElem?_getD]; exact h.2.2.2.2.2⟩ (fun i hi => by rw [List.getD_eq_getElem?_getD]; exact h2 i hi)
theorem set_other {L : List Int} {k i : Nat} {t : Int} (h : i ≠ k) : (L.set k t)[i]?.getD 0 = L[i]?.getD 0 := by rw [List.getElem?_set_ne (fun e => h e.symm)]
theorem set_at {L : List Int} {k : Nat} {t : Int} (h : k < L.length) : (L.set k t)[k]?.getD 0 = t := by rw [List.getElem?_set_self h]; rfl
theorem legal_back {L : List Int} {d f t : Int} (h : legalB 3 L d f t = true) (hp : pegsOk L) : legalB 3 (L.set d.toNat t) d t f = true ∧ (L.set d.toNat t).set d.toNat f = L ∧ pegsOk (L.set d.toNat t) := by
  obtain ⟨⟨h1, h2, h3, h4, h5, h6⟩, h7⟩ := legal_parts h
  have hk : d.toNat < L.length := by omega
  have hf := pegsOk_at hp hk
  rw [h6] at hf
  refine ⟨legal_mk ⟨h1, by rw [List.length_set]; exact h2, hf.1, by omega, fun e => h5 e.symm, set_at hk⟩ (fun i hi => ?_), ?_, ?_⟩
  · rw [set_other (by omega)]
    exact ⟨(h7 i hi).2, (h7 i hi).1⟩
  · refine ext_of (n := L.length) (by simp) rfl (fun i hi => ?_)
    by_cases e : i = d.toNat
    · subst e
      rw [set_at (by simpa using hk), h6]
    · rw [set_other e, set_other e]
  · intro x hx
    rcases List.mem_or_eq_of_mem_set hx with h | h
    · exact hp x h
    · subst h; omega
theorem run_back : ∀ (W : List Mv) (L E : List Int), pegsOk L → RunTo L W E → RunTo E (bkL W) L
  | [], L, E, hp, h => by
    have e := run_nil_is h
    subst e
    exact run_nil _
  | m :: W, L, E, hp, h => by
    obtain ⟨h1, h2⟩ := (run_iff _ _ _ _).1 h
    obtain ⟨b1, b2, b3⟩ := legal_back h1 hp
    rw [bkL_cons]
    refine run_app _ _ _ _ _ (run_back W _ E b3 h2) ((run_iff _ _ _ _).2 ⟨b1, ?_⟩)
    show RunTo ((L.set m.1.toNat m.2.2).set m.1.toNat m.2.1) [] L
    rw [b2]
    exact run_nil _
theorem legal_ext {L R : List Int} {d f t : Int} (h : legalB 3 L d f t = true) : legalB 3 (L ++ R) d f t = true ∧ (L ++ R).set d.toNat t = L.set d.toNat t ++ R := by
  obtain ⟨⟨h1, h2, h3, h4, h5, h6⟩, h7⟩ := legal_parts h
  have hk : d.toNat < L.length := by omega
  refine ⟨legal_mk ⟨h1, by rw [List.length_append]; omega, h3, h4, h5, by rw [at_left hk]; exact h6⟩ (fun i hi => ?_), ?_⟩
  · rw [at_left (by omega)]
    exact h7 i hi
  · rw [List.set_append_left _ _ hk]
theorem run_ext (R : List Int) : ∀ (W : List Mv) (L E : List Int), RunTo L W E → RunTo (L ++ R) W (E ++ R)
  | [], L, E, h => by
    have e := run_nil_is h
    subst e
    exact run_nil _
  | m :: W, L, E, h => by
    obtain ⟨h1, h2⟩ := (run_iff _ _ _ _).1 h
    obtain ⟨e1, e2⟩ := legal_ext (R := R) h1
    refine (run_iff _ _ _ _).2 ⟨e1, ?_⟩
    rw [e2]
    exact run_ext R W _ E h2
theorem run_step (D : Nat) (c P Q : Int) (S : List Int) (h1 : c ≠ P) (h2 : c ≠ Q) (h3 : P ≠ Q) (h4 : 0 ≤ Q ∧ Q ≤ 2) : RunTo (List.replicate D c ++ P :: S) [((D : Int), P, Q)] (List.replicate D c ++ Q :: S) := by
  have hD : (List.replicate D c).length = D := by simp
  refine (run_iff _ _ _ _).2 ⟨legal_mk ⟨by omega, by simp; omega, h4.1, (by show Q < 3; omega), h3, ?_⟩ (fun i hi => ?_), ?_⟩
  · show (List.replicate D c ++ P :: S)[((D : Nat) : Int).toNat]?.getD 0 = P
    rw [Int.toNat_natCast, List.getElem?_append_right (by simp), hD, Nat.sub_self]
    rfl
  · have hi' : i < D := by simpa using hi
    rw [at_left (by simpa using hi'), List.getElem?_replicate, if_pos hi']
    exact ⟨h1, h2⟩
  · show RunTo ((List.replicate D c ++ P :: S).set ((D : Nat) : Int).toNat Q) [] _
    rw [Int.toNat_natCast, List.set_append_right _ _ (by simp), hD, Nat.sub_self]
    exact run_nil _
theorem split_at' {L : List Int} {D : Nat} (h : D < L.length) : L = L.take D ++ L[D]?.getD 0 :: L.drop (D + 1) := by
  have e : L[D]?.getD 0 = L[D] := by rw [List.getElem?_eq_getElem h]; rfl
  rw [e, ← List.drop_eq_getElem_cons h, List.take_append_drop]
theorem grt_above {L M : List Int} {D : Nat} : ∀ n, grt L M n = D → ∀ i, D < i → i < n → L[i]?.getD 0 = M[i]?.getD 0
  | 0, h, i, _, hi => absurd hi (by omega)
  | n + 1, h, i, hDi, hi => by
    by_cases e : L[n]?.getD 0 = M[n]?.getD 0
    · rw [grt_step_eq e] at h
      by_cases hin : i = n
      · rw [hin]; exact e
      · exact grt_above n h i hDi (by omega)
    · rw [grt_step_ne e] at h
      omega
theorem grt_none {L M : List Int} : ∀ n, grt L M n = -1 → ∀ i, i < n → L[i]?.getD 0 = M[i]?.getD 0
  | 0, h, i, hi => absurd hi (by omega)
  | n + 1, h, i, hi => by
    by_cases e : L[n]?.getD 0 = M[n]?.getD 0
    · rw [grt_step_eq e] at h
      by_cases hin : i = n
      · rw [hin]; exact e
      · exact grt_none n h i (by omega)
    · rw [grt_step_ne e] at h
      omega
theorem drop_same {L M : List Int} {n D : Nat} (hL : L.length = n) (hM : M.length = n) (hg : grt L M n = D) : L.drop (D + 1) = M.drop (D + 1) := by
  refine ext_of (n := n - (D + 1)) (by simp; omega) (by simp; omega) (fun i hi => ?_)
  rw [List.getElem?_drop, List.getElem?_drop]
  exact grt_above n hg _ (by omega) (by omega)
theorem way_to {L : List Int} {a : Int} (hp : pegsOk L) (ha : 0 ≤ a ∧ a ≤ 2) : RunTo L (wayL L a) (List.replicate L.length a) := way_run a ha _ L rfl hp
theorem w1_run {L M S : List Int} {D : Nat} {P Q : Int} (hL : L.length = D) (hM : M.length = D) (hp : pegsOk L) (hq : pegsOk M) (hP : 0 ≤ P ∧ P ≤ 2) (hQ : 0 ≤ Q ∧ Q ≤ 2) (h : P ≠ Q) :
    RunTo (L ++ P :: S) (wayL L (3 - P - Q) ++ ([((D : Int), P, Q)] ++ bkL (wayL M (3 - P - Q)))) (M ++ Q :: S) := by
  have hr : 0 ≤ 3 - P - Q ∧ 3 - P - Q ≤ 2 := by omega
  have a1 := run_ext (P :: S) _ _ _ (way_to hp hr)
  have a2 := run_step D (3 - P - Q) P Q S (by omega) (by omega) h hQ
  have a3 := run_ext (Q :: S) _ _ _ (run_back _ _ _ hq (way_to hq hr))
  rw [hL] at a1
  rw [hM] at a3
  exact run_app _ _ _ _ _ a1 (run_app _ _ _ _ _ a2 a3)
theorem w2_run {L M S : List Int} {D : Nat} {P Q : Int} (hL : L.length = D) (hM : M.length = D) (hp : pegsOk L) (hq : pegsOk M) (hP : 0 ≤ P ∧ P ≤ 2) (hQ : 0 ≤ Q ∧ Q ≤ 2) (h : P ≠ Q) :
    RunTo (L ++ P :: S) (wayL L Q ++ ([((D : Int), P, 3 - P - Q)] ++ (wayL (List.replicate D Q) P ++ ([((D : Int), 3 - P - Q, Q)] ++ bkL (wayL M P))))) (M ++ Q :: S) := by
  have hr : 0 ≤ 3 - P - Q ∧ 3 - P - Q ≤ 2 := by omega
  have a1 := run_ext (P :: S) _ _ _ (way_to hp hQ)
  have a2 := run_step D Q P (3 - P - Q) S (fun e => h e.symm) (by omega) (by omega) hr
  have a3 := run_ext ((3 - P - Q) :: S) _ _ _ (way_to (rep_pegs hQ D) hP)
  have a4 := run_step D P (3 - P - Q) Q S (by omega) h (by omega) hQ
  have a5 := run_ext (Q :: S) _ _ _ (run_back _ _ _ hq (way_to hq hP))
  rw [hL] at a1
  rw [hM] at a5
  rw [List.length_replicate] at a3
  exact run_app _ _ _ _ _ a1 (run_app _ _ _ _ _ a2 (run_app _ _ _ _ _ a3 (run_app _ _ _ _ _ a4 a5)))
theorem len_way (L : List Int) (a : Int) : ((wayL L a).length : Int) = distP L a := by
  have := distP_nonneg L a
  rw [wayL_len]
  omega
theorem w1_len (L M : List Int) (D : Nat) : ((w1L L M D (L[D]?.getD 0) (M[D]?.getD 0)).length : Int) = oneN L M D := by
  have h1 := len_way (L.take D) (3 - L[D]?.getD 0 - M[D]?.getD 0)
  have h2 := len_way (M.take D) (3 - L[D]?.getD 0 - M[D]?.getD 0)
  unfold w1L oneN
  simp only [List.length_append, List.length_cons, List.length_nil, bkL_len]
  omega
theorem w2_len (L M : List Int) (D : Nat) (hP : 0 ≤ L[D]?.getD 0 ∧ L[D]?.getD 0 ≤ 2) (hQ : 0 ≤ M[D]?.getD 0 ∧ M[D]?.getD 0 ≤ 2) (h : L[D]?.getD 0 ≠ M[D]?.getD 0) : ((w2L L M D (L[D]?.getD 0) (M[D]?.getD 0)).length : Int) = twoN L M D := by
  have h1 := len_way (L.take D) (M[D]?.getD 0)
  have h2 := len_way (M.take D) (L[D]?.getD 0)
  have h3 := len_way (List.replicate D (M[D]?.getD 0)) (L[D]?.getD 0)
  rw [distP_rep hQ D _ hP (fun e => h e.symm)] at h3
  unfold w2L twoN
  simp only [List.length_append, List.length_cons, List.length_nil, bkL_len]
  omega
/-- Where WayBetween has an answer: it is as long as the distance, legal, and leads to the second state. -/
theorem fd_way {p q : Int} {L M : List Int} (h : code2 p L q M = 0) : p = 3 ∧ stateB 3 L = true ∧ ((wbL p L q M).length : Int) = nwV 0 min p L q M ∧ nbC 0 p L q M = 0 ∧ okA 3 L (wbL p L q M) (wbL p L q M).length = true ∧ stA L (wbL p L q M) (wbL p L q M).length = M ∧ q = 3 := by
  obtain ⟨hs, ht, rfl, rfl, hl⟩ := code2_zero h
  have hn : nbC 0 3 L 3 M = 0 := by
    unfold nbC
    rw [if_pos h]
    split <;> rfl
  have hpL := state_pegsOk hs
  have hpM := state_pegsOk ht
  rcases grt_cases L M L.length with hg | ⟨D, hg⟩
  · have e : L = M := ext_of rfl hl.symm (grt_none _ hg)
    rw [wbL_same h rfl hg]
    refine ⟨rfl, hs, ?_, hn, rfl, e, rfl⟩
    unfold nwV
    rw [if_pos h, if_pos hg]
    rfl
  · obtain ⟨hD, hP0, hP1, hQ0, hQ1, hne⟩ := carry_facts hpL hpM rfl hl.symm hg
    have hLT : (L.take D).length = D := by rw [List.length_take]; omega
    have hMT : (M.take D).length = D := by rw [List.length_take]; omega
    have sL := split_at' hD
    have sM := split_at' (L := M) (D := D) (by omega)
    rw [← drop_same rfl hl.symm hg] at sM
    have hrun : RunTo L (wbD L M D) M := by
      unfold wbD
      split
      · have k := w1_run (S := L.drop (D + 1)) hLT hMT (pegsOk_take hpL D) (pegsOk_take hpM D) ⟨hP0, hP1⟩ ⟨hQ0, hQ1⟩ hne
        rw [← sL, ← sM] at k
        exact k
      · have k := w2_run (S := L.drop (D + 1)) hLT hMT (pegsOk_take hpL D) (pegsOk_take hpM D) ⟨hP0, hP1⟩ ⟨hQ0, hQ1⟩ hne
        rw [← sL, ← sM] at k
        exact k
    have hlen : ((wbD L M D).length : Int) = min (oneN L M D) (twoN L M D) := by
      unfold wbD
      split
      · rw [w1_len]; omega
      · rw [w2_len L M D ⟨hP0, hP1⟩ ⟨hQ0, hQ1⟩ hne]; omega
    rw [wbL_at h rfl hg]
    refine ⟨rfl, hs, ?_, hn, hrun.1, hrun.2, rfl⟩
    rw [hlen]
    unfold nwV
    rw [if_pos h, hg, if_neg (by omega), Int.toNat_natCast]
theorem grt_comm (L M : List Int) : ∀ n, grt L M n = grt M L n
  | 0 => rfl
  | n + 1 => by
    by_cases e : L[n]?.getD 0 = M[n]?.getD 0
    · rw [grt_step_eq e, grt_step_eq e.symm]; exact grt_comm L M n
    · rw [grt_step_ne e, grt_step_ne (fun h => e h.symm)]
theorem oneN_comm (L M : List Int) (D : Nat) : oneN L M D = oneN M L D := by
  unfold oneN
  rw [show 3 - M[D]?.getD 0 - L[D]?.getD 0 = 3 - L[D]?.getD 0 - M[D]?.getD 0 by omega]
  omega
theorem twoN_comm (L M : List Int) (D : Nat) : twoN L M D = twoN M L D := by
  unfold twoN
  omega
theorem code2_comm {p q : Int} {L M : List Int} (h : code2 p L q M = 0) : code2 q M p L = 0 := by
  obtain ⟨hs, ht, rfl, rfl, hl⟩ := code2_zero h
  unfold code2
  rw [if_pos ⟨ht, hs⟩, if_pos ⟨rfl, rfl, hl.symm⟩]
/-- Where there is a distance, it is that of the way back; the numbers of ways are 1 or 2. -/
theorem fd_two {p q : Int} {L M : List Int} (h : nbC 0 p L q M = 0) : nwV 0 min q M p L = nwV 0 min p L q M ∧ nbC 0 q M p L = 0 ∧ (1 ≤ nwV 1 waysI p L q M ∧ nwV 1 waysI p L q M ≤ 2) ∧
    (nbC 5 p L q M ≠ 0 ∨ (nbC 5 p L q M = 0 ∧ nwV 0 min p L q M = min (nwV 0 fstI p L q M) (nwV 0 sndI p L q M) ∧ (nwV 1 waysI p L q M = 2 ↔ nwV 0 fstI p L q M = nwV 0 sndI p L q M))) := by
  have hc : code2 p L q M = 0 := by
    by_cases e : code2 p L q M = 0
    · exact e
    · rw [nbC_code e] at h; exact absurd h e
  have hc2 := code2_comm hc
  have hl := (code2_zero hc).2.2.2.2
  have hg2 : grt M L M.length = grt L M L.length := by rw [← hl]; exact grt_comm M L _
  refine ⟨?_, ?_, ?_, ?_⟩
  · unfold nwV
    rw [if_pos hc, if_pos hc2, hg2, oneN_comm M L, twoN_comm M L]
  · unfold nbC
    rw [if_pos hc2]
    split <;> rfl
  · unfold nwV
    rw [if_pos hc]
    split
    · omega
    · unfold waysI; split <;> omega
  · by_cases hg : grt L M L.length = -1
    · left
      unfold nbC
      rw [if_pos hc, if_pos hg]
      decide
    · right
      unfold nbC nwV
      rw [if_pos hc, if_neg hg, if_pos hc, if_pos hc, if_pos hc, if_pos hc, if_neg hg, if_neg hg, if_neg hg, if_neg hg]
      refine ⟨rfl, rfl, ?_⟩
      unfold waysI fstI sndI
      split <;> simp_all

end Go.Proofs.Ytbcgomimfgggnaa
