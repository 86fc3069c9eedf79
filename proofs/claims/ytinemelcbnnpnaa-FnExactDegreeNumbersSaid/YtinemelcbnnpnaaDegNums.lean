/- Contracts: the numbers of states by degrees. -/
import Derived.Test.YtinemelcbnnpnaaEdges
import Derived.Test.YtinemelcbnnpnaaMvS
namespace Go.Proofs.Ytinemelcbnnpnaa
open Go.RowKit Go.Shelf
set_option linter.unusedVariables false
attribute [local go_sem] Oper.semAt_some

def lenOf : Value → Nat
  | .slice _ n _ => n
  | _ => 0
/-- One more is counted at d: the list grows as far as is wanted. -/
def growTo (out : List Int) (d : Nat) : List Int := out ++ List.replicate (d + 1 - out.length) 0
def stepD (out : List Int) (d : Nat) : List Int := (growTo out d).set d ((growTo out d)[d]?.getD 0 + 1)
def dnL (k : Int) (m : Nat) : Nat → List Int
  | 0 => []
  | j + 1 => stepD (dnL k m j) (degN k m j)
theorem growTo_len (out : List Int) (d : Nat) : (growTo out d).length = max out.length (d + 1) := by unfold growTo; simp; omega
theorem stepD_len (out : List Int) (d : Nat) : (stepD out d).length = max out.length (d + 1) := by unfold stepD; rw [List.length_set, growTo_len]
theorem dnL_len {k : Int} {m : Nat} (hf : fitsB k m = true) : ∀ j, (dnL k m j).length ≤ 41
  | 0 => by simp [dnL]
  | j + 1 => by have := dnL_len hf j; have := degN_le hf j; rw [dnL, stepD_len]; omega
theorem growTo_at (out : List Int) (d i : Nat) (b : Int) (hb : 0 ≤ b) (h : ∀ j : Nat, 0 ≤ out[j]?.getD 0 ∧ out[j]?.getD 0 ≤ b) : 0 ≤ (growTo out d)[i]?.getD 0 ∧ (growTo out d)[i]?.getD 0 ≤ b := by
  unfold growTo
  by_cases hi : i < out.length
  · rw [List.getElem?_append_left hi]; exact h i
  · rw [List.getElem?_append_right (by omega), List.getElem?_replicate]
    split <;> simp <;> omega
theorem dnL_at (k : Int) (m : Nat) : ∀ j i : Nat, 0 ≤ (dnL k m j)[i]?.getD 0 ∧ (dnL k m j)[i]?.getD 0 ≤ j
  | 0, i => by simp [dnL]
  | j + 1, i => by
    have ih := dnL_at k m j
    have hg := fun i : Nat => growTo_at (dnL k m j) (degN k m j) i (j : Int) (by omega) ih
    rw [dnL, stepD, List.getElem?_set]
    by_cases h : degN k m j = i
    · subst h
      rw [if_pos rfl]
      have := hg (degN k m j)
      split <;> simp <;> omega
    · rw [if_neg h]
      have := hg i
      omega
/-- What DegreeNumbers answers. -/
def dnV (k n : Int) : List Int := if fitsB k n = true then dnL k n.toNat (powI k n.toNat).toNat else []
theorem dnV_yes {k : Int} {m : Nat} (h : fitsB k m = true) : dnV k m = dnL k m (powI k m).toNat := by unfold dnV; rw [if_pos h]; rfl
theorem dnV_no {k n : Int} (h : fitsB k n = false) : dnV k n = [] := by unfold dnV; rw [h]; rfl
theorem dnV_len (k n : Int) : (dnV k n).length ≤ 1048576 := by
  by_cases h : fitsB k n = true
  · obtain ⟨m, rfl⟩ := Int.eq_ofNat_of_zero_le (fitsB_bd h).2.2.1
    rw [dnV_yes h]; have := dnL_len h (powI k m).toNat; omega
  · rw [dnV_no (by simpa using h)]; simp
theorem grow_more (out : List Int) (i : Nat) : (out ++ List.replicate i (0 : Int)) ++ [0] = out ++ List.replicate (i + 1) 0 := by rw [List.append_assoc, ← List.replicate_succ']
theorem set_map (L : List Int) (d : Nat) (x : Int) : (L.map (Value.int .i64)).set d (.int .i64 x) = (L.set d x).map (Value.int .i64) := by rw [List.map_set]

set_option maxHeartbeats 2000000 in
theorem specDegreeNumbers_ret (k n : Int) (w : World) :
    Calls Try.prog 34 #[.int .i64 k, .int .i64 n] w (RetInts w (dnV k n).length (dnV k n) (cntE k n)) := by
  by_cases hf : fitsB k n = true
  · have hbd := fitsB_bd hf
    obtain ⟨m, rfl⟩ := Int.eq_ofNat_of_zero_le hbd.2.2.1
    have hpw := fitsB_pow hf
    rw [Int.toNat_natCast] at hpw
    have hp1 := powI_pos hbd.1 m
    have q2 := cntE_yes hf
    have HF := Lib.hid hf
    rw [dnV_yes hf, q2]
    obtain ⟨i0, hi, hz0, hz1, hz2⟩ := info_parts Try.infoI
    obtain ⟨N, hN⟩ := Int.eq_ofNat_of_zero_le (a := powI k m) (by omega)
    rw [hN] at hpw hp1 ⊢
    rw [Int.toNat_natCast]
    have HN := Lib.hid hN
    clear hf hN
    go_enter Try.func34, Try.ntmps34
    go_wp2_with fail
    refine (l03Given_calls k m _).mono ?_
    rintro e w' ⟨rfl, rfl⟩
    go_wp2
    clear q2
    go_loopw [7, 8, 9] (fun o r _ wr => ∃ j : Nat, j ≤ N ∧ r = .int .i64 j ∧ (∃ A c, o = .slice A (dnL k m j).length c ∧ OwnG 2 1 w.heap.size wr A (dnL k m j).length c ((dnL k m j).map (Value.int .i64))) ∧ Below w.heap.size w wr) (fun _ r _ _ => N - (intOf r).toNat)
    case atStart =>
      have e2 := Box.new w 2 #[]
      exact ⟨0, Nat.zero_le _, rfl, ⟨_, _, rfl, OwnG.emptyAt e2 (Nat.le_refl _)⟩, (Below.refl _ _).alloc (Nat.le_refl _) _⟩
    case round =>
      obtain ⟨j, hj, rfl, ⟨A0, c0, rfl, hO⟩, hb⟩ := hrel
      have HO := Lib.hid hO
      have HB := Lib.hid hb
      have hsz := hb.size
      have hln := dnL_len HF.out j
      clear hb hO
      by_cases hlt : j < N
      · go_wp2_with fail
        refine (l01Size_calls k m _ (by omega) (by omega) (by omega)).mono ?_
        rintro e w' ⟨rfl, rfl⟩
        rw [HN.out]
        go_wp2_with fail
        refine (l01OfRank_calls k j m _ (by omega) (by omega) (by omega) (by omega) (by omega)).mono ?_
        rintro e w1 ⟨A, c, rfl, hOr, hb1⟩
        have HB1 := Lib.hid (HB.out.trans (hb1.mono hsz))
        have HO1 := Lib.hid (HO.out.below hb1)
        have HR := Lib.hid hOr.ints
        have hsz1 := HB1.out.size
        clear hb1 hOr
        go_wp2_with fail
        refine (l01Moves_calls A m c k (digR k m j) _ (digR_len _ _ _) HR.out (dig_state HF.out j (by omega))).mono ?_
        rintro e w2 ⟨A2, c2, rfl, hO2, hb2⟩
        have HB2 := Lib.hid (HB1.out.trans (hb2.mono hsz1))
        have HO2 := Lib.hid (HO1.out.below hb2)
        have hdg : degN k m j ≤ 40 := degN_le HF.out j
        have hsz2 := HB2.out.size
        have hat := fun i : Nat => growTo_at (dnL k m j) (degN k m j) i (j : Int) (by omega) (dnL_at k m j)
        have hgl := growTo_len (dnL k m j) (degN k m j)
        have hst : Hid (dnL k m (j + 1) = stepD (dnL k m j) (degN k m j)) := rfl
        change (movesL k (digR k m j)).length ≤ 40 at hdg
        unfold degN at hat hst hgl
        have HAT := Lib.hid hat
        have HGL := Lib.hid hgl
        clear hb2 hO2 HO HO1 HB HB1 HR hat hgl
        generalize (movesL k (digR k m j)).length = d at *
        generalize hDD : dnL k m j = D at *
        have HDD := Lib.hid hDD
        clear hDD
        go_wp2
        go_loopw [7] (fun o wr => ∃ i : Nat, D.length + i ≤ max D.length (d + 1) ∧ (∃ A c, o = .slice A (D.length + i) c ∧ OwnG 2 1 w.heap.size wr A (D.length + i) c ((D ++ List.replicate i 0).map (Value.int .i64))) ∧ Below w.heap.size w wr) (fun o _ => d + 1 - lenOf o)
        case atStart => exact ⟨0, by omega, ⟨_, _, rfl, by simpa using HO2.out⟩, HB2.out⟩
        case round =>
          obtain ⟨i, hi', ⟨A3, c3, rfl, hO3⟩, hb3⟩ := hrel
          have HO3 := Lib.hid hO3
          have HB3 := Lib.hid hb3
          have hsz3 := hb3.size
          clear hO3 hb3
          by_cases hdl : D.length + i ≤ d
          · go_wp2_with (at_builtin; refine wpList_append_own _ rfl _ _ 22 rfl w.heap.size 2 i0 (.int .i64 0) 1 8 Try.underlying22 hi hz0 hz1 hz2 rfl (by decide) _ _ _ rfl (HO3.out.alloc _) ⟨wr.heap.size, 0, none⟩ 1 1 [.int .i64 0] rfl rfl (cell_one_new _ _ _) (by simp [Value.oneCell']) (by unfold maxLen; omega) (by omega) (by simp; omega) ?_; intro v' w4 hown' hgrow _; obtain ⟨A4, c4, rfl⟩ := ownG_shape hown'; have HO4 := Lib.hid hown'; have HB4 := Lib.hid (HB3.out.trans (HO3.out.grown_below hgrow (Nat.le_refl _) hsz3)); clear hown' hgrow)
            go_roundw
            case rel =>
              refine ⟨i + 1, by omega, ⟨A4, c4, rfl, ?_⟩, HB4.out⟩
              rw [← grow_more, List.map_append]
              exact HO4.out
            case measure => simp [lenOf]; omega
          · have hii : i = d + 1 - D.length := by omega
            have hG : Hid (growTo D d = D ++ List.replicate i 0) := by unfold Hid growTo; rw [hii]
            clear hii
            have hgl : (growTo D d).length = D.length + i := by rw [HGL.out]; omega
            obtain ⟨g, rfl, hg0, hg1, hc⟩ := HO3.out.cell d (by omega)
            have hfz := HO3.out.frozen rfl d
            have hxv : (growTo D d)[d]? = some ((growTo D d)[d]?.getD 0) := by rw [List.getElem?_eq_getElem (show d < (growTo D d).length by omega)]; rfl
            have hxb := HAT.out d
            rw [← hG.out, List.getElem?_map, hxv] at hc
            have HST := Lib.hid (show dnL k m (j + 1) = (growTo D d).set d ((growTo D d)[d]?.getD 0 + 1) by rw [hst.out, stepD])
            have HLN := Lib.hid (show (dnL k m (j + 1)).length = D.length + i by rw [hst.out, stepD_len]; omega)
            clear hxv hgl
            generalize hX : (growTo D d)[d]?.getD 0 = x at *
            have HX := Lib.hid hX
            clear hX
            simp only [Option.map_some] at hc
            go_wp2
            go_roundw
            case rel =>
              refine ⟨j + 1, by omega, by go_num, ?_, HB3.out.setCell (by exact hg0) _⟩
              obtain ⟨s1, _⟩ := World.ownsRow.stored HO3.out d (.int .i64 (x + 1))
              rw [HLN.out, HST.out, ← set_map]
              rw [← hG.out] at s1
              exact ⟨_, _, rfl, s1⟩
            case measure => simp [intOf]; omega
      · obtain rfl : j = N := by omega
        go_wp2_with fail
        refine (l01Size_calls k m _ (by omega) (by omega) (by omega)).mono ?_
        rintro e w' ⟨rfl, rfl⟩
        rw [HN.out]
        go_wp2
        go_ret2
        exact ⟨_, _, rfl, HO.out, HB.out⟩
  · have hf' : fitsB k n = false := by simpa using hf
    have q2 := cntE_no hf'
    rw [dnV_no hf', q2]
    go_enter Try.func34, Try.ntmps34
    go_wp2_with fail
    refine (l03Given_calls k n _).mono ?_
    rintro e w' ⟨rfl, rfl⟩
    go_wp2
    go_ret2
    exact retInts_zero rfl (Below.refl _ _)

def lenCell (W : World) (b : Nat) : Nat := match W.cell? ⟨b, 0, none⟩ with
  | some v => lenOf v
  | none => 0
theorem lenCell_eq {W : World} {b t n c : Nat} {A : Option Addr} (h : Boxed W b t (.slice A n c)) : lenCell W b = n := by unfold lenCell; rw [h.cell]; rfl

set_option maxRecDepth 100000 in
set_option maxHeartbeats 8000000 in
theorem implDegreeNumbers_ret (k n : Int) (w : World) :
    Calls Try.prog 35 #[.int .i64 k, .int .i64 n] w (RetInts w (dnV k n).length (dnV k n) (cntE k n)) := by
  by_cases hf : fitsB k n = true
  · have hbd := fitsB_bd hf
    obtain ⟨m, rfl⟩ := Int.eq_ofNat_of_zero_le hbd.2.2.1
    have hpw := fitsB_pow hf
    rw [Int.toNat_natCast] at hpw
    have hp1 := powI_pos hbd.1 m
    rw [dnV_yes hf, cntE_yes hf]
    have HF := Lib.hid hf
    have hpN : (powI k m).toNat ≤ 6561 := by omega
    obtain ⟨i0, hi, hz0, hz1, hz2⟩ := info_parts Try.infoI
    refine (callsIn_wide (n := 6)).1 ?_
    refine callsIn_of_wp_marks Try.func35 rfl trivial ?_ rfl
    simp only [Try.ntmps35, List.size_toArray, List.length_cons, List.length_nil, Nat.reduceAdd, Nat.reduceSub, Array.replicate_succ, Array.replicate_zero, List.push_toArray, List.append_toArray, List.nil_append, List.cons_append]
    gi_wp2_with fail
    refine ⟨trivial, ?_⟩
    refine (callsIn_wide.2 (numberOfStates_calls k m w)).mono ?_
    rintro e w' ⟨rfl, rfl⟩
    gi_wp2_with (refine ⟨trivial, ?_⟩; gi_at_call 56; refine (statesOf_calls _ k m _).mono ?_; rintro e w' ⟨rfl, rfl⟩)
    have bD := ((Boxed.new w 22 (.slice none 0 0)).alloc (.cells #[.int .i64 k] 2)).alloc (.cells #[.int .i64 m] 2)
    have bK := (Box.new (w.alloc (.cells #[.slice none 0 0] 22)) 2 #[.int .i64 k]).alloc (.cells #[.int .i64 m] 2)
    have bN := Box.new ((w.alloc (.cells #[.slice none 0 0] 22)).alloc (.cells #[.int .i64 k] 2)) 2 #[.int .i64 m]
    simp only [World.size_alloc] at bK bN
    have hB0 : Below w.heap.size w (((w.alloc (.cells #[.slice none 0 0] 22)).alloc (.cells #[.int .i64 k] 2)).alloc (.cells #[.int .i64 m] 2)) := (((Below.refl _ _).alloc (Nat.le_refl _) _).alloc (by simp) _).alloc (by simp; omega) _
    have hsz : (((w.alloc (.cells #[.slice none 0 0] 22)).alloc (.cells #[.int .i64 k] 2)).alloc (.cells #[.int .i64 m] 2)).heap.size = w.heap.size + 3 := by simp
    generalize ((w.alloc (.cells #[.slice none 0 0] 22)).alloc (.cells #[.int .i64 k] 2)).alloc (.cells #[.int .i64 m] 2) = W0 at *
    refine rangeFunc_told (by omega) (gf := 64) (lb := #[.pointer (some ⟨w.heap.size + 1, 0, none⟩), .pointer (some ⟨w.heap.size + 1 + 1, 0, none⟩)]) rfl (enters_of Try.func64 (by kernel_rfl) rfl)
      (statesOf_told _ (w.heap.size + 1) (w.heap.size + 1 + 1) (by omega) k m HF.out W0 bK bN) (fun _ => rfl) (fun h j => keepB_t h j) (keepB_b (by intro b hb; omega))
      (fun pre W => (∃ v, Boxed W w.heap.size 22 v ∧ W.ownsRow (w.heap.size + 3) 2 1 v (dnL k m pre.length).length ((dnL k m pre.length).map (Value.int .i64)) ∧ True) ∧ Below w.heap.size w W ∧ w.heap.size + 3 ≤ W.heap.size)
      (OwnFrom.and (Own.from (holdsRow_own (w.heap.size + 3) w.heap.size 22 2 1 (fun pre : List RkSt => (dnL k m pre.length).length) (fun pre => (dnL k m pre.length).map (Value.int .i64)) (fun _ _ => True)) _) (OwnFrom.and (ownFrom_below (Nat.le_refl _) (by omega)) (ownFrom_size _ _)))
      ⟨⟨_, bD, World.ownsRow_nil _ _ _ _, trivial⟩, hB0, by omega⟩
      (fun pre x a' W => (x.1 = pre.length ∧ x.1 < (powI k m).toNat ∧ m ≤ x.2.2 ∧ x.2.2 ≤ maxLen) ∧ Ints W x.2.1 (digR k m x.1) ∧ ∃ Bx, Box W Bx 29 #[.int .i64 k, .slice x.2.1 m x.2.2] ∧ a' = { tmps := #[.int .i64 k, .int .i64 m, undef, undef, .slice none 0 0, .int .i64 0, .int .i64 (numOf k m), .bool true, .pointer (some ⟨w.heap.size, 0, none⟩), undef, .pointer (some ⟨Bx, 0, none⟩), undef, .tuple #[.int .i64 (numOf k m), .bool true], .int .i64 k, .int .i64 m, .tuple #[.int .i64 (numOf k m), .bool true], .int .i64 (numOf k m), .bool true, .bool true, .bool false, .int .i64 k, .int .i64 m, .func (.func 64) #[] #[.pointer (some ⟨w.heap.size + 1, 0, none⟩), .pointer (some ⟨w.heap.size + 1 + 1, 0, none⟩)], .int .i64 x.1, .agg #[.int .i64 k, .slice x.2.1 m x.2.2], undef, undef, undef, undef, undef, undef, undef, undef, undef, undef, undef, undef, undef, undef, undef, undef], defers := [] })
      (fun pre x a' _ X Y row hs hg hr => ⟨hs.1, ints_own _ _ () X Y row hs.2.1 hg (fun r e => (hr r e).2), by obtain ⟨Bx, h2, h3⟩ := hs.2.2; exact ⟨Bx, box_own Bx 29 _ () X Y row h2 hg (fun r e => (hr r e).2), h3⟩⟩)
      ?assign ?body ?done
    case assign =>
      rintro l pre ⟨r, A, c⟩ W K ⟨⟨v, hv, hrow, _⟩, hB, hW⟩ ⟨g1, g2, g3, g4, g5⟩ hK
      have hle := hB.size
      dsimp only [rkV] at hK g1 g2 g3 g4 g5 ⊢
      subst g1
      gi_wp2
      exact hK _ _ ((KeepsOthers.alloc _ _).from _) (keepB_below ((Below.refl W.heap.size W).alloc (Nat.le_refl _) _) (fun b hb => by omega)) ⟨⟨v, hv.alloc _, hrow.alloc _, trivial⟩, hB.alloc hle _, by simp; omega⟩ ⟨⟨by first | rfl | trivial, g2, g4, g5⟩, g3.below ((Below.refl _ _).alloc (Nat.le_refl _) _), W.heap.size, Box.new W 29 _, rfl⟩
    case body =>
      rintro l pre ⟨r, A, c⟩ a' W ⟨⟨v, hv, hrow, _⟩, hB, hW⟩ ⟨⟨g1, g2, g4, g5⟩, g3, Bx, bX, rfl⟩
      dsimp only at g1 g2 g3 g4 g5 bX ⊢
      unfold maxLen at g5
      subst g1
      obtain ⟨A0, c0, rfl⟩ := ownG_shape hrow
      have hdg : degN k m pre.length ≤ 40 := degN_le HF.out _
      have hln := dnL_len HF.out pre.length
      have hat := fun i : Nat => growTo_at (dnL k m pre.length) (degN k m pre.length) i (pre.length : Int) (by omega) (dnL_at k m pre.length)
      have hgl := growTo_len (dnL k m pre.length) (degN k m pre.length)
      have hst : Hid (dnL k m (pre.length + 1) = stepD (dnL k m pre.length) (degN k m pre.length)) := rfl
      change (movesL k (digR k m pre.length)).length ≤ 40 at hdg
      unfold degN at hat hst hgl
      have HAT := Lib.hid hat
      have HGL := Lib.hid hgl
      have HO := Lib.hid (show OwnG 2 1 (w.heap.size + 3) W A0 _ c0 _ from hrow)
      have HV := Lib.hid hv
      have HB := Lib.hid hB
      clear hat hgl hrow hv hB
      obtain ⟨s0, s1, _, _⟩ := bX.two
      have hd : 1 ≤ 6 - 1 - 1 := by omega
      gi_wp2_with (refine ⟨trivial, ?_⟩; gi_at_call 57; refine (CallsIn.inRound l (callsIn_wide.2 (degreeOf_calls A m c k (digR k m pre.length) _ (digR_len _ _ _) (by omega) (by omega) g3 (dig_state HF.out pre.length (by omega))))).mono ?_; rintro e w1 ⟨rfl, hb1⟩)
      have hbW := Lib.hid hb1
      have hzW := hb1.size
      have HV1 := Lib.hid (HV.out.kept (grown_of_below hb1) (by simp))
      have HO1 := Lib.hid (HO.out.below hb1)
      have hzB := HB.out.size
      clear hb1 s0 s1
      generalize (movesL k (digR k m pre.length)).length = d at *
      generalize hDD : dnL k m pre.length = D at *
      have HDD := Lib.hid hDD
      clear hDD
      gi_loopw [27] (fun _ wr => ∃ i : Nat, D.length + i ≤ max D.length (d + 1) ∧ (∃ A c, Boxed wr w.heap.size 22 (.slice A (D.length + i) c) ∧ OwnG 2 1 (w.heap.size + 3) wr A (D.length + i) c ((D ++ List.replicate i 0).map (Value.int .i64))) ∧ Below w.heap.size W wr ∧ KeepsOthers W wr ∧ KeepB (fun b => b = w.heap.size + 1 ∨ b = w.heap.size + 1 + 1) W wr ∧ w.heap.size + 3 ≤ wr.heap.size) (fun _ wr => d + 1 - lenCell wr w.heap.size)
      case atStart => exact ⟨0, by omega, ⟨A0, c0, HV1.out, by simpa using HO1.out⟩, hbW.out.mono hzB, keepsOthers_of_below hbW.out, keepB_below hbW.out (fun b hb => by omega), by omega⟩
      case round =>
        obtain ⟨i, hi', ⟨A3, c3, hv3, hO3⟩, hb3, hko3, hkb3, hz3⟩ := hrel
        have hc := hv3.cell
        have hf3 := hv3.frozen
        have HO3 := Lib.hid hO3
        have HV3 := Lib.hid hv3
        have HB3 := Lib.hid hb3
        have HK3 := Lib.hid hko3
        have HKB3 := Lib.hid hkb3
        clear hO3 hv3 hb3 hko3 hkb3
        by_cases hdl : D.length + i ≤ d
        · gi_wp2_with (gi_at_builtin; refine wpListIn_append_own _ rfl _ _ 22 rfl (w.heap.size + 3) 2 i0 (.int .i64 0) 1 8 Try.underlying22 hi hz0 hz1 hz2 rfl (by decide) _ _ _ rfl (HO3.out.alloc _) ⟨wr.heap.size, 0, none⟩ 1 1 [.int .i64 0] rfl rfl (cell_one_new _ _ _) (by simp [Value.oneCell']) (by unfold maxLen; omega) (by omega) (by simp; omega) ?_; intro v' w4 hown' hgrow _; obtain ⟨A4, c4, rfl⟩ := ownG_shape hown'; obtain ⟨hv4, hv5, _, hk4, hb4⟩ := Boxed.appended HV3.out (by decide) (OwnG.mono HO3.out (show w.heap.size ≤ w.heap.size + 3 by omega)) (by omega) (Nat.le_refl _) (OwnG.mono hown' (show w.heap.size ≤ w.heap.size + 3 by omega)) hgrow; have hc4 := hv4.cell; have hf4 := hv4.frozen; have HO5 := Lib.hid (OwnG.setBoxed hown' (show Box w4 w.heap.size 22 _ from hv4) (by decide) 0 (.slice A4 (D.length + i + 1) c4)); have HKB4 := Lib.hid (keepB_appended (u := .slice A4 (D.length + i + 1) c4) (B := w.heap.size) hgrow (S := fun b => b = w.heap.size + 1 ∨ b = w.heap.size + 1 + 1) (fun b hb => ⟨by omega, fun e => by have := ows_bk HO3.out b e.symm; omega, by omega⟩)); have HV5 := Lib.hid hv5; have HK4 := Lib.hid hk4; have HB4 := Lib.hid hb4; have hz4 := hgrow.size; clear hown' hgrow hv4 hv5 hk4 hb4)
          go_roundw
          case rel =>
            refine ⟨i + 1, by omega, ⟨A4, c4, HV5.out, ?_⟩, HB3.out.trans HB4.out, HK3.out.trans HK4.out, keepB_t HKB3.out HKB4.out, by simp at hz4 ⊢; omega⟩
            rw [← grow_more, List.map_append]
            exact HO5.out
          case measure =>
            rw [lenCell_eq HV5.out, lenCell_eq HV3.out]
            omega
        · have hii : i = d + 1 - D.length := by omega
          have hG : Hid (growTo D d = D ++ List.replicate i 0) := by unfold Hid growTo; rw [hii]
          clear hii
          have hgl : (growTo D d).length = D.length + i := by rw [HGL.out]; omega
          obtain ⟨g, rfl, hg0, hg1, hcg⟩ := HO3.out.cell d (by omega)
          have hfz := HO3.out.frozen rfl d
          have hxv : (growTo D d)[d]? = some ((growTo D d)[d]?.getD 0) := by rw [List.getElem?_eq_getElem (show d < (growTo D d).length by omega)]; rfl
          have hxb := HAT.out d
          rw [← hG.out, List.getElem?_map, hxv] at hcg
          have HST := Lib.hid (show dnL k m (pre.length + 1) = (growTo D d).set d ((growTo D d)[d]?.getD 0 + 1) by rw [hst.out, stepD])
          have HLN := Lib.hid (show (dnL k m (pre.length + 1)).length = D.length + i by rw [hst.out, stepD_len]; omega)
          clear hxv hgl
          generalize hX : (growTo D d)[d]?.getD 0 = x at *
          have HX := Lib.hid hX
          clear hX
          simp only [Option.map_some] at hcg
          gi_wp2
          obtain ⟨s1, s2⟩ := World.ownsRow.stored HO3.out d (.int .i64 (x + 1))
          rw [← hG.out, set_map, ← HST.out] at s1
          refine ⟨(HK3.out.trans (KeepsOthers.setCell _ _ _)).from _, keepB_t HKB3.out (fun b hb => Below.heap_setCell _ _ _ _ (by simp; omega)), ⟨⟨_, Boxed.kept HV3.out s2 (by simp; omega), ?_, trivial⟩, (HB.out.trans (HB3.out.mono (Nat.le_refl _))).setCell (by simp; omega) _, by simp; omega⟩⟩
          rw [List.length_append]
          show World.ownsRow _ _ _ _ _ (dnL k m (pre.length + 1)).length ((dnL k m (pre.length + 1)).map _)
          rw [HLN.out]
          exact s1
    case done =>
      rintro D ys W hD hys ⟨⟨v, hv, hrow, _⟩, hB, hW⟩ hK
      have hlen : ys.length = (powI k m).toNat := by have := congrArg List.length hys; simpa using this
      rw [hlen] at hrow
      clear hys hlen
      obtain ⟨A0, c0, rfl⟩ := ownG_shape hrow
      have hc := hv.cell
      gi_wp2
      refine ⟨by simp, .inl ⟨_, _, rfl, run_takeDeferred hK, ?_⟩⟩
      exact ⟨_, results_tmp2 rfl _ _ _, A0, c0, rfl, OwnG.mono (ownsRow_putObj hrow _ hK rfl) (by omega), hB.trans (belowK_b (w := w) (Nat.le_refl _) W D _ _ (by omega) hK rfl rfl)⟩
  · have hf' : fitsB k n = false := by simpa using hf
    have q2 := cntE_no hf'
    rw [dnV_no hf', q2]
    clear hf
    go_enter Try.func35, Try.ntmps35
    go_wp2_with fail
    refine (numberOfStates_calls k n _).mono ?_
    rintro e w' ⟨rfl, rfl⟩
    go_wp2
    go_ret2
    exact retInts_zero rfl (Below.refl _ _)

end Go.Proofs.Ytinemelcbnnpnaa
