/- Contracts: the functions of chapter 8, by the specification's model. -/
import Derived.Test.YtgjglpjnfhdebaaPnS
import Derived.Deep.RegionLaw
import Derived.Deep.AppendLies
namespace Go.Proofs.Ytgjglpjnfhdebaa
open Go.RowKit
set_option linter.unusedVariables false

set_option maxHeartbeats 2000000 in
theorem specPresumedNumber_calls (p n : Int) (w : World) :
    Calls Try.prog 7 #[.int .i64 p, .int .i64 n] w fun e w' => e = .returned (.tuple #[.int .i64 (pnV p n), .int .i64 (prC 10 p 60 n)]) ∧ Below w.heap.size w w' := by
  obtain ⟨i0, hi, hz0, hz1, hz2⟩ := info_parts Try.infoI
  by_cases hB : prB 10 p 60 n = true
  · obtain ⟨q, m, rfl, rfl, hq, hm⟩ := len_le hB
    have HC := Lib.hid (prC_yes hB)
    have HV := Lib.hid (pnV_yes hB)
    clear hB
    go_enter Try.func7, Try.ntmps7
    go_wp2_with fail
    refine (l08Code_calls _ _ _).mono ?_
    rw [HC.out]
    rintro e w' ⟨rfl, rfl⟩
    go_wp2_with fail
    refine (l08Table_calls q m _ hq hm).mono ?_
    rintro e w1 ⟨A1, c1, rfl, hO, hb⟩
    obtain ⟨g, rfl, _, hl, hc⟩ := tabL_cell hO (i := m) (by omega) (by omega)
    have HB := Lib.hid hb
    have hcap := hO.cap
    clear hO hb
    go_wp2
    go_ret2
    exact ⟨ret_two' HV.out.symm HC.out.symm, HB.out⟩
  · have hB' : prB 10 p 60 n = false := by simpa using hB
    have HC := Lib.hid (prC_no hB')
    have HV := Lib.hid (pnV_no hB')
    clear hB hB'
    go_enter Try.func7, Try.ntmps7
    go_wp2_with fail
    refine (l08Code_calls _ _ _).mono ?_
    rw [HC.out]
    rintro e w' ⟨rfl, rfl⟩
    go_wp2
    go_ret2
    exact ⟨ret_two' HV.out.symm HC.out.symm, Below.refl _ _⟩

set_option maxHeartbeats 2000000 in
theorem specPresumedSteps_ret (p n : Int) (w : World) :
    Calls Try.prog 14 #[.int .i64 p, .int .i64 n] w (RetInts w (stV p n).length (stV p n) (prC 10 p 60 n)) := by
  obtain ⟨i0, hi, hz0, hz1, hz2⟩ := info_parts Try.infoI
  by_cases hB : prB 10 p 60 n = true
  · obtain ⟨q, m, rfl, rfl, hq, hm⟩ := len_le hB
    have HC := Lib.hid (prC_yes hB)
    have HV := Lib.hid (stV_yes hB)
    clear hB
    go_enter Try.func14, Try.ntmps14
    go_wp2_with fail
    refine (l08Code_calls _ _ _).mono ?_
    rw [HC.out]
    rintro e w' ⟨rfl, rfl⟩
    go_wp2_with fail
    refine (l08Table_calls q m _ hq hm).mono ?_
    rintro e w1 ⟨A1, c1, rfl, hO, hb⟩
    have HO1 := Lib.hid hO
    have HB1 := Lib.hid hb
    have hs1 := hb.size
    clear hO hb
    go_wp2
    go_loopw [8, 9] (fun o i wr => ∃ j : Nat, j ≤ m ∧ i = .int .i64 ((j : Int) + 1) ∧ ∃ A c, o = .slice A j c ∧ Own w1.heap.size wr A j c (tabL (fun i => pnF q (i + 1) - pnF q i) j) ∧ Below w1.heap.size w1 wr) (fun _ i _ => m + 1 - (intOf i).toNat)
    case atStart => exact ⟨0, by omega, rfl, _, _, rfl, Own.emptyAt (Box.new w1 2 #[]) (Nat.le_refl _), (Below.refl _ _).alloc (Nat.le_refl _) _⟩
    case round =>
      obtain ⟨j, hj, rfl, A3, c3, rfl, hO, hb⟩ := hrel
      have HO := Lib.hid hO
      have HB := Lib.hid hb
      have hsz := hb.size
      clear hO hb
      by_cases hlt : j < m
      · obtain ⟨g, rfl, _, hl8, hcn⟩ := tabL_cell (i := j + 1) (HO1.out.below HB.out) (by omega) (by omega)
        obtain ⟨g', hg', _, _, hc0⟩ := tabL_cell (i := j) (HO1.out.below HB.out) (by omega) (by omega)
        cases hg'
        have b8 := pn_lim (q := q) (n := j + 1) (by omega)
        have b5 := pn_lim (q := q) (n := j) (by omega)
        have HX := Lib.hid (tabL_succ (fun i => pnF q (i + 1) - pnF q i) j)
        obtain ⟨x8, e8⟩ : ∃ x, pnF q (j + 1) = x := ⟨_, rfl⟩
        obtain ⟨x5, e5⟩ : ∃ x, pnF q j = x := ⟨_, rfl⟩
        rw [e8] at hcn b8 HX
        rw [e5] at hc0 b5 HX
        have hcap8 := HO1.out.cap
        have hjk' : (j : Int) + 1 ≤ (m : Int) := by omega
        have hln := Own.len HO.out
        have h01 : (0 : Int) ≤ (j : Int) + 1 := by omega
        have h02 : (j : Int) < (m : Int) + 1 := by omega
        have h03 : (j : Int) + 1 < (m : Int) + 1 := by omega
        have h04 : j < m + 1 := by omega
        have hwj : IntKind.i64.wrap (j : Int) = j := IntWalk.i64_in _ (by omega)
        have hwx : IntKind.i64.wrap (x8 - x5) = x8 - x5 := IntWalk.i64_in _ (by omega)
        clear e8 e5
        go_wp2_with fail
        go_region_law ((refine step_append_lies _ (by rfl) _ _ _ (by rfl) w1.heap.size 2 i0 _ 1 8 Try.underlying27 hi hz0 hz1 hz2 rfl (by decide) (.slice A3 j c3) j ((tabL (fun i => pnF q (i + 1) - pnF q i) j).map (Value.int .i64)) (by rfl) (((HO.out).alloc _).drew) ⟨wr.heap.size, 0, none⟩ 1 1 [.int .i64 (x8 - x5)] (by rfl) (by rfl) (World.news_of_block (cs := #[.int .i64 (x8 - x5)]) (t := 2) (fr := (0, 0)) (heap_alloc_new wr _)) (by simp [Value.oneCell']) (by omega) (by unfold maxLen; omega) (by omega) (by simp; omega) (wr.heap.size + 1) (by simp) ?_; intro gg cap w4 hown1 hgrow hat hlt2; have HPU := Lib.hid (Own.pushed HO.out (grown_undrew hgrow) hown1); clear hgrow hown1))
        all_goals
          go_wp2
          go_roundw
          case rel => exact ⟨j + 1, by omega, by go_num, _, _, rfl, by rw [HX.out]; exact HPU.out.1, HB.out.trans (HPU.out.2.2.2 _ (Nat.le_refl _) hsz)⟩
          case measure => simp [intOf]; omega
      · obtain rfl : j = m := by omega
        go_wp2
        go_ret2
        rw [HV.out, HC.out, tabL_len]
        exact ⟨_, _, rfl, HO.out.mono hs1, HB1.out.trans (HB.out.mono hs1)⟩
  · have hB' : prB 10 p 60 n = false := by simpa using hB
    have HC := Lib.hid (prC_no hB')
    have HV := Lib.hid (stV_no hB')
    clear hB hB'
    go_enter Try.func14, Try.ntmps14
    go_wp2_with fail
    refine (l08Code_calls _ _ _).mono ?_
    rw [HC.out]
    rintro e w' ⟨rfl, rfl⟩
    go_wp2
    go_ret2
    rw [HV.out, HC.out]
    exact retInts_zero rfl (Below.refl _ _)

theorem l08Splits_at (p : Int) (q n : Nat) (w : World) (hp : p = (q : Int) + 4) (hq : q < 7) (h2 : 2 ≤ n) (hn : n ≤ 60) :
    Calls Try.prog 28 #[.int .i64 p, .int .i64 n] w fun e w' => ∃ A c, e = .returned (.slice A (spF q n).length c) ∧ OwnG 2 1 w.heap.size w' A (spF q n).length c ((spF q n).map (Value.int .i64)) ∧ Below w.heap.size w w' := by
  subst hp
  exact l08Splits_calls q n w hq h2 hn

set_option maxHeartbeats 2000000 in
theorem specPresumedSplits_ret (p n : Int) (w : World) :
    Calls Try.prog 9 #[.int .i64 p, .int .i64 n] w (RetInts w (spV p n).length (spV p n) (spC p n)) := by
  by_cases hB : prB 10 p 60 n = true
  · by_cases h2 : p = 3 ∨ n < 2
    · have HC := Lib.hid (prC_yes hB)
      have HV := Lib.hid (spV_none hB h2)
      clear hB
      by_cases h3 : p = 3
      · subst h3
        clear h2
        go_enter Try.func9, Try.ntmps9
        go_wp2_with fail
        refine (l08Code_calls _ _ _).mono ?_
        rw [HC.out]
        rintro e w' ⟨rfl, rfl⟩
        go_wp2
        go_ret2
        rw [HV.out.1, HV.out.2]
        exact retInts_zero rfl (Below.refl _ _)
      · have h4 : n < 2 := by omega
        have h3' : (p == 3) = false := by rw [beq_eq_false_iff_ne]; exact h3
        clear h2
        go_enter Try.func9, Try.ntmps9
        go_wp2_with fail
        refine (l08Code_calls _ _ _).mono ?_
        rw [HC.out]
        rintro e w' ⟨rfl, rfl⟩
        go_wp2
        go_ret2
        rw [HV.out.1, HV.out.2]
        exact retInts_zero rfl (Below.refl _ _)
    · obtain ⟨q, m, rfl, rfl, hq, hm⟩ := len_le hB
      obtain ⟨r, rfl⟩ : ∃ r, q = r + 1 := ⟨q - 1, by omega⟩
      have e : (((r + 1 : Nat) : Int) + 3) = (r : Int) + 4 := by omega
      rw [e] at hB h2 ⊢
      have HC := Lib.hid (prC_yes hB)
      have HV := Lib.hid (spV_yes hB (by omega))
      have h3 : ¬ (r : Int) + 4 = 3 := by omega
      have h3' : (((r : Int) + 4) == 3) = false := by rw [beq_eq_false_iff_ne]; exact h3
      have h4 : ¬ (m : Int) < 2 := by omega
      clear h2 hB e h3
      go_enter Try.func9, Try.ntmps9
      go_wp2_with fail
      refine (l08Code_calls _ _ _).mono ?_
      rw [HC.out]
      rintro e w' ⟨rfl, rfl⟩
      go_wp2_with fail
      refine (l08Splits_calls r m _ (by omega) (by omega) hm).mono ?_
      rintro e w1 ⟨A1, c1, rfl, hO, hb⟩
      have HO := Lib.hid hO
      have HB := Lib.hid hb
      clear hO hb
      go_wp2
      go_ret2
      rw [HV.out.1, HV.out.2]
      exact ⟨_, _, rfl, HO.out, HB.out⟩
  · have hB' : prB 10 p 60 n = false := by simpa using hB
    have HC := Lib.hid (prC_no hB')
    have HV := Lib.hid (spV_no hB')
    clear hB hB'
    go_enter Try.func9, Try.ntmps9
    go_wp2_with fail
    refine (l08Code_calls _ _ _).mono ?_
    rw [HC.out]
    rintro e w' ⟨rfl, rfl⟩
    go_wp2
    go_ret2
    rw [HV.out.1, HV.out.2]
    exact retInts_zero rfl (Below.refl _ _)

set_option maxHeartbeats 2000000 in
theorem specPresumedParts_ret (p n : Int) (w : World) :
    Calls Try.prog 12 #[.int .i64 p, .int .i64 n] w (RetInts w (ptV p n).length (ptV p n) (prC 10 p 60 n)) := by
  obtain ⟨i0, hi, hz0, hz1, hz2⟩ := info_parts Try.infoI
  by_cases hB : prB 10 p 60 n = true
  · obtain ⟨q, m, rfl, rfl, hq, hm⟩ := len_le hB
    have HC := Lib.hid (prC_yes hB)
    have HV := Lib.hid (ptV_yes hB)
    clear hB
    go_enter Try.func12, Try.ntmps12
    go_wp2_with fail
    refine (l08Code_calls _ _ _).mono ?_
    rw [HC.out]
    rintro e w' ⟨rfl, rfl⟩
    go_wp2
    go_loopw [0, 1, 7] (fun a b o wr => ∃ r j : Nat, ∃ pI : Int, ∃ D : List Int, a = .int .i64 pI ∧ Hid (pI = (r : Int) + 3) ∧ b = .int .i64 j ∧ r ≤ q ∧ j ≤ 60 ∧ D.length ≤ 10 - r ∧ Hid (D ++ ptL r j = ptL q m) ∧ ∃ A c, o = .slice A D.length c ∧ OwnG 2 1 w.heap.size wr A D.length c ((D).map (Value.int .i64)) ∧ Below w.heap.size w wr) (fun a _ _ _ => (intOf a).toNat)
    case atStart => exact ⟨q, m, _, [], rfl, rfl, rfl, Nat.le_refl _, hm, by simp, rfl, _, _, rfl, OwnG.emptyAt (Box.new w 2 #[]) (Nat.le_refl _), (Below.refl _ _).alloc (Nat.le_refl _) _⟩
    case round =>
      obtain ⟨r, j, pI, D, rfl, hpI, rfl, hr, hj, hD, hpt, A3, c3, rfl, hO, hb⟩ := hrel
      have HO := Lib.hid hO
      have HB := Lib.hid hb
      have hsz := hb.size
      clear hO hb
      by_cases hgo : 0 < r ∧ 1 < j
      · obtain ⟨r, rfl⟩ : ∃ t, r = t + 1 := ⟨r - 1, by omega⟩
        have hp3 : 3 < pI := by rw [hpI.out]; omega
        have hp13 : pI ≤ 13 := by rw [hpI.out]; omega
        have hj1 : (1 : Int) < (j : Int) := by omega
        obtain ⟨hd1, hd2, _⟩ := hdF_bd (q := r) (n := j) (by omega)
        have HPT := Lib.hid (show ptL (r + 1) j = (hdF r j : Int) :: ptL r (j - hdF r j) by rw [ptL, if_neg (by omega)])
        go_wp2_with fail
        refine (l08Splits_at pI r j _ (by rw [hpI.out]; omega) (by omega) (by omega) hj).mono ?_
        rintro e w1 ⟨A1, c1, rfl, hO1, hb1⟩
        obtain ⟨g1, rfl, _, hl1, hc1⟩ := hO1.cell 0 (by have := spF_pos (q := r) (n := j) (by omega); omega)
        rw [hd_cell (by omega)] at hc1
        have hln1 := spF_pos (q := r) (n := j) (by omega)
        have hln2 := spF_len r j
        have hcap1 := hO1.cap
        have HO1 := Lib.hid (HO.out.below hb1)
        have HB1 := Lib.hid (HB.out.trans (hb1.mono hsz))
        have hs1 := HB1.out.size
        clear hO1 hb1
        obtain ⟨h, eh⟩ : ∃ h, hdF r j = h := ⟨_, rfl⟩
        obtain ⟨L, eL⟩ : ∃ L, spF r j = L := ⟨_, rfl⟩
        rw [eh] at hd1 hd2 HPT hc1
        rw [eL] at hln1 hln2 hcap1 ⊢
        clear eh eL
        go_wp2_with (at_builtin; refine wpList_append_own _ rfl _ _ 27 rfl w.heap.size 2 i0 (.int .i64 0) 1 8 Try.underlying27 hi hz0 hz1 hz2 rfl (by decide) _ _ _ rfl (HO1.out.alloc _) ⟨w1.heap.size, 0, none⟩ 1 1 [.int .i64 (h : Nat)] rfl rfl (cell_one_new _ _ _) (by simp [Value.oneCell']) (by unfold maxLen; omega) (by omega) (by simp; omega) ?_; intro v' w4 hown' hgrow _; obtain ⟨A4, c4, rfl⟩ := ownG_shape hown'; have HO4 := Lib.hid hown'; have HB4 := Lib.hid (HB1.out.trans (HO1.out.grown_below hgrow (Nat.le_refl _) hs1)); clear hown' hgrow)
        go_roundw
        case rel =>
          refine ⟨r, j - h, pI - 1, D ++ [(h : Int)], rfl, by unfold Hid; rw [hpI.out]; omega, by go_num, by omega, by omega, by simp; omega, ?_, A4, c4, by simp, ?_, HB4.out⟩
          · unfold Hid
            rw [← hpt.out, HPT.out, List.append_assoc]
            rfl
          · rw [List.map_append, List.length_append]
            exact HO4.out
        case measure => simp [intOf]; omega
      · have HPT := Lib.hid (show ptL r j = [(j : Int)] by
          match r, hgo with
          | 0, _ => rfl
          | r + 1, h => rw [ptL, if_pos (by omega)])
        have HVD := Lib.hid (show ptV ((q : Int) + 3) m = D ++ [(j : Int)] by rw [HV.out, ← hpt.out, HPT.out])
        by_cases hr0 : r = 0
        · have hp3 : ¬ 3 < pI := by rw [hpI.out]; omega
          go_wp2_with (at_builtin; refine wpList_append_own _ rfl _ _ 27 rfl w.heap.size 2 i0 (.int .i64 0) 1 8 Try.underlying27 hi hz0 hz1 hz2 rfl (by decide) _ _ _ rfl (HO.out.alloc _) ⟨wr.heap.size, 0, none⟩ 1 1 [.int .i64 (j : Nat)] rfl rfl (cell_one_new _ _ _) (by simp [Value.oneCell']) (by unfold maxLen; omega) (by omega) (by simp; omega) ?_; intro v' w4 hown' hgrow _; obtain ⟨A4, c4, rfl⟩ := ownG_shape hown'; have HO4 := Lib.hid hown'; have HB4 := Lib.hid (HB.out.trans (HO.out.grown_below hgrow (Nat.le_refl _) hsz)); clear hown' hgrow)
          go_ret2
          rw [HVD.out, HC.out]
          exact ⟨A4, c4, by rw [List.length_append]; rfl, by unfold Own; rw [List.map_append, List.length_append]; exact HO4.out, HB4.out⟩
        · have hp3 : 3 < pI := by rw [hpI.out]; omega
          have hj1 : ¬ (1 : Int) < (j : Int) := by omega
          go_wp2_with (at_builtin; refine wpList_append_own _ rfl _ _ 27 rfl w.heap.size 2 i0 (.int .i64 0) 1 8 Try.underlying27 hi hz0 hz1 hz2 rfl (by decide) _ _ _ rfl (HO.out.alloc _) ⟨wr.heap.size, 0, none⟩ 1 1 [.int .i64 (j : Nat)] rfl rfl (cell_one_new _ _ _) (by simp [Value.oneCell']) (by unfold maxLen; omega) (by omega) (by simp; omega) ?_; intro v' w4 hown' hgrow _; obtain ⟨A4, c4, rfl⟩ := ownG_shape hown'; have HO4 := Lib.hid hown'; have HB4 := Lib.hid (HB.out.trans (HO.out.grown_below hgrow (Nat.le_refl _) hsz)); clear hown' hgrow)
          go_ret2
          rw [HVD.out, HC.out]
          exact ⟨A4, c4, by rw [List.length_append]; rfl, by unfold Own; rw [List.map_append, List.length_append]; exact HO4.out, HB4.out⟩
  · have hB' : prB 10 p 60 n = false := by simpa using hB
    have HC := Lib.hid (prC_no hB')
    have HV := Lib.hid (ptV_no hB')
    clear hB hB'
    go_enter Try.func12, Try.ntmps12
    go_wp2_with fail
    refine (l08Code_calls _ _ _).mono ?_
    rw [HC.out]
    rintro e w' ⟨rfl, rfl⟩
    go_wp2
    go_ret2
    rw [HV.out, HC.out]
    exact retInts_zero rfl (Below.refl _ _)

theorem gr_yes {f : Nat → Int} {m : Int} {j : Nat} (h : f j ≤ m) : grF f m (j + 1 - 1) = j := by
  cases j with
  | zero => rfl
  | succ k => rw [Nat.add_sub_cancel, grF, if_pos h]
theorem gr_no {f : Nat → Int} {m : Int} {j : Nat} (h : ¬ f j ≤ m) : grF f m (j + 1 - 1) = grF f m (j - 1) := by
  cases j with
  | zero => rfl
  | succ k => rw [Nat.add_sub_cancel, grF, if_neg h]; rfl

set_option maxHeartbeats 2000000 in
theorem specTowerWithin_calls (p m : Int) (w : World) (hmx : m ≤ 9223372036854775807) :
    Calls Try.prog 19 #[.int .i64 p, .int .i64 m] w fun e w' => e = .returned (.tuple #[.int .i64 (twV p m), .int .i64 (prC 10 p 9223372036854775807 m)]) ∧ Below w.heap.size w w' := by
  by_cases h1 : 3 ≤ p ∧ p ≤ 10
  · by_cases h2 : m < 0
    · have hB := prB_no (hp := 10) (p := p) (hn := 9223372036854775807) (n := m) (by omega)
      have HC := Lib.hid (prC_no hB)
      have HV := Lib.hid (twV_no hB)
      have i1 : inB p 3 10 = true := inB_yes h1.1 h1.2
      clear hB h1
      go_enter Try.func19, Try.ntmps19
      go_wp2_with fail
      refine (l01In_calls p 3 10 _).mono ?_
      rintro e w' ⟨rfl, rfl⟩
      go_wp2
      go_ret2
      exact ⟨ret_two' HV.out.symm HC.out.symm, Below.refl _ _⟩
    · have hB := prB_yes (hp := 10) (p := p) (hn := 9223372036854775807) (n := m) (by omega)
      obtain ⟨q, rfl⟩ : ∃ q : Nat, p = (q : Int) + 3 := ⟨(p - 3).toNat, by omega⟩
      have HC := Lib.hid (prC_yes hB)
      have HV := Lib.hid (twV_yes hB)
      have i1 : inB ((q : Int) + 3) 3 10 = true := inB_yes h1.1 h1.2
      have hq : q < 8 := by omega
      clear hB h1
      go_enter Try.func19, Try.ntmps19
      go_wp2_with fail
      refine (l01In_calls _ 3 10 _).mono ?_
      rintro e w' ⟨rfl, rfl⟩
      go_wp2_with fail
      refine (l08Table_calls q 60 _ hq (by omega)).mono ?_
      rintro e w1 ⟨A1, c1, rfl, hO, hb⟩
      have HO1 := Lib.hid hO
      have HB1 := Lib.hid hb
      have hcap := hO.cap
      clear hO hb
      go_wp2
      go_loop [7, 8] (fun o i => ∃ j : Nat, j ≤ 61 ∧ i = .int .i64 j ∧ o = .int .i64 (grF (pnF q) m (j - 1) : Nat)) (fun _ i => 61 - (intOf i).toNat)
      case atStart => exact ⟨0, by omega, rfl, rfl⟩
      case round =>
        obtain ⟨j, hj, rfl, rfl⟩ := hrel
        by_cases hlt : j ≤ 60
        · obtain ⟨g, rfl, _, hl, hc⟩ := tabL_cell HO1.out (i := j) (by omega) (by omega)
          have hj60 : (j : Int) ≤ 60 := by omega
          have hj61 : (j : Int) < 61 := by omega
          by_cases hle : pnF q j ≤ m
          · have HG := Lib.hid (gr_yes hle)
            generalize pnF q j = x at *
            go_wp2
            go_round
            case rel => exact ⟨j + 1, by omega, by go_num, by rw [HG.out]⟩
            case measure => simp [intOf]; omega
          · have HG := Lib.hid (gr_no hle)
            generalize pnF q j = x at *
            go_wp2
            go_round
            case rel => exact ⟨j + 1, by omega, by go_num, by rw [HG.out]⟩
            case measure => simp [intOf]; omega
        · obtain rfl : j = 61 := by omega
          go_wp2
          go_ret2
          exact ⟨ret_two' HV.out.symm HC.out.symm, HB1.out⟩
  · have hB := prB_no (hp := 10) (p := p) (hn := 9223372036854775807) (n := m) (by omega)
    have HC := Lib.hid (prC_no hB)
    have HV := Lib.hid (twV_no hB)
    have i1 : inB p 3 10 = false := inB_no h1
    clear hB h1
    go_enter Try.func19, Try.ntmps19
    go_wp2_with fail
    refine (l01In_calls p 3 10 _).mono ?_
    rintro e w' ⟨rfl, rfl⟩
    go_wp2
    go_ret2
    exact ⟨ret_two' HV.out.symm HC.out.symm, Below.refl _ _⟩

end Go.Proofs.Ytgjglpjnfhdebaa
