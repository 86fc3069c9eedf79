/- Contracts: the functions of chapter 8, by the program. -/
import Derived.Test.YtgjglpjnfhdebaaPnB
import Derived.Deep.RegionLaw
import Derived.Deep.AppendLies
namespace Go.Proofs.Ytgjglpjnfhdebaa
open Go.RowKit
set_option linter.unusedVariables false

theorem size_bd {q m N M : Nat} (hN : N = (q + 1) * (m + 1)) (hM : M = q * (m + 1)) (hq : q < 8) (hm : m ≤ 60) : N = M + (m + 1) ∧ N ≤ 488 := by
  have h1 : N = M + (m + 1) := by rw [hN, hM, Nat.succ_mul]
  refine ⟨h1, ?_⟩
  rw [hN]
  exact Nat.le_trans (Nat.mul_le_mul (show q + 1 ≤ 8 by omega) (show m + 1 ≤ 61 by omega)) (by decide)
theorem full_cell {w : World} {g e N n q M j : Nat} (h : w.rowIs g e N (upP n N)) (hN : N = (q + 1) * (n + 1)) (hM : M = q * (n + 1)) (hj : j ≤ n) : w.cell? { block := g, off := M + j } = some (.int .i64 (pnF q j)) := by
  have h1 : N = M + (n + 1) := by rw [hN, hM, Nat.succ_mul]
  refine (h.cell (i := M + j) (by omega)).trans ?_
  rw [hM, upP_at hj (by omega)]
theorem full_rows {w : World} {g e N n q r nn M0 M1 : Nat} (h : w.rowIs g e N (upP n N)) (hN : N = (q + 1) * (n + 1)) (hr : r + 1 ≤ q) (hM0 : M0 = r * (n + 1)) (hM1 : M1 = (r + 1) * (n + 1)) (hnn : nn ≤ n + 1) : Rows w g r nn M0 M1 := by
  have h1 : M1 = M0 + (n + 1) := by rw [hM0, hM1, Nat.succ_mul]
  have h2 : M1 + (n + 1) ≤ N := by
    rw [hM1, hN, ← Nat.succ_mul]
    exact Nat.mul_le_mul_right _ (by omega)
  refine ⟨h.lt, fun j hj => ⟨?_, ?_⟩⟩
  · refine (h.cell (i := M1 + j) (by omega)).trans ?_
    rw [hM1, upP_at (by omega) (by omega)]
  · refine (h.cell (i := M0 + j) (by omega)).trans ?_
    rw [hM0, upP_at (by omega) (by omega)]

set_option maxHeartbeats 1000000 in
theorem implPresumedNumber_calls (p n : Int) (w : World) :
    Calls Try.prog 6 #[.int .i64 p, .int .i64 n] w fun e w' => e = .returned (.tuple #[.int .i64 (pnV p n), .int .i64 (prC 10 p 60 n)]) ∧ Below w.heap.size w w' := by
  obtain ⟨i0, hi, hz0, hz1, hz2⟩ := info_parts Try.infoI
  by_cases hB : prB 10 p 60 n = true
  · obtain ⟨q, m, rfl, rfl, hq, hm⟩ := len_le hB
    have HC := Lib.hid (prC_yes hB)
    have HV := Lib.hid (pnV_yes hB)
    clear hB
    obtain ⟨N, hN⟩ : ∃ N, Hid (N = (q + 1) * (m + 1)) := ⟨_, rfl⟩
    obtain ⟨M, hM⟩ : ∃ M, Hid (M = q * (m + 1)) := ⟨_, rfl⟩
    obtain ⟨hMN', hNb⟩ := size_bd hN.out hM.out hq hm
    have hMN := Lib.hid hMN'
    clear hMN'
    go_enter Try.func6, Try.ntmps6
    go_wp2_with fail
    refine (codeOfPresumed_calls _ _ _ _ _).mono ?_
    rw [HC.out]
    rintro e w' ⟨rfl, rfl⟩
    go_wp2_with fail
    refine (presumedTo_calls q m N _ hN hq hm).mono ?_
    rintro e w1 ⟨g, rfl, hg, hrow, hb⟩
    have HR := Lib.hid hrow
    have HB := Lib.hid hb
    have hs1 := hb.size
    clear hrow hb
    go_wp2_with fail
    refine (row_calls g N m q M _ hM (by have := hMN.out; omega) (by omega) hq hm).mono ?_
    rintro e w2 ⟨rfl, hb2⟩
    have HR2 := Lib.hid (HR.out.of_block (hb2.block _ HR.out.lt))
    have HB2 := Lib.hid (HB.out.trans (hb2.mono hs1))
    have hs2 := HB2.out.size
    clear hb2
    have hc := full_cell HR2.out hN.out hM.out (Nat.le_refl m)
    go_wp2
    go_ret2
    exact ⟨ret_two' HV.out.symm HC.out.symm, HB2.out⟩
  · have hB' : prB 10 p 60 n = false := by simpa using hB
    have HC := Lib.hid (prC_no hB')
    have HV := Lib.hid (pnV_no hB')
    clear hB hB'
    go_enter Try.func6, Try.ntmps6
    go_wp2_with fail
    refine (codeOfPresumed_calls _ _ _ _ _).mono ?_
    rw [HC.out]
    rintro e w' ⟨rfl, rfl⟩
    go_wp2
    go_ret2
    exact ⟨ret_two' HV.out.symm HC.out.symm, Below.refl _ _⟩

set_option maxHeartbeats 1000000 in
theorem implPresumedSteps_ret (p n : Int) (w : World) :
    Calls Try.prog 13 #[.int .i64 p, .int .i64 n] w (RetInts w (stV p n).length (stV p n) (prC 10 p 60 n)) := by
  obtain ⟨i0, hi, hz0, hz1, hz2⟩ := info_parts Try.infoI
  by_cases hB : prB 10 p 60 n = true
  · obtain ⟨q, m, rfl, rfl, hq, hm⟩ := len_le hB
    have HC := Lib.hid (prC_yes hB)
    have HV := Lib.hid (stV_yes hB)
    clear hB
    obtain ⟨N, hN⟩ : ∃ N, Hid (N = (q + 1) * (m + 1)) := ⟨_, rfl⟩
    obtain ⟨M, hM⟩ : ∃ M, Hid (M = q * (m + 1)) := ⟨_, rfl⟩
    obtain ⟨hMN', hNb⟩ := size_bd hN.out hM.out hq hm
    have hMN := Lib.hid hMN'
    clear hMN'
    go_enter Try.func13, Try.ntmps13
    go_wp2_with fail
    refine (codeOfPresumed_calls _ _ _ _ _).mono ?_
    rw [HC.out]
    rintro e w' ⟨rfl, rfl⟩
    go_wp2_with fail
    refine (presumedTo_calls q m N _ hN hq hm).mono ?_
    rintro e w1 ⟨g, rfl, hg, hrow, hb⟩
    have HR := Lib.hid hrow
    have HB := Lib.hid hb
    have hs1 := hb.size
    clear hrow hb
    go_wp2_with fail
    refine (row_calls g N m q M _ hM (by have := hMN.out; omega) (by omega) hq hm).mono ?_
    rintro e w2 ⟨rfl, hb2⟩
    have HR2 := Lib.hid (HR.out.of_block (hb2.block _ HR.out.lt))
    have HB2 := Lib.hid (HB.out.trans (hb2.mono hs1))
    have hs2 := HB2.out.size
    clear hb2
    go_wp2
    go_loopw [8, 22] (fun o i wr => ∃ j : Nat, j ≤ m ∧ i = .int .i64 j ∧ ∃ A c, o = .slice A j c ∧ Own w2.heap.size wr A j c (tabL (fun i => pnF q (i + 1) - pnF q i) j) ∧ Below w2.heap.size w2 wr) (fun _ i _ => m - (intOf i).toNat)
    case atStart => exact ⟨0, by omega, rfl, _, _, rfl, Own.nilS _ _, Below.refl _ _⟩
    case round =>
      obtain ⟨j, hj, rfl, A3, c3, rfl, hO, hb⟩ := hrel
      have HO := Lib.hid hO
      have HBr := Lib.hid hb
      have HRr := Lib.hid (HR2.out.of_block (hb.block _ HR2.out.lt))
      have hsz := hb.size
      clear hO hb
      by_cases hlt : j < m
      · have hcn := full_cell HRr.out hN.out hM.out (j := j + 1) (by omega)
        have hc0 := full_cell HRr.out hN.out hM.out (j := j) (by omega)
        have b8 := pn_lim (q := q) (n := j + 1) (by omega)
        have b5 := pn_lim (q := q) (n := j) (by omega)
        have HX := Lib.hid (tabL_succ (fun i => pnF q (i + 1) - pnF q i) j)
        obtain ⟨x8, e8⟩ : ∃ x, pnF q (j + 1) = x := ⟨_, rfl⟩
        obtain ⟨x5, e5⟩ : ∃ x, pnF q j = x := ⟨_, rfl⟩
        rw [e8] at hcn b8 HX
        rw [e5] at hc0 b5 HX
        have hln := Own.len HO.out
        have h01 : (0 : Int) ≤ (j : Int) + 1 := by omega
        have h02 : (j : Int) < (m : Int) + 1 := by omega
        have h03 : (j : Int) + 1 < (m : Int) + 1 := by omega
        have h04 : j < m + 1 := by omega
        have hwj : IntKind.i64.wrap ((j : Int) + 1) = (j : Int) + 1 := IntWalk.i64_in _ (by omega)
        have hwx : IntKind.i64.wrap (x8 - x5) = x8 - x5 := IntWalk.i64_in _ (by omega)
        clear e8 e5
        go_wp2_with fail
        go_region_law ((refine step_append_lies _ (by rfl) _ _ _ (by rfl) w2.heap.size 2 i0 _ 1 8 Try.underlying27 hi hz0 hz1 hz2 rfl (by decide) (.slice A3 j c3) j ((tabL (fun i => pnF q (i + 1) - pnF q i) j).map (Value.int .i64)) (by rfl) (((HO.out).alloc _).drew) ⟨wr.heap.size, 0, none⟩ 1 1 [.int .i64 (x8 - x5)] (by rfl) (by rfl) (World.news_of_block (cs := #[.int .i64 (x8 - x5)]) (t := 2) (fr := (0, 0)) (heap_alloc_new wr _)) (by simp [Value.oneCell']) (by omega) (by unfold maxLen; omega) (by omega) (by simp; omega) (wr.heap.size + 1) (by simp) ?_; intro gg cap w4 hown1 hgrow hat hlt2; have HPU := Lib.hid (Own.pushed HO.out (grown_undrew hgrow) hown1); clear hgrow hown1))
        all_goals
          go_wp2
          go_roundw
          case rel => exact ⟨j + 1, by omega, by go_num, _, _, rfl, by rw [HX.out]; exact HPU.out.1, HBr.out.trans (HPU.out.2.2.2 _ (Nat.le_refl _) hsz)⟩
          case measure => simp [intOf]; omega
      · obtain rfl : j = m := by omega
        go_wp2
        go_ret2
        rw [HV.out, HC.out, tabL_len]
        exact ⟨_, _, rfl, HO.out.mono hs2, HB2.out.trans (HBr.out.mono hs2)⟩
  · have hB' : prB 10 p 60 n = false := by simpa using hB
    have HC := Lib.hid (prC_no hB')
    have HV := Lib.hid (stV_no hB')
    clear hB hB'
    go_enter Try.func13, Try.ntmps13
    go_wp2_with fail
    refine (codeOfPresumed_calls _ _ _ _ _).mono ?_
    rw [HC.out]
    rintro e w' ⟨rfl, rfl⟩
    go_wp2
    go_ret2
    rw [HV.out, HC.out]
    exact retInts_zero rfl (Below.refl _ _)

theorem splits_at (p : Int) (g N n q M0 M1 nn : Nat) (w : World) (hp : p = (q : Int) + 4) (hM0 : Hid (M0 = q * (n + 1))) (hM1 : Hid (M1 = (q + 1) * (n + 1))) (hN : M1 + (n + 1) ≤ N) (hNb : N ≤ 1000) (hq : q < 7) (hn : n ≤ 60) (h2 : 2 ≤ nn) (hnn : nn ≤ n) (hR : Rows w g q nn M0 M1) :
    Calls Try.prog 27 #[.agg #[.slice (some ⟨g, 0, none⟩) N N, .int .i64 n], .int .i64 p, .int .i64 nn] w fun e w' => ∃ A c, e = .returned (.slice A (spF q nn).length c) ∧ Own w.heap.size w' A (spF q nn).length c (spF q nn) ∧ Below w.heap.size w w' := by
  subst hp
  exact splits_calls g N n q M0 M1 nn w hM0 hM1 hN hNb hq hn h2 hnn hR
theorem presumedTo_at (p : Int) (q n N : Nat) (w : World) (hp : p = (q : Int) + 3) (hN : Hid (N = (q + 1) * (n + 1))) (hq : q < 8) (hn : n ≤ 60) :
    Calls Try.prog 23 #[.int .i64 p, .int .i64 n] w fun e w' => ∃ g, e = .returned (.agg #[.slice (some ⟨g, 0, none⟩) N N, .int .i64 n]) ∧ w.heap.size ≤ g ∧ w'.rowIs g 2 N (upP n N) ∧ Below w.heap.size w w' := by
  subst hp
  exact presumedTo_calls q n N w hN hq hn

set_option maxHeartbeats 1000000 in
theorem implPresumedSplits_ret (p n : Int) (w : World) :
    Calls Try.prog 8 #[.int .i64 p, .int .i64 n] w (RetInts w (spV p n).length (spV p n) (spC p n)) := by
  by_cases hB : prB 10 p 60 n = true
  · by_cases h2 : p = 3 ∨ n < 2
    · have HC := Lib.hid (prC_yes hB)
      have HV := Lib.hid (spV_none hB h2)
      clear hB
      by_cases h3 : p = 3
      · subst h3
        clear h2
        go_enter Try.func8, Try.ntmps8
        go_wp2_with fail
        refine (codeOfPresumed_calls _ _ _ _ _).mono ?_
        rw [HC.out]
        rintro e w' ⟨rfl, rfl⟩
        go_wp2
        go_ret2
        rw [HV.out.1, HV.out.2]
        exact retInts_zero rfl (Below.refl _ _)
      · have h4 : n < 2 := by omega
        have h3' : (p == 3) = false := by rw [beq_eq_false_iff_ne]; exact h3
        clear h2
        go_enter Try.func8, Try.ntmps8
        go_wp2_with fail
        refine (codeOfPresumed_calls _ _ _ _ _).mono ?_
        rw [HC.out]
        rintro e w' ⟨rfl, rfl⟩
        go_wp2
        go_ret2
        rw [HV.out.1, HV.out.2]
        exact retInts_zero rfl (Below.refl _ _)
    · obtain ⟨q, m, rfl, rfl, hq, hm⟩ := len_le hB
      obtain ⟨r, rfl⟩ : ∃ r, q = r + 1 := ⟨q - 1, by omega⟩
      have e : (((r + 1 : Nat) : Int) + 3) = (r : Int) + 4 := by omega
      rw [e] at hB h2 ⊢
      have HC := Lib.hid (prC_yes hB)
      have HV := Lib.hid (spV_yes hB (by omega))
      have h3 : ¬ (r : Int) + 4 = 3 := by omega
      have h3' : (((r : Int) + 4) == 3) = false := by rw [beq_eq_false_iff_ne]; exact h3
      have h4 : ¬ (m : Int) < 2 := by omega
      have h5 : 2 ≤ m := by omega
      clear h2 hB e h3
      obtain ⟨N, hN⟩ : ∃ N, Hid (N = (r + 1 + 1) * (m + 1)) := ⟨_, rfl⟩
      obtain ⟨M, hM⟩ : ∃ M, Hid (M = (r + 1) * (m + 1)) := ⟨_, rfl⟩
      obtain ⟨hMN', hNb⟩ := size_bd hN.out hM.out hq hm
      have hMN := Lib.hid hMN'
      clear hMN'
      go_enter Try.func8, Try.ntmps8
      go_wp2_with fail
      refine (codeOfPresumed_calls _ _ _ _ _).mono ?_
      rw [HC.out]
      rintro e w' ⟨rfl, rfl⟩
      go_wp2_with fail
      refine (presumedTo_at _ (r + 1) m N _ (by omega) hN hq hm).mono ?_
      rintro e w1 ⟨g, rfl, hg, hrow, hb⟩
      have HB := Lib.hid hb
      have hs1 := hb.size
      have HRW := Lib.hid (full_rows (r := r) (nn := m) hrow hN.out (Nat.le_refl _) rfl hM.out (by omega))
      clear hrow hb
      go_wp2_with fail
      refine (splits_calls g N m r (r * (m + 1)) M m _ rfl hM (by have := hMN.out; omega) (by omega) (by omega) hm h5 (Nat.le_refl _) HRW.out).mono ?_
      rintro e w2 ⟨A2, c2, rfl, hO, hb⟩
      have HO := Lib.hid hO
      have HB2 := Lib.hid (HB.out.trans (hb.mono hs1))
      clear hO hb
      go_wp2
      go_ret2
      rw [HV.out.1, HV.out.2]
      exact ⟨_, _, rfl, HO.out.mono hs1, HB2.out⟩
  · have hB' : prB 10 p 60 n = false := by simpa using hB
    have HC := Lib.hid (prC_no hB')
    have HV := Lib.hid (spV_no hB')
    clear hB hB'
    go_enter Try.func8, Try.ntmps8
    go_wp2_with fail
    refine (codeOfPresumed_calls _ _ _ _ _).mono ?_
    rw [HC.out]
    rintro e w' ⟨rfl, rfl⟩
    go_wp2
    go_ret2
    rw [HV.out.1, HV.out.2]
    exact retInts_zero rfl (Below.refl _ _)

set_option maxHeartbeats 1000000 in
theorem implPresumedParts_ret (p n : Int) (w : World) :
    Calls Try.prog 11 #[.int .i64 p, .int .i64 n] w (RetInts w (ptV p n).length (ptV p n) (prC 10 p 60 n)) := by
  obtain ⟨i0, hi, hz0, hz1, hz2⟩ := info_parts Try.infoI
  by_cases hB : prB 10 p 60 n = true
  · obtain ⟨q, m, rfl, rfl, hq, hm⟩ := len_le hB
    have HC := Lib.hid (prC_yes hB)
    have HV := Lib.hid (ptV_yes hB)
    clear hB
    obtain ⟨N, hN⟩ : ∃ N, Hid (N = (q + 1) * (m + 1)) := ⟨_, rfl⟩
    obtain ⟨M, hM⟩ : ∃ M, Hid (M = q * (m + 1)) := ⟨_, rfl⟩
    obtain ⟨hMN', hNb⟩ := size_bd hN.out hM.out hq hm
    have hMN := Lib.hid hMN'
    clear hMN'
    go_enter Try.func11, Try.ntmps11
    go_wp2_with fail
    refine (codeOfPresumed_calls _ _ _ _ _).mono ?_
    rw [HC.out]
    rintro e w' ⟨rfl, rfl⟩
    go_wp2_with fail
    refine (presumedTo_calls q m N _ hN hq hm).mono ?_
    rintro e w1 ⟨g, rfl, hg, hrow, hb⟩
    have HR := Lib.hid hrow
    have HB := Lib.hid hb
    have hs1 := hb.size
    clear hrow hb
    have XT := Lib.hid (Box.new w1 34 #[.slice (some ⟨g, 0, none⟩) N N, .int .i64 m])
    have hbb := (Below.refl w1.heap.size w1).alloc (Nat.le_refl _) (.cells #[.slice (some ⟨g, 0, none⟩) N N, .int .i64 m] 34)
    have HR2 := Lib.hid (HR.out.alloc (.cells #[.slice (some ⟨g, 0, none⟩) N N, .int .i64 m] 34))
    have HB2 := Lib.hid (HB.out.trans (hbb.mono hs1))
    have hs2 := HB2.out.size
    clear hbb HR HB
    go_wp2_with fail
    generalize hW2 : w1.alloc (.cells #[.slice (some ⟨g, 0, none⟩) N N, .int .i64 m] 34) = w2 at *
    have HW2 := Lib.hid hW2
    clear hW2
    go_loopw [0, 1, 8] (fun a b o wr => ∃ r j : Nat, ∃ pI : Int, ∃ D : List Int, a = .int .i64 pI ∧ Hid (pI = (r : Int) + 3) ∧ b = .int .i64 j ∧ r ≤ q ∧ j ≤ m ∧ D.length ≤ 10 - r ∧ Hid (D ++ ptL r j = ptL q m) ∧ ∃ A c, o = .slice A D.length c ∧ Own w2.heap.size wr A D.length c D ∧ Below w2.heap.size w2 wr) (fun a _ _ _ => (intOf a).toNat)
    case atStart => exact ⟨q, m, _, [], rfl, rfl, rfl, Nat.le_refl _, Nat.le_refl _, by simp, rfl, _, _, rfl, Own.nilS _ _, Below.refl _ _⟩
    case round =>
      obtain ⟨r, j, pI, D, rfl, hpI, rfl, hr, hj, hD, hpt, A3, c3, rfl, hO, hb⟩ := hrel
      have HO := Lib.hid hO
      have HBr := Lib.hid hb
      have XTr := Lib.hid (XT.out.below hb XT.out.lt)
      have HRr := Lib.hid (HR2.out.of_block (hb.block _ HR2.out.lt))
      have hsz := hb.size
      clear hO hb
      by_cases hgo : 0 < r ∧ 1 < j
      · obtain ⟨r, rfl⟩ : ∃ t, r = t + 1 := ⟨r - 1, by omega⟩
        have hp3 : 3 < pI := by rw [hpI.out]; omega
        have hp13 : pI ≤ 13 := by rw [hpI.out]; omega
        have hj1 : (1 : Int) < (j : Int) := by omega
        obtain ⟨hd1, hd2, _⟩ := hdF_bd (q := r) (n := j) (by omega)
        have HPT := Lib.hid (show ptL (r + 1) j = (hdF r j : Int) :: ptL r (j - hdF r j) by rw [ptL, if_neg (by omega)])
        have HRW := Lib.hid (full_rows (r := r) (nn := j) HRr.out hN.out hr rfl rfl (by omega))
        obtain ⟨M1, hM1⟩ : ∃ M1, Hid (M1 = (r + 1) * (m + 1)) := ⟨_, rfl⟩
        have hM1N : M1 + (m + 1) ≤ N := by
          rw [hM1.out, hN.out, ← Nat.succ_mul]
          exact Nat.mul_le_mul_right _ (by omega)
        rw [← hM1.out] at HRW
        obtain ⟨t0, t1, _⟩ := XTr.out.two
        go_wp2_with fail
        refine (splits_at pI g N m r (r * (m + 1)) M1 j _ (by rw [hpI.out]; omega) rfl hM1 hM1N (by omega) (by omega) hm (by omega) hj HRW.out).mono ?_
        rintro e w3 ⟨A1, c1, rfl, hO1, hb1⟩
        obtain ⟨g1, rfl, _, hl1, hc1⟩ := OwnG.cell (show OwnG 2 1 _ w3 A1 _ c1 _ from hO1) 0 (by have := spF_pos (q := r) (n := j) (by omega); omega)
        rw [hd_cell (by omega)] at hc1
        have hln1 := spF_pos (q := r) (n := j) (by omega)
        have HO1 := Lib.hid (HO.out.below hb1)
        have HB1 := Lib.hid (HBr.out.trans (hb1.mono hsz))
        have hs3 := HB1.out.size
        clear hO1 hb1 t0 t1
        obtain ⟨h, eh⟩ : ∃ h, hdF r j = h := ⟨_, rfl⟩
        obtain ⟨L, eL⟩ : ∃ L, spF r j = L := ⟨_, rfl⟩
        rw [eh] at hd1 hd2 HPT hc1
        rw [eL] at hln1 ⊢
        clear eh eL
        go_wp2_with (at_builtin; refine wpList_append_own _ rfl _ _ 27 rfl w2.heap.size 2 i0 (.int .i64 0) 1 8 Try.underlying27 hi hz0 hz1 hz2 rfl (by decide) _ _ _ rfl (HO1.out.alloc _) ⟨w3.heap.size, 0, none⟩ 1 1 [.int .i64 (h : Nat)] rfl rfl (cell_one_new _ _ _) (by simp [Value.oneCell']) (by unfold maxLen; omega) (by omega) (by simp; omega) ?_; intro v' w4 hown' hgrow _; obtain ⟨A4, c4, rfl⟩ := ownG_shape hown'; have HP := Lib.hid (Own.pushed HO1.out hgrow hown'); clear hown' hgrow)
        go_roundw
        case rel =>
          refine ⟨r, j - h, pI - 1, D ++ [(h : Int)], rfl, by unfold Hid; rw [hpI.out]; omega, by go_num, by omega, by omega, by simp; omega, ?_, A4, c4, by simp, ?_, HB1.out.trans (HP.out.2.2.2 _ (Nat.le_refl _) hs3)⟩
          · unfold Hid
            rw [← hpt.out, HPT.out, List.append_assoc]
            rfl
          · rw [List.length_append]
            exact HP.out.1
        case measure => simp [intOf]; omega
      · have HPT := Lib.hid (show ptL r j = [(j : Int)] by
          match r, hgo with
          | 0, _ => rfl
          | r + 1, h => rw [ptL, if_pos (by omega)])
        have HVD := Lib.hid (show ptV ((q : Int) + 3) m = D ++ [(j : Int)] by rw [HV.out, ← hpt.out, HPT.out])
        by_cases hr0 : r = 0
        · have hp3 : ¬ 3 < pI := by rw [hpI.out]; omega
          go_wp2_with (at_builtin; refine wpList_append_own _ rfl _ _ 27 rfl w2.heap.size 2 i0 (.int .i64 0) 1 8 Try.underlying27 hi hz0 hz1 hz2 rfl (by decide) _ _ _ rfl (HO.out.alloc _) ⟨wr.heap.size, 0, none⟩ 1 1 [.int .i64 (j : Nat)] rfl rfl (cell_one_new _ _ _) (by simp [Value.oneCell']) (by unfold maxLen; omega) (by omega) (by simp; omega) ?_; intro v' w4 hown' hgrow _; obtain ⟨A4, c4, rfl⟩ := ownG_shape hown'; have HP := Lib.hid (Own.pushed HO.out hgrow hown'); clear hown' hgrow)
          go_ret2
          rw [HVD.out, HC.out]
          exact ⟨A4, c4, by rw [List.length_append]; rfl, by rw [List.length_append]; exact HP.out.1.mono hs2, HB2.out.trans ((HBr.out.trans (HP.out.2.2.2 _ (Nat.le_refl _) hsz)).mono hs2)⟩
        · have hp3 : 3 < pI := by rw [hpI.out]; omega
          have hj1 : ¬ (1 : Int) < (j : Int) := by omega
          go_wp2_with (at_builtin; refine wpList_append_own _ rfl _ _ 27 rfl w2.heap.size 2 i0 (.int .i64 0) 1 8 Try.underlying27 hi hz0 hz1 hz2 rfl (by decide) _ _ _ rfl (HO.out.alloc _) ⟨wr.heap.size, 0, none⟩ 1 1 [.int .i64 (j : Nat)] rfl rfl (cell_one_new _ _ _) (by simp [Value.oneCell']) (by unfold maxLen; omega) (by omega) (by simp; omega) ?_; intro v' w4 hown' hgrow _; obtain ⟨A4, c4, rfl⟩ := ownG_shape hown'; have HP := Lib.hid (Own.pushed HO.out hgrow hown'); clear hown' hgrow)
          go_ret2
          rw [HVD.out, HC.out]
          exact ⟨A4, c4, by rw [List.length_append]; rfl, by rw [List.length_append]; exact HP.out.1.mono hs2, HB2.out.trans ((HBr.out.trans (HP.out.2.2.2 _ (Nat.le_refl _) hsz)).mono hs2)⟩
  · have hB' : prB 10 p 60 n = false := by simpa using hB
    have HC := Lib.hid (prC_no hB')
    have HV := Lib.hid (ptV_no hB')
    clear hB hB'
    go_enter Try.func11, Try.ntmps11
    go_wp2_with fail
    refine (codeOfPresumed_calls _ _ _ _ _).mono ?_
    rw [HC.out]
    rintro e w' ⟨rfl, rfl⟩
    go_wp2
    go_ret2
    rw [HV.out, HC.out]
    exact retInts_zero rfl (Below.refl _ _)

theorem gr_down {f : Nat → Int} {m : Int} {j : Nat} (h : f j ≤ m) : grF f m j = j := by
  cases j with
  | zero => rfl
  | succ k => rw [grF, if_pos h]

set_option maxHeartbeats 1000000 in
theorem implTowerWithin_calls (p n : Int) (w : World) :
    Calls Try.prog 18 #[.int .i64 p, .int .i64 n] w fun e w' => e = .returned (.tuple #[.int .i64 (twV p n), .int .i64 (prC 10 p 9223372036854775807 n)]) ∧ Below w.heap.size w w' := by
  by_cases hB : prB 10 p 9223372036854775807 n = true
  · have hbd := prB_of hB
    obtain ⟨q, rfl⟩ : ∃ q : Nat, p = (q : Int) + 3 := ⟨(p - 3).toNat, by omega⟩
    have HC := Lib.hid (prC_yes hB)
    have HV := Lib.hid (twV_yes hB)
    have hq : q < 8 := by omega
    have hn0 : 0 ≤ n := hbd.2.2.1
    clear hB hbd
    obtain ⟨N, hN⟩ : ∃ N, Hid (N = (q + 1) * (60 + 1)) := ⟨_, rfl⟩
    obtain ⟨M, hM⟩ : ∃ M, Hid (M = q * (60 + 1)) := ⟨_, rfl⟩
    obtain ⟨hMN', hNb⟩ := size_bd hN.out hM.out hq (by omega)
    have hMN := Lib.hid hMN'
    clear hMN'
    go_enter Try.func18, Try.ntmps18
    go_wp2_with fail
    refine (codeOfPresumed_calls _ _ _ _ _).mono ?_
    rw [HC.out]
    rintro e w' ⟨rfl, rfl⟩
    go_wp2_with fail
    refine (presumedTo_calls q 60 N _ hN hq (by omega)).mono ?_
    rintro e w1 ⟨g, rfl, hg, hrow, hb⟩
    have HR := Lib.hid hrow
    have HB := Lib.hid hb
    have hs1 := hb.size
    clear hrow hb
    go_wp2_with fail
    refine (row_calls g N 60 q M _ hM (by have := hMN.out; omega) (by omega) hq (by omega)).mono ?_
    rintro e w2 ⟨rfl, hb2⟩
    have HR2 := Lib.hid (HR.out.of_block (hb2.block _ HR.out.lt))
    have HB2 := Lib.hid (HB.out.trans (hb2.mono hs1))
    clear hb2
    go_wp2
    go_loop [8] (fun i => ∃ j : Nat, j ≤ 60 ∧ i = .int .i64 j ∧ Hid (grF (pnF q) n 60 = grF (pnF q) n j)) (fun i => (intOf i).toNat)
    case atStart => exact ⟨60, Nat.le_refl _, rfl, rfl⟩
    case round =>
      obtain ⟨j, hj, rfl, hgr⟩ := hrel
      have hc := full_cell HR2.out hN.out hM.out (j := j) (by omega)
      have hjl : (j : Int) < 61 := by omega
      by_cases hle : pnF q j ≤ n
      · have HG := Lib.hid (gr_down hle)
        generalize pnF q j = x at *
        go_wp2
        go_ret2
        exact ⟨ret_two' (by rw [HV.out, hgr.out, HG.out]) HC.out.symm, HB2.out⟩
      · obtain ⟨k, rfl⟩ : ∃ k, j = k + 1 := ⟨j - 1, by
          have : j ≠ 0 := by rintro rfl; rw [pnF_zero] at hle; omega
          omega⟩
        have HG := Lib.hid (show grF (pnF q) n (k + 1) = grF (pnF q) n k by rw [grF, if_neg hle])
        generalize pnF q (k + 1) = x at *
        go_wp2
        go_round
        case rel => exact ⟨k, by omega, by go_num, by unfold Hid; rw [hgr.out, HG.out]⟩
        case measure => simp [intOf]
  · have hB' : prB 10 p 9223372036854775807 n = false := by simpa using hB
    have HC := Lib.hid (prC_no hB')
    have HV := Lib.hid (twV_no hB')
    clear hB hB'
    go_enter Try.func18, Try.ntmps18
    go_wp2_with fail
    refine (codeOfPresumed_calls _ _ _ _ _).mono ?_
    rw [HC.out]
    rintro e w' ⟨rfl, rfl⟩
    go_wp2
    go_ret2
    exact ⟨ret_two' HV.out.symm HC.out.symm, Below.refl _ _⟩

end Go.Proofs.Ytgjglpjnfhdebaa
