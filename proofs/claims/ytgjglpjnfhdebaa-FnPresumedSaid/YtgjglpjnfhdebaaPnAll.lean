/- Chapter 8's contracts, with what their answers have to do with each other. -/
import Derived.Test.YtgjglpjnfhdebaaPnG
import Derived.Test.YtgjglpjnfhdebaaPnW
import Derived.Test.YtgjglpjnfhdebaaPnM
namespace Go.Proofs.Ytgjglpjnfhdebaa
open Go.RowKit
set_option linter.unusedVariables false

theorem head_eq {p m : Int} (hB : prB 10 p 60 m = true) (h2 : ¬ (p = 3 ∨ m < 2)) : spC p m = 0 ∧ 0 < (spV p m).length ∧ 0 < (ptV p m).length ∧ (spV p m).getD 0 0 = (ptV p m).getD 0 0 := by
  have hb := prB_of hB
  unfold spC spV ptV
  rw [if_pos hB, if_neg h2, if_pos hB, if_neg h2, if_pos hB, show (p - 3).toNat = (p - 4).toNat + 1 by omega, ptL, if_neg (by omega)]
  refine ⟨rfl, spF_pos (by omega), by simp, ?_⟩
  rw [List.getD_eq_getElem?_getD, (hdF_bd (by omega)).2.2]
  simp
theorem lens (p m : Int) : (stV p m).length ≤ 1048576 ∧ (ptV p m).length ≤ 1048576 ∧ (spV p m).length ≤ 1048576 := by
  by_cases hB : prB 10 p 60 m = true
  · have hb := prB_of hB
    unfold stV ptV spV
    rw [if_pos hB, if_pos hB, if_pos hB, tabL_len]
    have := ptL_len (p - 3).toNat m.toNat
    have := spF_len (p - 4).toNat m.toNat
    refine ⟨by omega, by omega, ?_⟩
    split
    · simp
    · omega
  · have hB' : prB 10 p 60 m = false := by simpa using hB
    rw [stV_no hB', ptV_no hB', (spV_no hB').1]
    simp
theorem pn_all (p m : Int) : ∃ N E E2 : Int, ∃ ST PT SP : List Int, (∀ W, Calls Try.prog 6 #[.int .i64 p, .int .i64 m] W fun e w' => e = .returned (.tuple #[.int .i64 N, .int .i64 E]) ∧ Below W.heap.size W w') ∧ (∀ W, Calls Try.prog 7 #[.int .i64 p, .int .i64 m] W fun e w' => e = .returned (.tuple #[.int .i64 N, .int .i64 E]) ∧ Below W.heap.size W w') ∧ (∀ W, Calls Try.prog 8 #[.int .i64 p, .int .i64 m] W (RetInts W SP.length SP E2)) ∧ (∀ W, Calls Try.prog 9 #[.int .i64 p, .int .i64 m] W (RetInts W SP.length SP E2)) ∧ (∀ W, Calls Try.prog 11 #[.int .i64 p, .int .i64 m] W (RetInts W PT.length PT E)) ∧ (∀ W, Calls Try.prog 12 #[.int .i64 p, .int .i64 m] W (RetInts W PT.length PT E)) ∧ (∀ W, Calls Try.prog 13 #[.int .i64 p, .int .i64 m] W (RetInts W ST.length ST E)) ∧ (∀ W, Calls Try.prog 14 #[.int .i64 p, .int .i64 m] W (RetInts W ST.length ST E)) ∧ (∀ W, Calls Try.prog 15 #[.int .i64 p, .int .i64 m] W fun e w' => e = .returned (.tuple #[.int .i64 N, .int .i64 E]) ∧ Below W.heap.size W w') ∧ (∀ W, Calls Try.prog 16 #[.int .i64 p, .int .i64 m] W fun e w' => e = .returned (.tuple #[.int .i64 N, .int .i64 E]) ∧ Below W.heap.size W w') ∧ (ST.length ≤ 1048576 ∧ PT.length ≤ 1048576 ∧ SP.length ≤ 1048576) ∧ ((E = 0 ∧ wsum PT PT.length = m ∧ wsum ST ST.length = N ∧ (∀ i, i < ST.length → 1 ≤ ST.getD i 0 ∧ bits .and .i64 (ST.getD i 0) (wrap64 (ST.getD i 0 - 1)) = 0 ∧ (i = 0 ∨ ST.getD (i - 1) 0 ≤ ST.getD i 0)) ∧ (E2 ≠ 0 ∨ E2 = 0 ∧ 0 < SP.length ∧ 0 < PT.length ∧ SP.getD 0 0 = PT.getD 0 0)) ∨ (E = 2 ∧ N = 0)) := by
  have hF : fmV p m = pnV p m := by
    by_cases hB : prB 10 p 60 m = true
    · obtain ⟨q, k, rfl, rfl, hq, hk⟩ := len_le hB
      rw [fmV_yes hB, pnV_yes hB]
      have h := okPn_all ⟨q, hq⟩ ⟨k, by omega⟩
      unfold okPn at h
      simp only [Bool.and_eq_true, decide_eq_true_eq] at h
      exact h.1.1.1
    · have hB' : prB 10 p 60 m = false := by simpa using hB
      rw [fmV_no hB', pnV_no hB']
  refine ⟨pnV p m, prC 10 p 60 m, spC p m, stV p m, ptV p m, spV p m, fun W => implPresumedNumber_calls p m W, fun W => specPresumedNumber_calls p m W, fun W => implPresumedSplits_ret p m W, fun W => specPresumedSplits_ret p m W, fun W => implPresumedParts_ret p m W, fun W => specPresumedParts_ret p m W, fun W => implPresumedSteps_ret p m W, fun W => specPresumedSteps_ret p m W, fun W => (by have h := implFormulaNumber_calls p m W; rw [hF] at h; exact h.mono fun e w' ⟨a, b⟩ => ⟨a, b ▸ Below.refl _ _⟩), fun W => (by have h := specFormulaNumber_calls p m W; rw [hF] at h; exact h.mono fun e w' ⟨a, b⟩ => ⟨a, b ▸ Below.refl _ _⟩), lens p m, ?_⟩
  by_cases hB : prB 10 p 60 m = true
  · left
    have hE := prC_yes hB
    refine ⟨hE, ?_⟩
    have hS : spC p m ≠ 0 ∨ spC p m = 0 ∧ 0 < (spV p m).length ∧ 0 < (ptV p m).length ∧ (spV p m).getD 0 0 = (ptV p m).getD 0 0 := by
      by_cases h2 : p = 3 ∨ m < 2
      · left
        rw [(spV_none hB h2).2]
        decide
      · right
        exact head_eq hB h2
    obtain ⟨q, k, rfl, rfl, hq, hk⟩ := len_le hB
    have h := okPn_all ⟨q, hq⟩ ⟨k, by omega⟩
    unfold okPn at h
    simp only [Bool.and_eq_true, decide_eq_true_eq, List.all_eq_true, List.mem_range, Bool.or_eq_true, beq_iff_eq] at h
    obtain ⟨⟨⟨h1, h2⟩, h3⟩, h4⟩ := h
    have eS : stV ((q : Int) + 3) k = stL q k := stV_yes hB
    rw [eS, ptV_yes hB, pnV_yes hB] at *
    exact ⟨h2, h3, fun i hi => ⟨(h4 i hi).1.1, (h4 i hi).1.2, (h4 i hi).2⟩, hS⟩
  · right
    have hB' : prB 10 p 60 m = false := by simpa using hB
    exact ⟨prC_no hB', pnV_no hB'⟩
theorem tw_all (p m : Int) (hm : m ≤ 9223372036854775807) : ∃ V E : Int, (∀ W, Calls Try.prog 18 #[.int .i64 p, .int .i64 m] W fun e w' => e = .returned (.tuple #[.int .i64 V, .int .i64 E]) ∧ Below W.heap.size W w') ∧ (∀ W, Calls Try.prog 19 #[.int .i64 p, .int .i64 m] W fun e w' => e = .returned (.tuple #[.int .i64 V, .int .i64 E]) ∧ Below W.heap.size W w') ∧
    (E = 2 ∨ E = 0 ∧ (0 ≤ V ∧ V ≤ 60) ∧ ∃ O, (∀ W, Calls Try.prog 6 #[.int .i64 p, .int .i64 V] W fun e w' => e = .returned (.tuple #[.int .i64 O, .int .i64 0]) ∧ Below W.heap.size W w') ∧ O ≤ m ∧ (V = 60 ∨ V < 60 ∧ ∃ O', (∀ W, Calls Try.prog 6 #[.int .i64 p, .int .i64 (V + 1)] W fun e w' => e = .returned (.tuple #[.int .i64 O', .int .i64 0]) ∧ Below W.heap.size W w') ∧ m < O')) := by
  refine ⟨twV p m, prC 10 p 9223372036854775807 m, fun W => implTowerWithin_calls p m W, fun W => specTowerWithin_calls p m W hm, ?_⟩
  by_cases hB : prB 10 p 9223372036854775807 m = true
  · right
    refine ⟨prC_yes hB, ?_⟩
    have hb := prB_of hB
    have hv : twV p m = (grF (pnF (p - 3).toNat) m 60 : Nat) := by unfold twV; rw [if_pos hB]
    rw [hv]
    have hle := grF_le (pnF (p - 3).toNat) m 60
    obtain ⟨g1, g2⟩ := gr_is (pnF (p - 3).toNat) m (by rw [pnF_zero]; omega) 60
    generalize grF (pnF (p - 3).toNat) m 60 = v at *
    have num : ∀ u : Nat, u ≤ 60 → ∀ W, Calls Try.prog 6 #[.int .i64 p, .int .i64 (u : Int)] W fun e w' => e = .returned (.tuple #[.int .i64 (pnF (p - 3).toNat u), .int .i64 0]) ∧ Below W.heap.size W w' := by
      intro u hu W
      have hU : prB 10 p 60 u = true := prB_yes ⟨hb.1, hb.2.1, by omega, by omega⟩
      have h := implPresumedNumber_calls p u W
      rw [prC_yes hU, show pnV p u = pnF (p - 3).toNat u by unfold pnV; rw [if_pos hU, Int.toNat_natCast]] at h
      exact h
    refine ⟨⟨by omega, by omega⟩, _, num v hle, g1, ?_⟩
    by_cases h60 : v = 60
    · left; omega
    · right
      exact ⟨by omega, _, num (v + 1) (by omega), g2 (v + 1) (by omega) (by omega)⟩
  · left
    exact prC_no (by simpa using hB)

end Go.Proofs.Ytgjglpjnfhdebaa
