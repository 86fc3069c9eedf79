/- Contracts: the code of rules and of a number of discs, where no pegs are given. -/
import Derived.Test.YtbcgoboeeigcgaaRuTower
namespace Go.Proofs.Ytbcgoboeeigcgaa
open Go.RowKit
set_option linter.unusedVariables false

/-- The code of rules that must be strong, and of a number of discs. -/
def tw0 (r : Nat → Int) (n : Int) : Int := if ruB r = true then (if 0 ≤ n ∧ n ≤ 8 then (if strB r = true then 0 else 5) else 2) else 1
theorem tw0_rules {r : Nat → Int} {n : Int} (h : ruB r = false) : tw0 r n = 1 := by unfold tw0; rw [h]; rfl
theorem tw0_discs {r : Nat → Int} {n : Int} (h : ruB r = true) (hn : ¬ (0 ≤ n ∧ n ≤ 8)) : tw0 r n = 2 := by unfold tw0; rw [if_pos h, if_neg hn]
theorem tw0_weak {r : Nat → Int} {n : Int} (h : ruB r = true) (hn : 0 ≤ n ∧ n ≤ 8) (hs : strB r = false) : tw0 r n = 5 := by unfold tw0; rw [if_pos h, if_pos hn, hs]; rfl
theorem tw0_ok {r : Nat → Int} {n : Int} (h : ruB r = true) (hn : 0 ≤ n ∧ n ≤ 8) (hs : strB r = true) : tw0 r n = 0 := by unfold tw0; rw [if_pos h, if_pos hn, hs]; rfl
theorem tw0_zero {r : Nat → Int} {n : Int} (h : tw0 r n = 0) : ruB r = true ∧ (0 ≤ n ∧ n ≤ 8) ∧ strB r = true := by
  unfold tw0 at h
  split at h
  · split at h
    · split at h
      · refine ⟨?_, ?_, ?_⟩ <;> assumption
      · omega
    · omega
  · omega

set_option maxRecDepth 100000 in
set_option maxHeartbeats 4000000 in
theorem codeOfTower_nil (r : Nat → Int) (hw : ∀ k, k < 9 → (Lit.int .i64 (r k)).wf = true) (n : Int) (w : World) :
    Calls Try.prog 22 #[.agg (z9 r), .int .i64 n, .slice none 0 0] w fun e w' => e = .returned (.int .i64 (tw0 r n)) ∧ Below w.heap.size w w' := by
  have HW := Lib.hid hw
  clear hw
  have X0 := Lib.hid (Box.new w 27 (z9 r))
  have HB0 := Lib.hid ((Below.refl w.heap.size w).alloc (Nat.le_refl _) (.cells (z9 r) 27))
  unfold z9
  by_cases hr : ruB r = true
  · have HR := Lib.hid hr
    clear hr
    by_cases hn : 0 ≤ n ∧ n ≤ 8
    · have HN := Lib.hid hn
      have HV : Hid (inB n 0 8 = true) := by unfold Hid inB; simp [hn]
      obtain ⟨hn0, hn8⟩ := hn
      go_enter Try.func22, Try.ntmps22
      obtain ⟨x0, x1, x2, x3, x4, x5, x6, x7, x8⟩ := X0.out.nine
      go_wp2_with fail
      refine (implIsRules_calls r HW.out _).mono ?_
      rintro e w1 ⟨rfl, hb⟩
      have X1 := Lib.hid (X0.out.below hb X0.out.lt)
      have HB1 := Lib.hid (HB0.out.trans (hb.mono (by simp)))
      clear hb X0 HB0 x0 x1 x2 x3 x4 x5 x6 x7 x8
      rw [HR.out]
      go_wp2_with fail
      refine wp_loop_rounds 2 ?_
      rw [rounds_succ]
      obtain ⟨x0, x1, x2, x3, x4, x5, x6, x7, x8⟩ := X1.out.nine
      go_wp2_with fail
      refine (isStrong_calls r HR.out _).mono ?_
      rintro e w4 ⟨rfl, hb⟩
      have HB2 := Lib.hid (HB1.out.trans (hb.mono HB1.out.size))
      clear hb
      obtain ⟨bs, hs⟩ : ∃ b, strB r = b := ⟨_, rfl⟩
      rw [hs]
      have HS := Lib.hid hs
      clear hs
      cases bs
      · go_wp2
        go_ret
        exact ⟨ret_int (tw0_weak HR.out HN.out HS.out).symm, HB2.out⟩
      · go_wp2
        go_ret
        exact ⟨ret_int (tw0_ok HR.out HN.out HS.out).symm, HB2.out⟩
    · have HN := Lib.hid hn
      have HV : Hid (inB n 0 8 = false) := by unfold Hid inB; simp; omega
      by_cases h0 : n < 0
      · clear hn
        go_enter Try.func22, Try.ntmps22
        obtain ⟨x0, x1, x2, x3, x4, x5, x6, x7, x8⟩ := X0.out.nine
        go_wp2_with fail
        refine (implIsRules_calls r HW.out _).mono ?_
        rintro e w1 ⟨rfl, hb⟩
        have X1 := Lib.hid (X0.out.below hb X0.out.lt)
        have HB1 := Lib.hid (HB0.out.trans (hb.mono (by simp)))
        clear hb X0 HB0 x0 x1 x2 x3 x4 x5 x6 x7 x8
        rw [HR.out]
        go_wp2
        go_ret
        exact ⟨ret_int (tw0_discs HR.out HN.out).symm, HB1.out⟩
      · have h8 : 8 < n := by omega
        clear hn
        go_enter Try.func22, Try.ntmps22
        obtain ⟨x0, x1, x2, x3, x4, x5, x6, x7, x8⟩ := X0.out.nine
        go_wp2_with fail
        refine (implIsRules_calls r HW.out _).mono ?_
        rintro e w1 ⟨rfl, hb⟩
        have X1 := Lib.hid (X0.out.below hb X0.out.lt)
        have HB1 := Lib.hid (HB0.out.trans (hb.mono (by simp)))
        clear hb X0 HB0 x0 x1 x2 x3 x4 x5 x6 x7 x8
        rw [HR.out]
        go_wp2
        go_ret
        exact ⟨ret_int (tw0_discs HR.out HN.out).symm, HB1.out⟩
  · have hr' : ruB r = false := by simpa using hr
    have HR := Lib.hid hr'
    clear hr hr'
    go_enter Try.func22, Try.ntmps22
    obtain ⟨x0, x1, x2, x3, x4, x5, x6, x7, x8⟩ := X0.out.nine
    go_wp2_with fail
    refine (implIsRules_calls r HW.out _).mono ?_
    rintro e w1 ⟨rfl, hb⟩
    have X1 := Lib.hid (X0.out.below hb X0.out.lt)
    have HB1 := Lib.hid (HB0.out.trans (hb.mono (by simp)))
    clear hb X0 HB0 x0 x1 x2 x3 x4 x5 x6 x7 x8
    rw [HR.out]
    go_wp2
    go_ret
    exact ⟨ret_int (tw0_rules HR.out).symm, HB1.out⟩

set_option maxRecDepth 100000 in
set_option maxHeartbeats 4000000 in
theorem l07Given_nil (r : Nat → Int) (n : Int) (w : World) :
    Calls Try.prog 19 #[.agg (z9 r), .int .i64 n, .slice none 0 0] w fun e w' => e = .returned (.int .i64 (tw0 r n)) ∧ Below w.heap.size w w' := by
  have X0 := Lib.hid (Box.new w 27 (z9 r))
  have HB0 := Lib.hid ((Below.refl w.heap.size w).alloc (Nat.le_refl _) (.cells (z9 r) 27))
  unfold z9
  by_cases hr : ruB r = true
  · have HR := Lib.hid hr
    clear hr
    by_cases hn : 0 ≤ n ∧ n ≤ 8
    · have HN := Lib.hid hn
      have HV : Hid (inB n 0 8 = true) := by unfold Hid inB; simp [hn]
      clear hn
      go_enter Try.func19, Try.ntmps19
      obtain ⟨x0, x1, x2, x3, x4, x5, x6, x7, x8⟩ := X0.out.nine
      go_wp2_with fail
      refine (l07Is_calls r _).mono ?_
      rintro e w1 ⟨rfl, hb⟩
      have X1 := Lib.hid (X0.out.below hb X0.out.lt)
      have HB1 := Lib.hid (HB0.out.trans (hb.mono (by simp)))
      clear hb X0 HB0 x0 x1 x2 x3 x4 x5 x6 x7 x8
      rw [HR.out]
      go_wp2_with fail
      refine (l01InT_calls n 0 8 _ HV.out _).mono ?_
      rintro e w2 ⟨rfl, rfl⟩
      go_wp2_with fail
      refine wp_loop_rounds 2 ?_
      rw [rounds_succ]
      obtain ⟨x0, x1, x2, x3, x4, x5, x6, x7, x8⟩ := X1.out.nine
      go_wp2_with fail
      refine (l07Strong_calls r _).mono ?_
      rintro e w4 ⟨rfl, hb⟩
      have HB2 := Lib.hid (HB1.out.trans (hb.mono HB1.out.size))
      clear hb
      obtain ⟨bs, hs⟩ : ∃ b, strB r = b := ⟨_, rfl⟩
      rw [hs]
      have HS := Lib.hid hs
      clear hs
      cases bs
      · go_wp2
        go_ret
        exact ⟨ret_int (tw0_weak HR.out HN.out HS.out).symm, HB2.out⟩
      · go_wp2
        go_ret
        exact ⟨ret_int (tw0_ok HR.out HN.out HS.out).symm, HB2.out⟩
    · have HN := Lib.hid hn
      have HV : Hid (inB n 0 8 = false) := by unfold Hid inB; simp; omega
      clear hn
      go_enter Try.func19, Try.ntmps19
      obtain ⟨x0, x1, x2, x3, x4, x5, x6, x7, x8⟩ := X0.out.nine
      go_wp2_with fail
      refine (l07Is_calls r _).mono ?_
      rintro e w1 ⟨rfl, hb⟩
      have X1 := Lib.hid (X0.out.below hb X0.out.lt)
      have HB1 := Lib.hid (HB0.out.trans (hb.mono (by simp)))
      clear hb X0 HB0 x0 x1 x2 x3 x4 x5 x6 x7 x8
      rw [HR.out]
      go_wp2_with fail
      refine (l01InT_calls n 0 8 _ HV.out _).mono ?_
      rintro e w2 ⟨rfl, rfl⟩
      go_wp2
      go_ret
      exact ⟨ret_int (tw0_discs HR.out HN.out).symm, HB1.out⟩
  · have hr' : ruB r = false := by simpa using hr
    have HR := Lib.hid hr'
    clear hr hr'
    go_enter Try.func19, Try.ntmps19
    obtain ⟨x0, x1, x2, x3, x4, x5, x6, x7, x8⟩ := X0.out.nine
    go_wp2_with fail
    refine (l07Is_calls r _).mono ?_
    rintro e w1 ⟨rfl, hb⟩
    have X1 := Lib.hid (X0.out.below hb X0.out.lt)
    have HB1 := Lib.hid (HB0.out.trans (hb.mono (by simp)))
    clear hb X0 HB0 x0 x1 x2 x3 x4 x5 x6 x7 x8
    rw [HR.out]
    go_wp2
    go_ret
    exact ⟨ret_int (tw0_rules HR.out).symm, HB1.out⟩

end Go.Proofs.Ytbcgoboeeigcgaa
