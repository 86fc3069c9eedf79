/- Contracts: the code of rules, of a number of discs and of two pegs. -/
import Derived.Test.YtfdjlgpdbgmdkacRuStrong
import Derived.Test.YtfdjlgpdbgmdkacRtc
namespace Go.Proofs.Ytfdjlgpdbgmdkac
open Go.RowKit
set_option linter.unusedVariables false

/-- The code of rules that must be strong, of a number of discs, and of two pegs. -/
def twE (r : Nat → Int) (n i j : Int) : Int := if ruB r = true then (if 0 ≤ n ∧ n ≤ 8 then (if pegB 3 i = true ∧ pegB 3 j = true ∧ i ≠ j then (if strB r = true then 0 else 5) else 2) else 2) else 1
theorem twE_rules {r : Nat → Int} {n i j : Int} (h : ruB r = false) : twE r n i j = 1 := by unfold twE; rw [h]; rfl
theorem twE_discs {r : Nat → Int} {n i j : Int} (h : ruB r = true) (hn : ¬ (0 ≤ n ∧ n ≤ 8)) : twE r n i j = 2 := by unfold twE; rw [if_pos h, if_neg hn]
theorem twE_pegs {r : Nat → Int} {n i j : Int} (h : ruB r = true) (hn : 0 ≤ n ∧ n ≤ 8) (hp : ¬ (pegB 3 i = true ∧ pegB 3 j = true ∧ i ≠ j)) : twE r n i j = 2 := by unfold twE; rw [if_pos h, if_pos hn, if_neg hp]
theorem twE_weak {r : Nat → Int} {n i j : Int} (h : ruB r = true) (hn : 0 ≤ n ∧ n ≤ 8) (hp : pegB 3 i = true ∧ pegB 3 j = true ∧ i ≠ j) (hs : strB r = false) : twE r n i j = 5 := by unfold twE; rw [if_pos h, if_pos hn, if_pos hp, hs]; rfl
theorem twE_ok {r : Nat → Int} {n i j : Int} (h : ruB r = true) (hn : 0 ≤ n ∧ n ≤ 8) (hp : pegB 3 i = true ∧ pegB 3 j = true ∧ i ≠ j) (hs : strB r = true) : twE r n i j = 0 := by unfold twE; rw [if_pos h, if_pos hn, if_pos hp, hs]; rfl
theorem ret_boolT {a b : Bool} (h : a = b) : Ending.returned (.bool a) = .returned (.bool b) := by rw [h]
set_option maxHeartbeats 400000 in
theorem containsT_calls (A : Option Addr) (n c : Nat) (L : List Int) (v : Int) (b : Bool) (w : World) (hb : decide (v ∈ L) = b) (hL : L.length = n) (hn : n ≤ 1000) (hI : Ints w A L) :
    Calls Try.prog 49 #[.slice A n c, .int .i64 v] w fun e w' => e = .returned (.bool b) ∧ w = w' := by
  subst hb
  have hm := ixN_mem v L
  by_cases h : ixN v L < L.length
  · have h1 : ixV v L = (ixN v L : Int) := by unfold ixV; rw [if_pos h]
    have H : Hid (true = decide (v ∈ L)) := by unfold Hid; symm; rw [decide_eq_true_iff]; exact hm.1 h
    clear hm h
    go_enter Try.func49, Try.ntmps49
    go_wp2_with fail
    refine (index_calls A n c L v _ hL hn hI).mono ?_
    rintro e w' ⟨rfl, rfl⟩
    rw [h1]
    have ht : decide (0 ≤ ((ixN v L : Nat) : Int)) = true := by simp
    generalize ixN v L = q at *
    go_wp2
    go_ret
    exact ⟨ret_boolT (by rw [← H.out]), rfl⟩
  · have h1 : ixV v L = -1 := by unfold ixV; rw [if_neg h]
    have H : Hid (false = decide (v ∈ L)) := by unfold Hid; symm; rw [decide_eq_false_iff_not]; exact fun hv => h (hm.2 hv)
    clear hm h
    go_enter Try.func49, Try.ntmps49
    go_wp2_with fail
    refine (index_calls A n c L v _ hL hn hI).mono ?_
    rintro e w' ⟨rfl, rfl⟩
    rw [h1]
    go_wp2
    go_ret
    exact ⟨ret_boolT (by rw [← H.out]), rfl⟩
theorem pegs_one {w : World} {g : Nat} {i j : Int} (h : Box w g 2 #[.int .i64 i, .int .i64 j]) : Ints w (some ⟨g, 0, none⟩) [i] := by
  intro k hk
  simp at hk
  subst hk
  exact ⟨_, rfl, h.lt, h.two.1⟩
theorem pegs_nil (w : World) (A : Option Addr) : Ints w A [] := fun k hk => by simp at hk
theorem isPegT_calls (k peg : Int) (b : Bool) (w : World) (h : pegB k peg = b) :
    Calls Try.prog 48 #[.int .i64 k, .int .i64 peg] w fun e w' => e = .returned (.bool b) ∧ w = w' := h ▸ isPeg_calls k peg w

set_option maxRecDepth 100000 in
set_option maxHeartbeats 4000000 in
theorem codeOfTower_calls (r : Nat → Int) (hw : ∀ k, k < 9 → (Lit.int .i64 (r k)).wf = true) (n i j : Int) (g : Nat) (w : World) (hG : Box w g 2 #[.int .i64 i, .int .i64 j]) :
    Calls Try.prog 29 #[.agg (z9 r), .int .i64 n, .slice (some ⟨g, 0, none⟩) 2 2] w fun e w' => e = .returned (.int .i64 (twE r n i j)) ∧ Below w.heap.size w w' := by
  have HW := Lib.hid hw
  clear hw
  have X0 := Lib.hid (Box.new w 26 (z9 r))
  have G0 := Lib.hid (hG.alloc (.cells (z9 r) 26))
  have HB0 := Lib.hid ((Below.refl w.heap.size w).alloc (Nat.le_refl _) (.cells (z9 r) 26))
  clear hG
  unfold z9
  by_cases hr : ruB r = true
  · have HR := Lib.hid hr
    have hri : ruB r = true := hr
    by_cases hn : 0 ≤ n ∧ n ≤ 8
    · obtain ⟨hn0, hn8⟩ := hn
      have HN : Hid (0 ≤ n ∧ n ≤ 8) := ⟨hn0, hn8⟩
      have HN0 : Hid (∀ w : World, 0 ∉ ([] : List Int)) := fun _ => by simp
      obtain ⟨bi, hi⟩ : ∃ b, pegB 3 i = b := ⟨_, rfl⟩
      obtain ⟨bj, hj⟩ : ∃ b, pegB 3 j = b := ⟨_, rfl⟩
      have HI := Lib.hid hi
      have HJ := Lib.hid hj
      clear hi hj hr
      have E0 : Hid (decide (i ∈ ([] : List Int)) = false) := by unfold Hid; simp
      cases bi
      · go_enter Try.func29, Try.ntmps29
        obtain ⟨x0, x1, x2, x3, x4, x5, x6, x7, x8⟩ := X0.out.nine
        go_wp2_with fail
        refine (implIsRules_calls r HW.out _).mono ?_
        rintro e w1 ⟨rfl, hb⟩
        have X1 := Lib.hid (X0.out.below hb X0.out.lt)
        have G1 := Lib.hid (G0.out.below hb G0.out.lt)
        have HB1 := Lib.hid (HB0.out.trans (hb.mono (by simp)))
        clear hb X0 G0 HB0 x0 x1 x2 x3 x4 x5 x6 x7 x8
        rw [HR.out]
        obtain ⟨g0, g1, _, _⟩ := G1.out.two
        go_wp2_with fail
        refine wp_loop_rounds 4 ?_
        rw [rounds_succ]
        go_wp2_with fail
        refine (isPegT_calls 3 i _ _ HI.out).mono ?_
        rintro e w2 ⟨rfl, rfl⟩
        go_wp2
        go_ret
        exact ⟨ret_int (twE_pegs HR.out HN.out (by rw [HI.out]; simp)).symm, HB1.out⟩
      · cases bj
        · go_enter Try.func29, Try.ntmps29
          obtain ⟨x0, x1, x2, x3, x4, x5, x6, x7, x8⟩ := X0.out.nine
          go_wp2_with fail
          refine (implIsRules_calls r HW.out _).mono ?_
          rintro e w1 ⟨rfl, hb⟩
          have X1 := Lib.hid (X0.out.below hb X0.out.lt)
          have G1 := Lib.hid (G0.out.below hb G0.out.lt)
          have HB1 := Lib.hid (HB0.out.trans (hb.mono (by simp)))
          clear hb X0 G0 HB0 x0 x1 x2 x3 x4 x5 x6 x7 x8
          rw [HR.out]
          obtain ⟨g0, g1, _, _⟩ := G1.out.two
          go_wp2_with fail
          refine wp_loop_rounds 4 ?_
          rw [rounds_succ]
          go_wp2_with fail
          refine (isPegT_calls 3 i _ _ HI.out).mono ?_
          rintro e w2 ⟨rfl, rfl⟩
          go_wp2_with fail
          refine (containsT_calls (some ⟨g, 0, none⟩) 0 2 [] i _ _ E0.out rfl (by omega) (pegs_nil _ _)).mono ?_
          rintro e w3 ⟨rfl, rfl⟩
          go_wp2_with fail
          rw [rounds_succ]
          go_wp2_with fail
          refine (isPegT_calls 3 j _ _ HJ.out).mono ?_
          rintro e w2 ⟨rfl, rfl⟩
          go_wp2
          go_ret
          exact ⟨ret_int (twE_pegs HR.out HN.out (by rw [HJ.out]; simp)).symm, HB1.out⟩
        · by_cases hij : i = j
          · have E1 : Hid (decide (j ∈ [i]) = true) := by unfold Hid; simp [hij]
            have HIJ := Lib.hid hij
            clear hij
            go_enter Try.func29, Try.ntmps29
            obtain ⟨x0, x1, x2, x3, x4, x5, x6, x7, x8⟩ := X0.out.nine
            go_wp2_with fail
            refine (implIsRules_calls r HW.out _).mono ?_
            rintro e w1 ⟨rfl, hb⟩
            have X1 := Lib.hid (X0.out.below hb X0.out.lt)
            have G1 := Lib.hid (G0.out.below hb G0.out.lt)
            have HB1 := Lib.hid (HB0.out.trans (hb.mono (by simp)))
            clear hb X0 G0 HB0 x0 x1 x2 x3 x4 x5 x6 x7 x8
            rw [HR.out]
            obtain ⟨g0, g1, _, _⟩ := G1.out.two
            go_wp2_with fail
            refine wp_loop_rounds 4 ?_
            rw [rounds_succ]
            go_wp2_with fail
            refine (isPegT_calls 3 i _ _ HI.out).mono ?_
            rintro e w2 ⟨rfl, rfl⟩
            go_wp2_with fail
            refine (containsT_calls (some ⟨g, 0, none⟩) 0 2 [] i _ _ E0.out rfl (by omega) (pegs_nil _ _)).mono ?_
            rintro e w3 ⟨rfl, rfl⟩
            go_wp2_with fail
            rw [rounds_succ]
            go_wp2_with fail
            refine (isPegT_calls 3 j _ _ HJ.out).mono ?_
            rintro e w2 ⟨rfl, rfl⟩
            go_wp2_with fail
            refine (containsT_calls (some ⟨g, 0, none⟩) 1 2 [i] j _ _ E1.out rfl (by omega) (pegs_one G1.out)).mono ?_
            rintro e w3 ⟨rfl, rfl⟩
            go_wp2
            go_ret
            exact ⟨ret_int (twE_pegs HR.out HN.out (fun h => h.2.2 HIJ.out)).symm, HB1.out⟩
          · have E1 : Hid (decide (j ∈ [i]) = false) := by unfold Hid; simp [Ne.symm hij]
            have HIJ := Lib.hid hij
            clear hij
            go_enter Try.func29, Try.ntmps29
            obtain ⟨x0, x1, x2, x3, x4, x5, x6, x7, x8⟩ := X0.out.nine
            go_wp2_with fail
            refine (implIsRules_calls r HW.out _).mono ?_
            rintro e w1 ⟨rfl, hb⟩
            have X1 := Lib.hid (X0.out.below hb X0.out.lt)
            have G1 := Lib.hid (G0.out.below hb G0.out.lt)
            have HB1 := Lib.hid (HB0.out.trans (hb.mono (by simp)))
            clear hb X0 G0 HB0 x0 x1 x2 x3 x4 x5 x6 x7 x8
            rw [HR.out]
            obtain ⟨g0, g1, _, _⟩ := G1.out.two
            go_wp2_with fail
            refine wp_loop_rounds 4 ?_
            rw [rounds_succ]
            go_wp2_with fail
            refine (isPegT_calls 3 i _ _ HI.out).mono ?_
            rintro e w2 ⟨rfl, rfl⟩
            go_wp2_with fail
            refine (containsT_calls (some ⟨g, 0, none⟩) 0 2 [] i _ _ E0.out rfl (by omega) (pegs_nil _ _)).mono ?_
            rintro e w3 ⟨rfl, rfl⟩
            go_wp2_with fail
            rw [rounds_succ]
            go_wp2_with fail
            refine (isPegT_calls 3 j _ _ HJ.out).mono ?_
            rintro e w2 ⟨rfl, rfl⟩
            go_wp2_with fail
            refine (containsT_calls (some ⟨g, 0, none⟩) 1 2 [i] j _ _ E1.out rfl (by omega) (pegs_one G1.out)).mono ?_
            rintro e w3 ⟨rfl, rfl⟩
            go_wp2_with fail
            rw [rounds_succ]
            obtain ⟨x0, x1, x2, x3, x4, x5, x6, x7, x8⟩ := X1.out.nine
            go_wp2_with fail
            refine (isStrong_calls r HR.out _).mono ?_
            rintro e w4 ⟨rfl, hb⟩
            have HB2 := Lib.hid (HB1.out.trans (hb.mono HB1.out.size))
            clear hb
            obtain ⟨bs, hs⟩ : ∃ b, strB r = b := ⟨_, rfl⟩
            rw [hs]
            have HS := Lib.hid hs
            clear hs
            cases bs
            · go_wp2
              go_ret
              exact ⟨ret_int (twE_weak HR.out HN.out ⟨HI.out, HJ.out, HIJ.out⟩ HS.out).symm, HB2.out⟩
            · go_wp2
              go_ret
              exact ⟨ret_int (twE_ok HR.out HN.out ⟨HI.out, HJ.out, HIJ.out⟩ HS.out).symm, HB2.out⟩
    · have HN := Lib.hid hn
      clear hr
      by_cases h0 : n < 0
      · clear hn
        go_enter Try.func29, Try.ntmps29
        obtain ⟨x0, x1, x2, x3, x4, x5, x6, x7, x8⟩ := X0.out.nine
        go_wp2_with fail
        refine (implIsRules_calls r HW.out _).mono ?_
        rintro e w1 ⟨rfl, hb⟩
        have X1 := Lib.hid (X0.out.below hb X0.out.lt)
        have G1 := Lib.hid (G0.out.below hb G0.out.lt)
        have HB1 := Lib.hid (HB0.out.trans (hb.mono (by simp)))
        clear hb X0 G0 HB0 x0 x1 x2 x3 x4 x5 x6 x7 x8
        rw [HR.out]
        go_wp2
        go_ret
        exact ⟨ret_int (twE_discs HR.out HN.out).symm, HB1.out⟩
      · have h8 : 8 < n := by omega
        clear hn
        go_enter Try.func29, Try.ntmps29
        obtain ⟨x0, x1, x2, x3, x4, x5, x6, x7, x8⟩ := X0.out.nine
        go_wp2_with fail
        refine (implIsRules_calls r HW.out _).mono ?_
        rintro e w1 ⟨rfl, hb⟩
        have X1 := Lib.hid (X0.out.below hb X0.out.lt)
        have G1 := Lib.hid (G0.out.below hb G0.out.lt)
        have HB1 := Lib.hid (HB0.out.trans (hb.mono (by simp)))
        clear hb X0 G0 HB0 x0 x1 x2 x3 x4 x5 x6 x7 x8
        rw [HR.out]
        go_wp2
        go_ret
        exact ⟨ret_int (twE_discs HR.out HN.out).symm, HB1.out⟩
  · have hr' : ruB r = false := by simpa using hr
    have HR := Lib.hid hr'
    clear hr hr'
    go_enter Try.func29, Try.ntmps29
    obtain ⟨x0, x1, x2, x3, x4, x5, x6, x7, x8⟩ := X0.out.nine
    go_wp2_with fail
    refine (implIsRules_calls r HW.out _).mono ?_
    rintro e w1 ⟨rfl, hb⟩
    have X1 := Lib.hid (X0.out.below hb X0.out.lt)
    have G1 := Lib.hid (G0.out.below hb G0.out.lt)
    have HB1 := Lib.hid (HB0.out.trans (hb.mono (by simp)))
    clear hb X0 G0 HB0 x0 x1 x2 x3 x4 x5 x6 x7 x8
    rw [HR.out]
    go_wp2
    go_ret
    exact ⟨ret_int (twE_rules HR.out).symm, HB1.out⟩

theorem l01InT_calls (a lo hi : Int) (b : Bool) (h : inB a lo hi = b) (w : World) :
    Calls Try.prog 51 #[.int .i64 a, .int .i64 lo, .int .i64 hi] w fun e w' => e = .returned (.bool b) ∧ w = w' := h ▸ l01In_calls a lo hi w
theorem peg_in {i : Int} {b : Bool} (h : pegB 3 i = b) : inB i 0 2 = b := by
  rw [← h]; unfold inB pegB; exact decide_eq_decide.2 (by omega)

set_option maxRecDepth 100000 in
set_option maxHeartbeats 4000000 in
theorem l07Given_calls (r : Nat → Int) (n i j : Int) (g : Nat) (w : World) (hG : Box w g 2 #[.int .i64 i, .int .i64 j]) :
    Calls Try.prog 32 #[.agg (z9 r), .int .i64 n, .slice (some ⟨g, 0, none⟩) 2 2] w fun e w' => e = .returned (.int .i64 (twE r n i j)) ∧ Below w.heap.size w w' := by
  have X0 := Lib.hid (Box.new w 26 (z9 r))
  have G0 := Lib.hid (hG.alloc (.cells (z9 r) 26))
  have HB0 := Lib.hid ((Below.refl w.heap.size w).alloc (Nat.le_refl _) (.cells (z9 r) 26))
  clear hG
  unfold z9
  by_cases hr : ruB r = true
  · have HR := Lib.hid hr
    clear hr
    by_cases hn : 0 ≤ n ∧ n ≤ 8
    · have HN := Lib.hid hn
      have HV : Hid (inB n 0 8 = true) := by unfold Hid inB; simp [hn]
      clear hn
      obtain ⟨bi, hi⟩ : ∃ b, pegB 3 i = b := ⟨_, rfl⟩
      obtain ⟨bj, hj⟩ : ∃ b, pegB 3 j = b := ⟨_, rfl⟩
      have HI := Lib.hid hi
      have HJ := Lib.hid hj
      have QI := Lib.hid (peg_in hi)
      have QJ := Lib.hid (peg_in hj)
      clear hi hj
      cases bi
      · go_enter Try.func32, Try.ntmps32
        obtain ⟨x0, x1, x2, x3, x4, x5, x6, x7, x8⟩ := X0.out.nine
        go_wp2_with fail
        refine (l07Is_calls r _).mono ?_
        rintro e w1 ⟨rfl, hb⟩
        have X1 := Lib.hid (X0.out.below hb X0.out.lt)
        have G1 := Lib.hid (G0.out.below hb G0.out.lt)
        have HB1 := Lib.hid (HB0.out.trans (hb.mono (by simp)))
        clear hb X0 G0 HB0 x0 x1 x2 x3 x4 x5 x6 x7 x8
        rw [HR.out]
        go_wp2_with fail
        refine (l01InT_calls n 0 8 _ HV.out _).mono ?_
        rintro e w2 ⟨rfl, rfl⟩
        obtain ⟨g0, g1, _, _⟩ := G1.out.two
        go_wp2_with fail
        refine wp_loop_rounds 4 ?_
        rw [rounds_succ]
        go_wp2_with fail
        go_quiet ((go_at_call 51; first | exact quietL (l01InT_calls _ _ _ _ QI.out) | exact quietLa (l01InT_calls _ _ _ _ QI.out)))
        go_wp2
        go_ret
        exact ⟨ret_int (twE_pegs HR.out HN.out (by rw [HI.out]; simp)).symm, (belowDraws HB1.out _)⟩
      · cases bj
        · go_enter Try.func32, Try.ntmps32
          obtain ⟨x0, x1, x2, x3, x4, x5, x6, x7, x8⟩ := X0.out.nine
          go_wp2_with fail
          refine (l07Is_calls r _).mono ?_
          rintro e w1 ⟨rfl, hb⟩
          have X1 := Lib.hid (X0.out.below hb X0.out.lt)
          have G1 := Lib.hid (G0.out.below hb G0.out.lt)
          have HB1 := Lib.hid (HB0.out.trans (hb.mono (by simp)))
          clear hb X0 G0 HB0 x0 x1 x2 x3 x4 x5 x6 x7 x8
          rw [HR.out]
          go_wp2_with fail
          refine (l01InT_calls n 0 8 _ HV.out _).mono ?_
          rintro e w2 ⟨rfl, rfl⟩
          obtain ⟨g0, g1, _, _⟩ := G1.out.two
          go_wp2_with fail
          refine wp_loop_rounds 4 ?_
          rw [rounds_succ]
          go_wp2_with fail
          go_quiet ((go_at_call 51; first | exact quietL (l01InT_calls _ _ _ _ QI.out) | exact quietLa (l01InT_calls _ _ _ _ QI.out)))
          go_wp2_with fail
          rw [rounds_succ]
          go_wp2_with fail
          go_quiet ((go_at_call 51; first | exact quietL (l01InT_calls _ _ _ _ QJ.out) | exact quietLa (l01InT_calls _ _ _ _ QJ.out)))
          go_wp2
          go_ret
          exact ⟨ret_int (twE_pegs HR.out HN.out (by rw [HJ.out]; simp)).symm, (belowDraws (belowDraws HB1.out _) _)⟩
        · by_cases hij : j = i
          · subst hij
            go_enter Try.func32, Try.ntmps32
            obtain ⟨x0, x1, x2, x3, x4, x5, x6, x7, x8⟩ := X0.out.nine
            go_wp2_with fail
            refine (l07Is_calls r _).mono ?_
            rintro e w1 ⟨rfl, hb⟩
            have X1 := Lib.hid (X0.out.below hb X0.out.lt)
            have G1 := Lib.hid (G0.out.below hb G0.out.lt)
            have HB1 := Lib.hid (HB0.out.trans (hb.mono (by simp)))
            clear hb X0 G0 HB0 x0 x1 x2 x3 x4 x5 x6 x7 x8
            rw [HR.out]
            go_wp2_with fail
            refine (l01InT_calls n 0 8 _ HV.out _).mono ?_
            rintro e w2 ⟨rfl, rfl⟩
            obtain ⟨g0, g1, _, _⟩ := G1.out.two
            go_wp2_with fail
            refine wp_loop_rounds 4 ?_
            rw [rounds_succ]
            go_wp2_with fail
            go_quiet ((go_at_call 51; first | exact quietL (l01InT_calls _ _ _ _ QI.out) | exact quietLa (l01InT_calls _ _ _ _ QI.out)))
            go_wp2_with fail
            rw [rounds_succ]
            go_wp2_with fail
            go_quiet ((go_at_call 51; first | exact quietL (l01InT_calls _ _ _ _ QJ.out) | exact quietLa (l01InT_calls _ _ _ _ QJ.out)))
            go_wp2
            go_ret
            exact ⟨ret_int (twE_pegs HR.out HN.out (fun h => h.2.2 rfl)).symm, (belowDraws (belowDraws HB1.out _) _)⟩
          · have HIJ := Lib.hid hij
            go_enter Try.func32, Try.ntmps32
            obtain ⟨x0, x1, x2, x3, x4, x5, x6, x7, x8⟩ := X0.out.nine
            go_wp2_with fail
            refine (l07Is_calls r _).mono ?_
            rintro e w1 ⟨rfl, hb⟩
            have X1 := Lib.hid (X0.out.below hb X0.out.lt)
            have G1 := Lib.hid (G0.out.below hb G0.out.lt)
            have HB1 := Lib.hid (HB0.out.trans (hb.mono (by simp)))
            clear hb X0 G0 HB0 x0 x1 x2 x3 x4 x5 x6 x7 x8
            rw [HR.out]
            go_wp2_with fail
            refine (l01InT_calls n 0 8 _ HV.out _).mono ?_
            rintro e w2 ⟨rfl, rfl⟩
            obtain ⟨g0, g1, _, _⟩ := G1.out.two
            go_wp2_with fail
            refine wp_loop_rounds 4 ?_
            rw [rounds_succ]
            go_wp2_with fail
            go_quiet ((go_at_call 51; first | exact quietL (l01InT_calls _ _ _ _ QI.out) | exact quietLa (l01InT_calls _ _ _ _ QI.out)))
            go_wp2_with fail
            rw [rounds_succ]
            go_wp2_with fail
            go_quiet ((go_at_call 51; first | exact quietL (l01InT_calls _ _ _ _ QJ.out) | exact quietLa (l01InT_calls _ _ _ _ QJ.out)))
            go_wp2_with fail
            rw [rounds_succ]
            clear g0 g1
            obtain ⟨x0, x1, x2, x3, x4, x5, x6, x7, x8⟩ := X1.out.nine
            go_wp2_with fail
            refine (l07Strong_calls r _).mono ?_
            rintro e w4 ⟨rfl, hb⟩
            have HB2 := Lib.hid ((belowDraws HB1.out _).trans (hb.mono (belowDraws HB1.out _).size))
            clear hb
            obtain ⟨bs, hs⟩ : ∃ b, strB r = b := ⟨_, rfl⟩
            rw [hs]
            have HS := Lib.hid hs
            clear hs
            cases bs
            · go_wp2
              go_ret
              exact ⟨ret_int (twE_weak HR.out HN.out ⟨HI.out, HJ.out, Ne.symm HIJ.out⟩ HS.out).symm, HB2.out⟩
            · go_wp2
              go_ret
              exact ⟨ret_int (twE_ok HR.out HN.out ⟨HI.out, HJ.out, Ne.symm HIJ.out⟩ HS.out).symm, HB2.out⟩
    · have HN := Lib.hid hn
      have HV : Hid (inB n 0 8 = false) := by unfold Hid inB; simp; omega
      clear hn
      go_enter Try.func32, Try.ntmps32
      obtain ⟨x0, x1, x2, x3, x4, x5, x6, x7, x8⟩ := X0.out.nine
      go_wp2_with fail
      refine (l07Is_calls r _).mono ?_
      rintro e w1 ⟨rfl, hb⟩
      have X1 := Lib.hid (X0.out.below hb X0.out.lt)
      have G1 := Lib.hid (G0.out.below hb G0.out.lt)
      have HB1 := Lib.hid (HB0.out.trans (hb.mono (by simp)))
      clear hb X0 G0 HB0 x0 x1 x2 x3 x4 x5 x6 x7 x8
      rw [HR.out]
      go_wp2_with fail
      refine (l01InT_calls n 0 8 _ HV.out _).mono ?_
      rintro e w2 ⟨rfl, rfl⟩
      go_wp2
      go_ret
      exact ⟨ret_int (twE_discs HR.out HN.out).symm, HB1.out⟩
  · have hr' : ruB r = false := by simpa using hr
    have HR := Lib.hid hr'
    clear hr hr'
    go_enter Try.func32, Try.ntmps32
    obtain ⟨x0, x1, x2, x3, x4, x5, x6, x7, x8⟩ := X0.out.nine
    go_wp2_with fail
    refine (l07Is_calls r _).mono ?_
    rintro e w1 ⟨rfl, hb⟩
    have X1 := Lib.hid (X0.out.below hb X0.out.lt)
    have G1 := Lib.hid (G0.out.below hb G0.out.lt)
    have HB1 := Lib.hid (HB0.out.trans (hb.mono (by simp)))
    clear hb X0 G0 HB0 x0 x1 x2 x3 x4 x5 x6 x7 x8
    rw [HR.out]
    go_wp2
    go_ret
    exact ⟨ret_int (twE_rules HR.out).symm, HB1.out⟩

end Go.Proofs.Ytfdjlgpdbgmdkac
