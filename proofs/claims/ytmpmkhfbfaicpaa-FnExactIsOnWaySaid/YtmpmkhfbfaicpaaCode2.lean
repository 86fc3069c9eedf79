/- Contracts: the code of two states of three pegs. -/
import Derived.Test.YtmpmkhfbfaicpaaCode
namespace Go.Proofs.Ytmpmkhfbfaicpaa
open Go.RowKit
set_option linter.unusedVariables false

theorem Box.four {w : World} {b t : Nat} {u v x y : Value} (h : Box w b t #[u, v, x, y]) : w.cell? ⟨b, 0, none⟩ = some u ∧ w.cell? ⟨b, 1, none⟩ = some v ∧ w.cell? ⟨b, 2, none⟩ = some x ∧ w.cell? ⟨b, 3, none⟩ = some y := by
  have c0 := h.cell 0
  have c1 := h.cell 1
  have c2 := h.cell 2
  have c3 := h.cell 3
  exact ⟨by simpa using c0, by simpa using c1, by simpa using c2, by simpa using c3⟩

set_option maxHeartbeats 2000000 in
theorem l02Code_two (g : Nat) (A : Option Addr) (n c : Nat) (p : Int) (L : List Int) (B : Option Addr) (m d : Nat) (q : Int) (M : List Int) (w : World) (hx : Box w g 30 #[.int .i64 p, .slice A n c, .int .i64 q, .slice B m d]) (hL : L.length = n) (hn : n ≤ 1048576) (hI : Ints w A L) (hM : M.length = m) (hm : m ≤ 1048576) (hJ : Ints w B M) :
    Calls Try.prog 27 #[.slice (some ⟨g, 0, none⟩) 2 2] w fun e w' => e = .returned (.int .i64 (code2 p L q M)) ∧ Below w.heap.size w w' := by
  have HL := Lib.hid hL
  have HM := Lib.hid hM
  have X0 := Lib.hid hx
  have HI0 := Lib.hid hI
  have HJ0 := Lib.hid hJ
  have HB0 := Lib.hid (Below.refl w.heap.size w)
  clear hL hM hx hI hJ
  by_cases hs : stateB p L = true
  · have HS := Lib.hid hs
    by_cases ht : stateB q M = true
    · have HT := Lib.hid ht
      by_cases hp : p = 3
      · have hpd : (p != 3) = false := by simpa using hp
        have HP := Lib.hid hp
        clear hp
        by_cases hq : q = 3
        · have hqd : (q != 3) = false := by simpa using hq
          have HQ := Lib.hid hq
          clear hq
          by_cases hnm : n = m
          · have hne : ((m : Int) != (n : Int)) = false := by simp; omega
            have HN := Lib.hid hnm
            clear hnm
            obtain ⟨x0, x1, x2, x3⟩ := X0.out.four
            go_enter Try.func27, Try.ntmps27
            go_wp2
            refine wp_loop_rounds 3 ?_
            rw [rounds_succ]
            go_wp2_with fail
            refine (l01Is_calls A n c p L _ HL.out hn HI0.out).mono ?_
            rintro e w1 ⟨rfl, hb⟩
            have X1 := Lib.hid (X0.out.below hb X0.out.lt)
            have HI1 := Lib.hid (HI0.out.below hb)
            have HJ1 := Lib.hid (HJ0.out.below hb)
            have HB1 := Lib.hid (HB0.out.trans (hb.mono HB0.out.size))
            clear hb x0 x1 x2 x3 X0 HI0 HJ0 HB0
            obtain ⟨x0, x1, x2, x3⟩ := X1.out.four
            go_wp2
            rw [rounds_succ]
            go_wp2_with fail
            refine (l01Is_calls B m d q M _ HM.out hm HJ1.out).mono ?_
            rintro e w2 ⟨rfl, hb⟩
            have X2 := Lib.hid (X1.out.below hb X1.out.lt)
            have HI2 := Lib.hid (HI1.out.below hb)
            have HJ2 := Lib.hid (HJ1.out.below hb)
            have HB2 := Lib.hid (HB1.out.trans (hb.mono HB1.out.size))
            clear hb x0 x1 x2 x3 X1 HI1 HJ1 HB1
            obtain ⟨x0, x1, x2, x3⟩ := X2.out.four
            go_wp2
            rw [rounds_succ]
            go_wp2
            refine wp_loop_rounds 3 ?_
            rw [rounds_succ]
            go_wp2_with fail
            go_quiet (fail)
            go_wp2
            rw [rounds_succ]
            go_wp2_with fail
            go_quiet (fail)
            go_wp2
            rw [rounds_succ]
            go_wp2
            go_ret
            exact ⟨ret_int' (by unfold code2; rw [if_pos ⟨HS.out, HT.out⟩, if_pos ⟨HP.out, HQ.out, by rw [HL.out, HM.out, HN.out]⟩]), by first | exact HB2.out | exact belowDraws HB2.out _ | exact belowDraws (belowDraws HB2.out _) _ | exact (HB2.out.alloc HB2.out.size _) | exact belowDraws (HB2.out.alloc HB2.out.size _) _ | exact belowDraws (belowDraws (HB2.out.alloc HB2.out.size _) _) _ | exact ((HB2.out.alloc HB2.out.size _).alloc (by have := HB2.out.size; simp; omega) _) | exact belowDraws ((HB2.out.alloc HB2.out.size _).alloc (by have := HB2.out.size; simp; omega) _) _ | exact belowDraws (belowDraws ((HB2.out.alloc HB2.out.size _).alloc (by have := HB2.out.size; simp; omega) _) _) _ | exact ((belowDraws (HB2.out.alloc HB2.out.size _) _).alloc (by have := HB2.out.size; simp; omega) _) | exact belowDraws ((belowDraws (HB2.out.alloc HB2.out.size _) _).alloc (by have := HB2.out.size; simp; omega) _) _ | exact belowDraws (belowDraws ((belowDraws (HB2.out.alloc HB2.out.size _) _).alloc (by have := HB2.out.size; simp; omega) _) _) _⟩
          · have hne : ((m : Int) != (n : Int)) = true := by simp; omega
            have HN := Lib.hid hnm
            clear hnm
            obtain ⟨x0, x1, x2, x3⟩ := X0.out.four
            go_enter Try.func27, Try.ntmps27
            go_wp2
            refine wp_loop_rounds 3 ?_
            rw [rounds_succ]
            go_wp2_with fail
            refine (l01Is_calls A n c p L _ HL.out hn HI0.out).mono ?_
            rintro e w1 ⟨rfl, hb⟩
            have X1 := Lib.hid (X0.out.below hb X0.out.lt)
            have HI1 := Lib.hid (HI0.out.below hb)
            have HJ1 := Lib.hid (HJ0.out.below hb)
            have HB1 := Lib.hid (HB0.out.trans (hb.mono HB0.out.size))
            clear hb x0 x1 x2 x3 X0 HI0 HJ0 HB0
            obtain ⟨x0, x1, x2, x3⟩ := X1.out.four
            go_wp2
            rw [rounds_succ]
            go_wp2_with fail
            refine (l01Is_calls B m d q M _ HM.out hm HJ1.out).mono ?_
            rintro e w2 ⟨rfl, hb⟩
            have X2 := Lib.hid (X1.out.below hb X1.out.lt)
            have HI2 := Lib.hid (HI1.out.below hb)
            have HJ2 := Lib.hid (HJ1.out.below hb)
            have HB2 := Lib.hid (HB1.out.trans (hb.mono HB1.out.size))
            clear hb x0 x1 x2 x3 X1 HI1 HJ1 HB1
            obtain ⟨x0, x1, x2, x3⟩ := X2.out.four
            go_wp2
            rw [rounds_succ]
            go_wp2
            refine wp_loop_rounds 3 ?_
            rw [rounds_succ]
            go_wp2_with fail
            go_quiet (fail)
            go_wp2
            rw [rounds_succ]
            go_wp2_with fail
            go_quiet (fail)
            go_wp2
            go_ret
            exact ⟨ret_int' (by unfold code2; rw [if_pos ⟨HS.out, HT.out⟩, if_neg (by rintro ⟨_, _, h⟩; exact HN.out (by rw [← HL.out, ← HM.out, h]))]), by first | exact HB2.out | exact belowDraws HB2.out _ | exact belowDraws (belowDraws HB2.out _) _ | exact (HB2.out.alloc HB2.out.size _) | exact belowDraws (HB2.out.alloc HB2.out.size _) _ | exact belowDraws (belowDraws (HB2.out.alloc HB2.out.size _) _) _ | exact ((HB2.out.alloc HB2.out.size _).alloc (by have := HB2.out.size; simp; omega) _) | exact belowDraws ((HB2.out.alloc HB2.out.size _).alloc (by have := HB2.out.size; simp; omega) _) _ | exact belowDraws (belowDraws ((HB2.out.alloc HB2.out.size _).alloc (by have := HB2.out.size; simp; omega) _) _) _ | exact ((belowDraws (HB2.out.alloc HB2.out.size _) _).alloc (by have := HB2.out.size; simp; omega) _) | exact belowDraws ((belowDraws (HB2.out.alloc HB2.out.size _) _).alloc (by have := HB2.out.size; simp; omega) _) _ | exact belowDraws (belowDraws ((belowDraws (HB2.out.alloc HB2.out.size _) _).alloc (by have := HB2.out.size; simp; omega) _) _) _⟩
        · have hqd : (q != 3) = true := by simpa using hq
          obtain ⟨x0, x1, x2, x3⟩ := X0.out.four
          go_enter Try.func27, Try.ntmps27
          go_wp2
          refine wp_loop_rounds 3 ?_
          rw [rounds_succ]
          go_wp2_with fail
          refine (l01Is_calls A n c p L _ HL.out hn HI0.out).mono ?_
          rintro e w1 ⟨rfl, hb⟩
          have X1 := Lib.hid (X0.out.below hb X0.out.lt)
          have HI1 := Lib.hid (HI0.out.below hb)
          have HJ1 := Lib.hid (HJ0.out.below hb)
          have HB1 := Lib.hid (HB0.out.trans (hb.mono HB0.out.size))
          clear hb x0 x1 x2 x3 X0 HI0 HJ0 HB0
          obtain ⟨x0, x1, x2, x3⟩ := X1.out.four
          go_wp2
          rw [rounds_succ]
          go_wp2_with fail
          refine (l01Is_calls B m d q M _ HM.out hm HJ1.out).mono ?_
          rintro e w2 ⟨rfl, hb⟩
          have X2 := Lib.hid (X1.out.below hb X1.out.lt)
          have HI2 := Lib.hid (HI1.out.below hb)
          have HJ2 := Lib.hid (HJ1.out.below hb)
          have HB2 := Lib.hid (HB1.out.trans (hb.mono HB1.out.size))
          clear hb x0 x1 x2 x3 X1 HI1 HJ1 HB1
          obtain ⟨x0, x1, x2, x3⟩ := X2.out.four
          go_wp2
          rw [rounds_succ]
          go_wp2
          refine wp_loop_rounds 3 ?_
          rw [rounds_succ]
          go_wp2_with fail
          go_quiet (fail)
          go_wp2
          rw [rounds_succ]
          go_wp2_with fail
          go_quiet (fail)
          go_wp2
          go_ret
          exact ⟨ret_int' (by unfold code2; rw [if_pos ⟨HS.out, HT.out⟩, if_neg (by rintro ⟨_, h, _⟩; exact hq h)]), by first | exact HB2.out | exact belowDraws HB2.out _ | exact belowDraws (belowDraws HB2.out _) _ | exact (HB2.out.alloc HB2.out.size _) | exact belowDraws (HB2.out.alloc HB2.out.size _) _ | exact belowDraws (belowDraws (HB2.out.alloc HB2.out.size _) _) _ | exact ((HB2.out.alloc HB2.out.size _).alloc (by have := HB2.out.size; simp; omega) _) | exact belowDraws ((HB2.out.alloc HB2.out.size _).alloc (by have := HB2.out.size; simp; omega) _) _ | exact belowDraws (belowDraws ((HB2.out.alloc HB2.out.size _).alloc (by have := HB2.out.size; simp; omega) _) _) _ | exact ((belowDraws (HB2.out.alloc HB2.out.size _) _).alloc (by have := HB2.out.size; simp; omega) _) | exact belowDraws ((belowDraws (HB2.out.alloc HB2.out.size _) _).alloc (by have := HB2.out.size; simp; omega) _) _ | exact belowDraws (belowDraws ((belowDraws (HB2.out.alloc HB2.out.size _) _).alloc (by have := HB2.out.size; simp; omega) _) _) _⟩
      · have hpd : (p != 3) = true := by simpa using hp
        obtain ⟨x0, x1, x2, x3⟩ := X0.out.four
        go_enter Try.func27, Try.ntmps27
        go_wp2
        refine wp_loop_rounds 3 ?_
        rw [rounds_succ]
        go_wp2_with fail
        refine (l01Is_calls A n c p L _ HL.out hn HI0.out).mono ?_
        rintro e w1 ⟨rfl, hb⟩
        have X1 := Lib.hid (X0.out.below hb X0.out.lt)
        have HI1 := Lib.hid (HI0.out.below hb)
        have HJ1 := Lib.hid (HJ0.out.below hb)
        have HB1 := Lib.hid (HB0.out.trans (hb.mono HB0.out.size))
        clear hb x0 x1 x2 x3 X0 HI0 HJ0 HB0
        obtain ⟨x0, x1, x2, x3⟩ := X1.out.four
        go_wp2
        rw [rounds_succ]
        go_wp2_with fail
        refine (l01Is_calls B m d q M _ HM.out hm HJ1.out).mono ?_
        rintro e w2 ⟨rfl, hb⟩
        have X2 := Lib.hid (X1.out.below hb X1.out.lt)
        have HI2 := Lib.hid (HI1.out.below hb)
        have HJ2 := Lib.hid (HJ1.out.below hb)
        have HB2 := Lib.hid (HB1.out.trans (hb.mono HB1.out.size))
        clear hb x0 x1 x2 x3 X1 HI1 HJ1 HB1
        obtain ⟨x0, x1, x2, x3⟩ := X2.out.four
        go_wp2
        rw [rounds_succ]
        go_wp2
        refine wp_loop_rounds 3 ?_
        rw [rounds_succ]
        go_wp2_with fail
        go_quiet (fail)
        go_wp2
        go_ret
        exact ⟨ret_int' (by unfold code2; rw [if_pos ⟨HS.out, HT.out⟩, if_neg (by rintro ⟨h, _⟩; exact hp h)]), by first | exact HB2.out | exact belowDraws HB2.out _ | exact belowDraws (belowDraws HB2.out _) _ | exact (HB2.out.alloc HB2.out.size _) | exact belowDraws (HB2.out.alloc HB2.out.size _) _ | exact belowDraws (belowDraws (HB2.out.alloc HB2.out.size _) _) _ | exact ((HB2.out.alloc HB2.out.size _).alloc (by have := HB2.out.size; simp; omega) _) | exact belowDraws ((HB2.out.alloc HB2.out.size _).alloc (by have := HB2.out.size; simp; omega) _) _ | exact belowDraws (belowDraws ((HB2.out.alloc HB2.out.size _).alloc (by have := HB2.out.size; simp; omega) _) _) _ | exact ((belowDraws (HB2.out.alloc HB2.out.size _) _).alloc (by have := HB2.out.size; simp; omega) _) | exact belowDraws ((belowDraws (HB2.out.alloc HB2.out.size _) _).alloc (by have := HB2.out.size; simp; omega) _) _ | exact belowDraws (belowDraws ((belowDraws (HB2.out.alloc HB2.out.size _) _).alloc (by have := HB2.out.size; simp; omega) _) _) _⟩
    · have ht' : stateB q M = false := by simpa using ht
      have HT := Lib.hid ht'
      clear ht
      obtain ⟨x0, x1, x2, x3⟩ := X0.out.four
      go_enter Try.func27, Try.ntmps27
      go_wp2
      refine wp_loop_rounds 3 ?_
      rw [rounds_succ]
      go_wp2_with fail
      refine (l01Is_calls A n c p L _ HL.out hn HI0.out).mono ?_
      rintro e w1 ⟨rfl, hb⟩
      have X1 := Lib.hid (X0.out.below hb X0.out.lt)
      have HI1 := Lib.hid (HI0.out.below hb)
      have HJ1 := Lib.hid (HJ0.out.below hb)
      have HB1 := Lib.hid (HB0.out.trans (hb.mono HB0.out.size))
      clear hb x0 x1 x2 x3 X0 HI0 HJ0 HB0
      obtain ⟨x0, x1, x2, x3⟩ := X1.out.four
      go_wp2
      rw [rounds_succ]
      go_wp2_with fail
      refine (l01Is_calls B m d q M _ HM.out hm HJ1.out).mono ?_
      rintro e w2 ⟨rfl, hb⟩
      have X2 := Lib.hid (X1.out.below hb X1.out.lt)
      have HI2 := Lib.hid (HI1.out.below hb)
      have HJ2 := Lib.hid (HJ1.out.below hb)
      have HB2 := Lib.hid (HB1.out.trans (hb.mono HB1.out.size))
      clear hb x0 x1 x2 x3 X1 HI1 HJ1 HB1
      obtain ⟨x0, x1, x2, x3⟩ := X2.out.four
      go_wp2
      go_ret
      exact ⟨ret_int' (by unfold code2; rw [if_neg (by rintro ⟨_, h⟩; rw [HT.out] at h; cases h)]), by first | exact HB2.out | exact belowDraws HB2.out _ | exact belowDraws (belowDraws HB2.out _) _ | exact (HB2.out.alloc HB2.out.size _) | exact belowDraws (HB2.out.alloc HB2.out.size _) _ | exact belowDraws (belowDraws (HB2.out.alloc HB2.out.size _) _) _ | exact ((HB2.out.alloc HB2.out.size _).alloc (by have := HB2.out.size; simp; omega) _) | exact belowDraws ((HB2.out.alloc HB2.out.size _).alloc (by have := HB2.out.size; simp; omega) _) _ | exact belowDraws (belowDraws ((HB2.out.alloc HB2.out.size _).alloc (by have := HB2.out.size; simp; omega) _) _) _ | exact ((belowDraws (HB2.out.alloc HB2.out.size _) _).alloc (by have := HB2.out.size; simp; omega) _) | exact belowDraws ((belowDraws (HB2.out.alloc HB2.out.size _) _).alloc (by have := HB2.out.size; simp; omega) _) _ | exact belowDraws (belowDraws ((belowDraws (HB2.out.alloc HB2.out.size _) _).alloc (by have := HB2.out.size; simp; omega) _) _) _⟩
  · have hs' : stateB p L = false := by simpa using hs
    have HS := Lib.hid hs'
    clear hs
    obtain ⟨x0, x1, x2, x3⟩ := X0.out.four
    go_enter Try.func27, Try.ntmps27
    go_wp2
    refine wp_loop_rounds 3 ?_
    rw [rounds_succ]
    go_wp2_with fail
    refine (l01Is_calls A n c p L _ HL.out hn HI0.out).mono ?_
    rintro e w1 ⟨rfl, hb⟩
    have X1 := Lib.hid (X0.out.below hb X0.out.lt)
    have HI1 := Lib.hid (HI0.out.below hb)
    have HJ1 := Lib.hid (HJ0.out.below hb)
    have HB1 := Lib.hid (HB0.out.trans (hb.mono HB0.out.size))
    clear hb x0 x1 x2 x3 X0 HI0 HJ0 HB0
    obtain ⟨x0, x1, x2, x3⟩ := X1.out.four
    go_wp2
    go_ret
    exact ⟨ret_int' (by unfold code2; rw [if_neg (by rintro ⟨h, _⟩; rw [HS.out] at h; cases h)]), by first | exact HB1.out | exact belowDraws HB1.out _ | exact belowDraws (belowDraws HB1.out _) _ | exact (HB1.out.alloc HB1.out.size _) | exact belowDraws (HB1.out.alloc HB1.out.size _) _ | exact belowDraws (belowDraws (HB1.out.alloc HB1.out.size _) _) _ | exact ((HB1.out.alloc HB1.out.size _).alloc (by have := HB1.out.size; simp; omega) _) | exact belowDraws ((HB1.out.alloc HB1.out.size _).alloc (by have := HB1.out.size; simp; omega) _) _ | exact belowDraws (belowDraws ((HB1.out.alloc HB1.out.size _).alloc (by have := HB1.out.size; simp; omega) _) _) _ | exact ((belowDraws (HB1.out.alloc HB1.out.size _) _).alloc (by have := HB1.out.size; simp; omega) _) | exact belowDraws ((belowDraws (HB1.out.alloc HB1.out.size _) _).alloc (by have := HB1.out.size; simp; omega) _) _ | exact belowDraws (belowDraws ((belowDraws (HB1.out.alloc HB1.out.size _) _).alloc (by have := HB1.out.size; simp; omega) _) _) _⟩

set_option maxHeartbeats 2000000 in
theorem codeOfStates_two (g : Nat) (A : Option Addr) (n c : Nat) (p : Int) (L : List Int) (B : Option Addr) (m d : Nat) (q : Int) (M : List Int) (w : World) (hx : Box w g 30 #[.int .i64 p, .slice A n c, .int .i64 q, .slice B m d]) (hL : L.length = n) (hn : n ≤ 1048576) (hI : Ints w A L) (hM : M.length = m) (hm : m ≤ 1048576) (hJ : Ints w B M) :
    Calls Try.prog 32 #[.slice (some ⟨g, 0, none⟩) 2 2] w fun e w' => e = .returned (.int .i64 (code2 p L q M)) ∧ Below w.heap.size w w' := by
  have HL := Lib.hid hL
  have HM := Lib.hid hM
  have X0 := Lib.hid hx
  have HI0 := Lib.hid hI
  have HJ0 := Lib.hid hJ
  have HB0 := Lib.hid (Below.refl w.heap.size w)
  clear hL hM hx hI hJ
  by_cases hs : stateB p L = true
  · have HS := Lib.hid hs
    by_cases ht : stateB q M = true
    · have HT := Lib.hid ht
      by_cases hp : p = 3
      · have hpd : (p != 3) = false := by simpa using hp
        have HP := Lib.hid hp
        clear hp
        by_cases hq : q = 3
        · have hqd : (q != 3) = false := by simpa using hq
          have HQ := Lib.hid hq
          clear hq
          by_cases hnm : n = m
          · have hne : ((m : Int) != (n : Int)) = false := by simp; omega
            have HN := Lib.hid hnm
            clear hnm
            obtain ⟨x0, x1, x2, x3⟩ := X0.out.four
            go_enter Try.func32, Try.ntmps32
            go_wp2
            refine wp_loop_rounds 3 ?_
            rw [rounds_succ]
            have Z0 := Lib.hid (HI0.out.below ((Below.refl _ _).alloc (Nat.le_refl _) (.cells #[.int .i64 p, .slice A n c] 30)))
            go_wp2_with fail
            refine (implIsState_calls A n c p L _ HL.out hn Z0.out).mono ?_
            rintro e w1 ⟨rfl, hb⟩
            have X1 := Lib.hid ((X0.out.alloc (.cells #[.int .i64 p, .slice A n c] 30)).below hb (by have := X0.out.lt; simp; omega))
            have HI1 := Lib.hid ((HI0.out.below ((Below.refl _ _).alloc (Nat.le_refl _) (.cells #[.int .i64 p, .slice A n c] 30))).below hb)
            have HJ1 := Lib.hid ((HJ0.out.below ((Below.refl _ _).alloc (Nat.le_refl _) (.cells #[.int .i64 p, .slice A n c] 30))).below hb)
            have HB1 := Lib.hid ((HB0.out.alloc HB0.out.size (.cells #[.int .i64 p, .slice A n c] 30)).trans (hb.mono (by have := HB0.out.size; first | omega | (simp; done) | (simp; omega))))
            clear Z0
            clear hb x0 x1 x2 x3 X0 HI0 HJ0 HB0
            obtain ⟨x0, x1, x2, x3⟩ := X1.out.four
            go_wp2
            rw [rounds_succ]
            have Z1 := Lib.hid (HJ1.out.below ((Below.refl _ _).alloc (Nat.le_refl _) (.cells #[.int .i64 q, .slice B m d] 30)))
            go_wp2_with fail
            refine (implIsState_calls B m d q M _ HM.out hm Z1.out).mono ?_
            rintro e w2 ⟨rfl, hb⟩
            have X2 := Lib.hid ((X1.out.alloc (.cells #[.int .i64 q, .slice B m d] 30)).below hb (by have := X1.out.lt; simp; omega))
            have HI2 := Lib.hid ((HI1.out.below ((Below.refl _ _).alloc (Nat.le_refl _) (.cells #[.int .i64 q, .slice B m d] 30))).below hb)
            have HJ2 := Lib.hid ((HJ1.out.below ((Below.refl _ _).alloc (Nat.le_refl _) (.cells #[.int .i64 q, .slice B m d] 30))).below hb)
            have HB2 := Lib.hid ((HB1.out.alloc HB1.out.size (.cells #[.int .i64 q, .slice B m d] 30)).trans (hb.mono (by have := HB1.out.size; first | omega | (simp; done) | (simp; omega))))
            clear Z1
            clear hb x0 x1 x2 x3 X1 HI1 HJ1 HB1
            obtain ⟨x0, x1, x2, x3⟩ := X2.out.four
            go_wp2
            rw [rounds_succ]
            go_wp2
            refine wp_loop_rounds 3 ?_
            rw [rounds_succ]
            obtain ⟨z0, z1, z2, z3⟩ := (X2.out.alloc (.cells #[.int .i64 p, .slice A n c] 30)).four
            go_wp2_with fail
            go_quiet (fail)
            go_wp2
            rw [rounds_succ]
            obtain ⟨v0, v1, v2, v3⟩ := (((X2.out.alloc (.cells #[.int .i64 p, .slice A n c] 30)).draws nq).alloc (.cells #[.int .i64 q, .slice B m d] 30)).four
            go_wp2_with fail
            go_quiet (fail)
            go_wp2
            rw [rounds_succ]
            go_wp2
            go_ret
            exact ⟨ret_int' (by unfold code2; rw [if_pos ⟨HS.out, HT.out⟩, if_pos ⟨HP.out, HQ.out, by rw [HL.out, HM.out, HN.out]⟩]), by first | exact HB2.out | exact belowDraws HB2.out _ | exact belowDraws (belowDraws HB2.out _) _ | exact (HB2.out.alloc HB2.out.size _) | exact belowDraws (HB2.out.alloc HB2.out.size _) _ | exact belowDraws (belowDraws (HB2.out.alloc HB2.out.size _) _) _ | exact ((HB2.out.alloc HB2.out.size _).alloc (by have := HB2.out.size; simp; omega) _) | exact belowDraws ((HB2.out.alloc HB2.out.size _).alloc (by have := HB2.out.size; simp; omega) _) _ | exact belowDraws (belowDraws ((HB2.out.alloc HB2.out.size _).alloc (by have := HB2.out.size; simp; omega) _) _) _ | exact ((belowDraws (HB2.out.alloc HB2.out.size _) _).alloc (by have := HB2.out.size; simp; omega) _) | exact belowDraws ((belowDraws (HB2.out.alloc HB2.out.size _) _).alloc (by have := HB2.out.size; simp; omega) _) _ | exact belowDraws (belowDraws ((belowDraws (HB2.out.alloc HB2.out.size _) _).alloc (by have := HB2.out.size; simp; omega) _) _) _⟩
          · have hne : ((m : Int) != (n : Int)) = true := by simp; omega
            have HN := Lib.hid hnm
            clear hnm
            obtain ⟨x0, x1, x2, x3⟩ := X0.out.four
            go_enter Try.func32, Try.ntmps32
            go_wp2
            refine wp_loop_rounds 3 ?_
            rw [rounds_succ]
            have Z0 := Lib.hid (HI0.out.below ((Below.refl _ _).alloc (Nat.le_refl _) (.cells #[.int .i64 p, .slice A n c] 30)))
            go_wp2_with fail
            refine (implIsState_calls A n c p L _ HL.out hn Z0.out).mono ?_
            rintro e w1 ⟨rfl, hb⟩
            have X1 := Lib.hid ((X0.out.alloc (.cells #[.int .i64 p, .slice A n c] 30)).below hb (by have := X0.out.lt; simp; omega))
            have HI1 := Lib.hid ((HI0.out.below ((Below.refl _ _).alloc (Nat.le_refl _) (.cells #[.int .i64 p, .slice A n c] 30))).below hb)
            have HJ1 := Lib.hid ((HJ0.out.below ((Below.refl _ _).alloc (Nat.le_refl _) (.cells #[.int .i64 p, .slice A n c] 30))).below hb)
            have HB1 := Lib.hid ((HB0.out.alloc HB0.out.size (.cells #[.int .i64 p, .slice A n c] 30)).trans (hb.mono (by have := HB0.out.size; first | omega | (simp; done) | (simp; omega))))
            clear Z0
            clear hb x0 x1 x2 x3 X0 HI0 HJ0 HB0
            obtain ⟨x0, x1, x2, x3⟩ := X1.out.four
            go_wp2
            rw [rounds_succ]
            have Z1 := Lib.hid (HJ1.out.below ((Below.refl _ _).alloc (Nat.le_refl _) (.cells #[.int .i64 q, .slice B m d] 30)))
            go_wp2_with fail
            refine (implIsState_calls B m d q M _ HM.out hm Z1.out).mono ?_
            rintro e w2 ⟨rfl, hb⟩
            have X2 := Lib.hid ((X1.out.alloc (.cells #[.int .i64 q, .slice B m d] 30)).below hb (by have := X1.out.lt; simp; omega))
            have HI2 := Lib.hid ((HI1.out.below ((Below.refl _ _).alloc (Nat.le_refl _) (.cells #[.int .i64 q, .slice B m d] 30))).below hb)
            have HJ2 := Lib.hid ((HJ1.out.below ((Below.refl _ _).alloc (Nat.le_refl _) (.cells #[.int .i64 q, .slice B m d] 30))).below hb)
            have HB2 := Lib.hid ((HB1.out.alloc HB1.out.size (.cells #[.int .i64 q, .slice B m d] 30)).trans (hb.mono (by have := HB1.out.size; first | omega | (simp; done) | (simp; omega))))
            clear Z1
            clear hb x0 x1 x2 x3 X1 HI1 HJ1 HB1
            obtain ⟨x0, x1, x2, x3⟩ := X2.out.four
            go_wp2
            rw [rounds_succ]
            go_wp2
            refine wp_loop_rounds 3 ?_
            rw [rounds_succ]
            obtain ⟨z0, z1, z2, z3⟩ := (X2.out.alloc (.cells #[.int .i64 p, .slice A n c] 30)).four
            go_wp2_with fail
            go_quiet (fail)
            go_wp2
            rw [rounds_succ]
            obtain ⟨v0, v1, v2, v3⟩ := (((X2.out.alloc (.cells #[.int .i64 p, .slice A n c] 30)).draws nq).alloc (.cells #[.int .i64 q, .slice B m d] 30)).four
            go_wp2_with fail
            go_quiet (fail)
            go_wp2
            go_ret
            exact ⟨ret_int' (by unfold code2; rw [if_pos ⟨HS.out, HT.out⟩, if_neg (by rintro ⟨_, _, h⟩; exact HN.out (by rw [← HL.out, ← HM.out, h]))]), by first | exact HB2.out | exact belowDraws HB2.out _ | exact belowDraws (belowDraws HB2.out _) _ | exact (HB2.out.alloc HB2.out.size _) | exact belowDraws (HB2.out.alloc HB2.out.size _) _ | exact belowDraws (belowDraws (HB2.out.alloc HB2.out.size _) _) _ | exact ((HB2.out.alloc HB2.out.size _).alloc (by have := HB2.out.size; simp; omega) _) | exact belowDraws ((HB2.out.alloc HB2.out.size _).alloc (by have := HB2.out.size; simp; omega) _) _ | exact belowDraws (belowDraws ((HB2.out.alloc HB2.out.size _).alloc (by have := HB2.out.size; simp; omega) _) _) _ | exact ((belowDraws (HB2.out.alloc HB2.out.size _) _).alloc (by have := HB2.out.size; simp; omega) _) | exact belowDraws ((belowDraws (HB2.out.alloc HB2.out.size _) _).alloc (by have := HB2.out.size; simp; omega) _) _ | exact belowDraws (belowDraws ((belowDraws (HB2.out.alloc HB2.out.size _) _).alloc (by have := HB2.out.size; simp; omega) _) _) _⟩
        · have hqd : (q != 3) = true := by simpa using hq
          obtain ⟨x0, x1, x2, x3⟩ := X0.out.four
          go_enter Try.func32, Try.ntmps32
          go_wp2
          refine wp_loop_rounds 3 ?_
          rw [rounds_succ]
          have Z0 := Lib.hid (HI0.out.below ((Below.refl _ _).alloc (Nat.le_refl _) (.cells #[.int .i64 p, .slice A n c] 30)))
          go_wp2_with fail
          refine (implIsState_calls A n c p L _ HL.out hn Z0.out).mono ?_
          rintro e w1 ⟨rfl, hb⟩
          have X1 := Lib.hid ((X0.out.alloc (.cells #[.int .i64 p, .slice A n c] 30)).below hb (by have := X0.out.lt; simp; omega))
          have HI1 := Lib.hid ((HI0.out.below ((Below.refl _ _).alloc (Nat.le_refl _) (.cells #[.int .i64 p, .slice A n c] 30))).below hb)
          have HJ1 := Lib.hid ((HJ0.out.below ((Below.refl _ _).alloc (Nat.le_refl _) (.cells #[.int .i64 p, .slice A n c] 30))).below hb)
          have HB1 := Lib.hid ((HB0.out.alloc HB0.out.size (.cells #[.int .i64 p, .slice A n c] 30)).trans (hb.mono (by have := HB0.out.size; first | omega | (simp; done) | (simp; omega))))
          clear Z0
          clear hb x0 x1 x2 x3 X0 HI0 HJ0 HB0
          obtain ⟨x0, x1, x2, x3⟩ := X1.out.four
          go_wp2
          rw [rounds_succ]
          have Z1 := Lib.hid (HJ1.out.below ((Below.refl _ _).alloc (Nat.le_refl _) (.cells #[.int .i64 q, .slice B m d] 30)))
          go_wp2_with fail
          refine (implIsState_calls B m d q M _ HM.out hm Z1.out).mono ?_
          rintro e w2 ⟨rfl, hb⟩
          have X2 := Lib.hid ((X1.out.alloc (.cells #[.int .i64 q, .slice B m d] 30)).below hb (by have := X1.out.lt; simp; omega))
          have HI2 := Lib.hid ((HI1.out.below ((Below.refl _ _).alloc (Nat.le_refl _) (.cells #[.int .i64 q, .slice B m d] 30))).below hb)
          have HJ2 := Lib.hid ((HJ1.out.below ((Below.refl _ _).alloc (Nat.le_refl _) (.cells #[.int .i64 q, .slice B m d] 30))).below hb)
          have HB2 := Lib.hid ((HB1.out.alloc HB1.out.size (.cells #[.int .i64 q, .slice B m d] 30)).trans (hb.mono (by have := HB1.out.size; first | omega | (simp; done) | (simp; omega))))
          clear Z1
          clear hb x0 x1 x2 x3 X1 HI1 HJ1 HB1
          obtain ⟨x0, x1, x2, x3⟩ := X2.out.four
          go_wp2
          rw [rounds_succ]
          go_wp2
          refine wp_loop_rounds 3 ?_
          rw [rounds_succ]
          obtain ⟨z0, z1, z2, z3⟩ := (X2.out.alloc (.cells #[.int .i64 p, .slice A n c] 30)).four
          go_wp2_with fail
          go_quiet (fail)
          go_wp2
          rw [rounds_succ]
          obtain ⟨v0, v1, v2, v3⟩ := (((X2.out.alloc (.cells #[.int .i64 p, .slice A n c] 30)).draws nq).alloc (.cells #[.int .i64 q, .slice B m d] 30)).four
          go_wp2_with fail
          go_quiet (fail)
          go_wp2
          go_ret
          exact ⟨ret_int' (by unfold code2; rw [if_pos ⟨HS.out, HT.out⟩, if_neg (by rintro ⟨_, h, _⟩; exact hq h)]), by first | exact HB2.out | exact belowDraws HB2.out _ | exact belowDraws (belowDraws HB2.out _) _ | exact (HB2.out.alloc HB2.out.size _) | exact belowDraws (HB2.out.alloc HB2.out.size _) _ | exact belowDraws (belowDraws (HB2.out.alloc HB2.out.size _) _) _ | exact ((HB2.out.alloc HB2.out.size _).alloc (by have := HB2.out.size; simp; omega) _) | exact belowDraws ((HB2.out.alloc HB2.out.size _).alloc (by have := HB2.out.size; simp; omega) _) _ | exact belowDraws (belowDraws ((HB2.out.alloc HB2.out.size _).alloc (by have := HB2.out.size; simp; omega) _) _) _ | exact ((belowDraws (HB2.out.alloc HB2.out.size _) _).alloc (by have := HB2.out.size; simp; omega) _) | exact belowDraws ((belowDraws (HB2.out.alloc HB2.out.size _) _).alloc (by have := HB2.out.size; simp; omega) _) _ | exact belowDraws (belowDraws ((belowDraws (HB2.out.alloc HB2.out.size _) _).alloc (by have := HB2.out.size; simp; omega) _) _) _⟩
      · have hpd : (p != 3) = true := by simpa using hp
        obtain ⟨x0, x1, x2, x3⟩ := X0.out.four
        go_enter Try.func32, Try.ntmps32
        go_wp2
        refine wp_loop_rounds 3 ?_
        rw [rounds_succ]
        have Z0 := Lib.hid (HI0.out.below ((Below.refl _ _).alloc (Nat.le_refl _) (.cells #[.int .i64 p, .slice A n c] 30)))
        go_wp2_with fail
        refine (implIsState_calls A n c p L _ HL.out hn Z0.out).mono ?_
        rintro e w1 ⟨rfl, hb⟩
        have X1 := Lib.hid ((X0.out.alloc (.cells #[.int .i64 p, .slice A n c] 30)).below hb (by have := X0.out.lt; simp; omega))
        have HI1 := Lib.hid ((HI0.out.below ((Below.refl _ _).alloc (Nat.le_refl _) (.cells #[.int .i64 p, .slice A n c] 30))).below hb)
        have HJ1 := Lib.hid ((HJ0.out.below ((Below.refl _ _).alloc (Nat.le_refl _) (.cells #[.int .i64 p, .slice A n c] 30))).below hb)
        have HB1 := Lib.hid ((HB0.out.alloc HB0.out.size (.cells #[.int .i64 p, .slice A n c] 30)).trans (hb.mono (by have := HB0.out.size; first | omega | (simp; done) | (simp; omega))))
        clear Z0
        clear hb x0 x1 x2 x3 X0 HI0 HJ0 HB0
        obtain ⟨x0, x1, x2, x3⟩ := X1.out.four
        go_wp2
        rw [rounds_succ]
        have Z1 := Lib.hid (HJ1.out.below ((Below.refl _ _).alloc (Nat.le_refl _) (.cells #[.int .i64 q, .slice B m d] 30)))
        go_wp2_with fail
        refine (implIsState_calls B m d q M _ HM.out hm Z1.out).mono ?_
        rintro e w2 ⟨rfl, hb⟩
        have X2 := Lib.hid ((X1.out.alloc (.cells #[.int .i64 q, .slice B m d] 30)).below hb (by have := X1.out.lt; simp; omega))
        have HI2 := Lib.hid ((HI1.out.below ((Below.refl _ _).alloc (Nat.le_refl _) (.cells #[.int .i64 q, .slice B m d] 30))).below hb)
        have HJ2 := Lib.hid ((HJ1.out.below ((Below.refl _ _).alloc (Nat.le_refl _) (.cells #[.int .i64 q, .slice B m d] 30))).below hb)
        have HB2 := Lib.hid ((HB1.out.alloc HB1.out.size (.cells #[.int .i64 q, .slice B m d] 30)).trans (hb.mono (by have := HB1.out.size; first | omega | (simp; done) | (simp; omega))))
        clear Z1
        clear hb x0 x1 x2 x3 X1 HI1 HJ1 HB1
        obtain ⟨x0, x1, x2, x3⟩ := X2.out.four
        go_wp2
        rw [rounds_succ]
        go_wp2
        refine wp_loop_rounds 3 ?_
        rw [rounds_succ]
        obtain ⟨z0, z1, z2, z3⟩ := (X2.out.alloc (.cells #[.int .i64 p, .slice A n c] 30)).four
        go_wp2_with fail
        go_quiet (fail)
        go_wp2
        go_ret
        exact ⟨ret_int' (by unfold code2; rw [if_pos ⟨HS.out, HT.out⟩, if_neg (by rintro ⟨h, _⟩; exact hp h)]), by first | exact HB2.out | exact belowDraws HB2.out _ | exact belowDraws (belowDraws HB2.out _) _ | exact (HB2.out.alloc HB2.out.size _) | exact belowDraws (HB2.out.alloc HB2.out.size _) _ | exact belowDraws (belowDraws (HB2.out.alloc HB2.out.size _) _) _ | exact ((HB2.out.alloc HB2.out.size _).alloc (by have := HB2.out.size; simp; omega) _) | exact belowDraws ((HB2.out.alloc HB2.out.size _).alloc (by have := HB2.out.size; simp; omega) _) _ | exact belowDraws (belowDraws ((HB2.out.alloc HB2.out.size _).alloc (by have := HB2.out.size; simp; omega) _) _) _ | exact ((belowDraws (HB2.out.alloc HB2.out.size _) _).alloc (by have := HB2.out.size; simp; omega) _) | exact belowDraws ((belowDraws (HB2.out.alloc HB2.out.size _) _).alloc (by have := HB2.out.size; simp; omega) _) _ | exact belowDraws (belowDraws ((belowDraws (HB2.out.alloc HB2.out.size _) _).alloc (by have := HB2.out.size; simp; omega) _) _) _⟩
    · have ht' : stateB q M = false := by simpa using ht
      have HT := Lib.hid ht'
      clear ht
      obtain ⟨x0, x1, x2, x3⟩ := X0.out.four
      go_enter Try.func32, Try.ntmps32
      go_wp2
      refine wp_loop_rounds 3 ?_
      rw [rounds_succ]
      have Z0 := Lib.hid (HI0.out.below ((Below.refl _ _).alloc (Nat.le_refl _) (.cells #[.int .i64 p, .slice A n c] 30)))
      go_wp2_with fail
      refine (implIsState_calls A n c p L _ HL.out hn Z0.out).mono ?_
      rintro e w1 ⟨rfl, hb⟩
      have X1 := Lib.hid ((X0.out.alloc (.cells #[.int .i64 p, .slice A n c] 30)).below hb (by have := X0.out.lt; simp; omega))
      have HI1 := Lib.hid ((HI0.out.below ((Below.refl _ _).alloc (Nat.le_refl _) (.cells #[.int .i64 p, .slice A n c] 30))).below hb)
      have HJ1 := Lib.hid ((HJ0.out.below ((Below.refl _ _).alloc (Nat.le_refl _) (.cells #[.int .i64 p, .slice A n c] 30))).below hb)
      have HB1 := Lib.hid ((HB0.out.alloc HB0.out.size (.cells #[.int .i64 p, .slice A n c] 30)).trans (hb.mono (by have := HB0.out.size; first | omega | (simp; done) | (simp; omega))))
      clear Z0
      clear hb x0 x1 x2 x3 X0 HI0 HJ0 HB0
      obtain ⟨x0, x1, x2, x3⟩ := X1.out.four
      go_wp2
      rw [rounds_succ]
      have Z1 := Lib.hid (HJ1.out.below ((Below.refl _ _).alloc (Nat.le_refl _) (.cells #[.int .i64 q, .slice B m d] 30)))
      go_wp2_with fail
      refine (implIsState_calls B m d q M _ HM.out hm Z1.out).mono ?_
      rintro e w2 ⟨rfl, hb⟩
      have X2 := Lib.hid ((X1.out.alloc (.cells #[.int .i64 q, .slice B m d] 30)).below hb (by have := X1.out.lt; simp; omega))
      have HI2 := Lib.hid ((HI1.out.below ((Below.refl _ _).alloc (Nat.le_refl _) (.cells #[.int .i64 q, .slice B m d] 30))).below hb)
      have HJ2 := Lib.hid ((HJ1.out.below ((Below.refl _ _).alloc (Nat.le_refl _) (.cells #[.int .i64 q, .slice B m d] 30))).below hb)
      have HB2 := Lib.hid ((HB1.out.alloc HB1.out.size (.cells #[.int .i64 q, .slice B m d] 30)).trans (hb.mono (by have := HB1.out.size; first | omega | (simp; done) | (simp; omega))))
      clear Z1
      clear hb x0 x1 x2 x3 X1 HI1 HJ1 HB1
      obtain ⟨x0, x1, x2, x3⟩ := X2.out.four
      go_wp2
      go_ret
      exact ⟨ret_int' (by unfold code2; rw [if_neg (by rintro ⟨_, h⟩; rw [HT.out] at h; cases h)]), by first | exact HB2.out | exact belowDraws HB2.out _ | exact belowDraws (belowDraws HB2.out _) _ | exact (HB2.out.alloc HB2.out.size _) | exact belowDraws (HB2.out.alloc HB2.out.size _) _ | exact belowDraws (belowDraws (HB2.out.alloc HB2.out.size _) _) _ | exact ((HB2.out.alloc HB2.out.size _).alloc (by have := HB2.out.size; simp; omega) _) | exact belowDraws ((HB2.out.alloc HB2.out.size _).alloc (by have := HB2.out.size; simp; omega) _) _ | exact belowDraws (belowDraws ((HB2.out.alloc HB2.out.size _).alloc (by have := HB2.out.size; simp; omega) _) _) _ | exact ((belowDraws (HB2.out.alloc HB2.out.size _) _).alloc (by have := HB2.out.size; simp; omega) _) | exact belowDraws ((belowDraws (HB2.out.alloc HB2.out.size _) _).alloc (by have := HB2.out.size; simp; omega) _) _ | exact belowDraws (belowDraws ((belowDraws (HB2.out.alloc HB2.out.size _) _).alloc (by have := HB2.out.size; simp; omega) _) _) _⟩
  · have hs' : stateB p L = false := by simpa using hs
    have HS := Lib.hid hs'
    clear hs
    obtain ⟨x0, x1, x2, x3⟩ := X0.out.four
    go_enter Try.func32, Try.ntmps32
    go_wp2
    refine wp_loop_rounds 3 ?_
    rw [rounds_succ]
    have Z0 := Lib.hid (HI0.out.below ((Below.refl _ _).alloc (Nat.le_refl _) (.cells #[.int .i64 p, .slice A n c] 30)))
    go_wp2_with fail
    refine (implIsState_calls A n c p L _ HL.out hn Z0.out).mono ?_
    rintro e w1 ⟨rfl, hb⟩
    have X1 := Lib.hid ((X0.out.alloc (.cells #[.int .i64 p, .slice A n c] 30)).below hb (by have := X0.out.lt; simp; omega))
    have HI1 := Lib.hid ((HI0.out.below ((Below.refl _ _).alloc (Nat.le_refl _) (.cells #[.int .i64 p, .slice A n c] 30))).below hb)
    have HJ1 := Lib.hid ((HJ0.out.below ((Below.refl _ _).alloc (Nat.le_refl _) (.cells #[.int .i64 p, .slice A n c] 30))).below hb)
    have HB1 := Lib.hid ((HB0.out.alloc HB0.out.size (.cells #[.int .i64 p, .slice A n c] 30)).trans (hb.mono (by have := HB0.out.size; first | omega | (simp; done) | (simp; omega))))
    clear Z0
    clear hb x0 x1 x2 x3 X0 HI0 HJ0 HB0
    obtain ⟨x0, x1, x2, x3⟩ := X1.out.four
    go_wp2
    go_ret
    exact ⟨ret_int' (by unfold code2; rw [if_neg (by rintro ⟨h, _⟩; rw [HS.out] at h; cases h)]), by first | exact HB1.out | exact belowDraws HB1.out _ | exact belowDraws (belowDraws HB1.out _) _ | exact (HB1.out.alloc HB1.out.size _) | exact belowDraws (HB1.out.alloc HB1.out.size _) _ | exact belowDraws (belowDraws (HB1.out.alloc HB1.out.size _) _) _ | exact ((HB1.out.alloc HB1.out.size _).alloc (by have := HB1.out.size; simp; omega) _) | exact belowDraws ((HB1.out.alloc HB1.out.size _).alloc (by have := HB1.out.size; simp; omega) _) _ | exact belowDraws (belowDraws ((HB1.out.alloc HB1.out.size _).alloc (by have := HB1.out.size; simp; omega) _) _) _ | exact ((belowDraws (HB1.out.alloc HB1.out.size _) _).alloc (by have := HB1.out.size; simp; omega) _) | exact belowDraws ((belowDraws (HB1.out.alloc HB1.out.size _) _).alloc (by have := HB1.out.size; simp; omega) _) _ | exact belowDraws (belowDraws ((belowDraws (HB1.out.alloc HB1.out.size _) _).alloc (by have := HB1.out.size; simp; omega) _) _) _⟩

end Go.Proofs.Ytmpmkhfbfaicpaa
