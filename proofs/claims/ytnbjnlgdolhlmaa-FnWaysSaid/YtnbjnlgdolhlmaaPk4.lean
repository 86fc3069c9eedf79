/- Contracts: the code of two states of three pegs. · IsOnWay: which states lie on a way; the codes. · What lies on the way to a peg, parted at the largest disc: no program. · A state lies on the way to a peg if, and only if, the distances add up: no program. · Contracts: the goals of discs, and the distance to a peg. · Contracts: the distance to a peg. · Contracts: the greatest disc that differs, and both numbers, by the specification's model. -/
import Derived.Test.YtnbjnlgdolhlmaaPk3
import Derived.Test.YtnbjnlgdolhlmaaPk2
import Derived.Deep.RegionHeld3
namespace Go.Proofs.Ytnbjnlgdolhlmaa
open Go.RowKit
set_option linter.unusedVariables false

theorem Box.four {w : World} {b t : Nat} {u v x y : Value} (h : Box w b t #[u, v, x, y]) : w.cell? ⟨b, 0, none⟩ = some u ∧ w.cell? ⟨b, 1, none⟩ = some v ∧ w.cell? ⟨b, 2, none⟩ = some x ∧ w.cell? ⟨b, 3, none⟩ = some y := by
  have c0 := h.cell 0
  have c1 := h.cell 1
  have c2 := h.cell 2
  have c3 := h.cell 3
  exact ⟨by simpa using c0, by simpa using c1, by simpa using c2, by simpa using c3⟩

set_option maxHeartbeats 2000000 in
theorem l02Code_two (g : Nat) (A : Option Addr) (n c : Nat) (p : Int) (L : List Int) (B : Option Addr) (m d : Nat) (q : Int) (M : List Int) (w : World) (hx : Box w g 26 #[.int .i64 p, .slice A n c, .int .i64 q, .slice B m d]) (hL : L.length = n) (hn : n ≤ 1048576) (hI : Ints w A L) (hM : M.length = m) (hm : m ≤ 1048576) (hJ : Ints w B M) :
    Calls Try.prog 41 #[.slice (some ⟨g, 0, none⟩) 2 2] w fun e w' => e = .returned (.int .i64 (code2 p L q M)) ∧ Below w.heap.size w w' := by
  have HL := Lib.hid hL
  have HM := Lib.hid hM
  have X0 := Lib.hid hx
  have HI0 := Lib.hid hI
  have HJ0 := Lib.hid hJ
  have HB0 := Lib.hid (Below.refl w.heap.size w)
  clear hL hM hx hI hJ
  by_cases hs : stateB p L = true
  · have HS := Lib.hid hs
    by_cases ht : stateB q M = true
    · have HT := Lib.hid ht
      by_cases hp : p = 3
      · have hpd : (p != 3) = false := by simpa using hp
        have HP := Lib.hid hp
        clear hp
        by_cases hq : q = 3
        · have hqd : (q != 3) = false := by simpa using hq
          have HQ := Lib.hid hq
          clear hq
          by_cases hnm : n = m
          · have hne : ((m : Int) != (n : Int)) = false := by simp; omega
            have HN := Lib.hid hnm
            clear hnm
            obtain ⟨x0, x1, x2, x3⟩ := X0.out.four
            go_enter Try.func41, Try.ntmps41
            go_wp2
            refine wp_loop_rounds 3 ?_
            rw [rounds_succ]
            go_wp2_with fail
            refine (l01Is_calls A n c p L _ HL.out hn HI0.out).mono ?_
            rintro e w1 ⟨rfl, hb⟩
            have X1 := Lib.hid (X0.out.below hb X0.out.lt)
            have HI1 := Lib.hid (HI0.out.below hb)
            have HJ1 := Lib.hid (HJ0.out.below hb)
            have HB1 := Lib.hid (HB0.out.trans (hb.mono HB0.out.size))
            clear hb x0 x1 x2 x3 X0 HI0 HJ0 HB0
            obtain ⟨x0, x1, x2, x3⟩ := X1.out.four
            go_wp2
            rw [rounds_succ]
            go_wp2_with fail
            refine (l01Is_calls B m d q M _ HM.out hm HJ1.out).mono ?_
            rintro e w2 ⟨rfl, hb⟩
            have X2 := Lib.hid (X1.out.below hb X1.out.lt)
            have HI2 := Lib.hid (HI1.out.below hb)
            have HJ2 := Lib.hid (HJ1.out.below hb)
            have HB2 := Lib.hid (HB1.out.trans (hb.mono HB1.out.size))
            clear hb x0 x1 x2 x3 X1 HI1 HJ1 HB1
            obtain ⟨x0, x1, x2, x3⟩ := X2.out.four
            go_wp2
            rw [rounds_succ]
            go_wp2
            refine wp_loop_rounds 3 ?_
            rw [rounds_succ]
            go_wp2_with fail
            go_quiet (fail)
            go_wp2
            rw [rounds_succ]
            go_wp2_with fail
            go_quiet (fail)
            go_wp2
            rw [rounds_succ]
            go_wp2
            go_ret
            exact ⟨ret_int' (by unfold code2; rw [if_pos ⟨HS.out, HT.out⟩, if_pos ⟨HP.out, HQ.out, by rw [HL.out, HM.out, HN.out]⟩]), by first | exact HB2.out | exact belowDraws HB2.out _ | exact belowDraws (belowDraws HB2.out _) _ | exact (HB2.out.alloc HB2.out.size _) | exact belowDraws (HB2.out.alloc HB2.out.size _) _ | exact belowDraws (belowDraws (HB2.out.alloc HB2.out.size _) _) _ | exact ((HB2.out.alloc HB2.out.size _).alloc (by have := HB2.out.size; simp; omega) _) | exact belowDraws ((HB2.out.alloc HB2.out.size _).alloc (by have := HB2.out.size; simp; omega) _) _ | exact belowDraws (belowDraws ((HB2.out.alloc HB2.out.size _).alloc (by have := HB2.out.size; simp; omega) _) _) _ | exact ((belowDraws (HB2.out.alloc HB2.out.size _) _).alloc (by have := HB2.out.size; simp; omega) _) | exact belowDraws ((belowDraws (HB2.out.alloc HB2.out.size _) _).alloc (by have := HB2.out.size; simp; omega) _) _ | exact belowDraws (belowDraws ((belowDraws (HB2.out.alloc HB2.out.size _) _).alloc (by have := HB2.out.size; simp; omega) _) _) _⟩
          · have hne : ((m : Int) != (n : Int)) = true := by simp; omega
            have HN := Lib.hid hnm
            clear hnm
            obtain ⟨x0, x1, x2, x3⟩ := X0.out.four
            go_enter Try.func41, Try.ntmps41
            go_wp2
            refine wp_loop_rounds 3 ?_
            rw [rounds_succ]
            go_wp2_with fail
            refine (l01Is_calls A n c p L _ HL.out hn HI0.out).mono ?_
            rintro e w1 ⟨rfl, hb⟩
            have X1 := Lib.hid (X0.out.below hb X0.out.lt)
            have HI1 := Lib.hid (HI0.out.below hb)
            have HJ1 := Lib.hid (HJ0.out.below hb)
            have HB1 := Lib.hid (HB0.out.trans (hb.mono HB0.out.size))
            clear hb x0 x1 x2 x3 X0 HI0 HJ0 HB0
            obtain ⟨x0, x1, x2, x3⟩ := X1.out.four
            go_wp2
            rw [rounds_succ]
            go_wp2_with fail
            refine (l01Is_calls B m d q M _ HM.out hm HJ1.out).mono ?_
            rintro e w2 ⟨rfl, hb⟩
            have X2 := Lib.hid (X1.out.below hb X1.out.lt)
            have HI2 := Lib.hid (HI1.out.below hb)
            have HJ2 := Lib.hid (HJ1.out.below hb)
            have HB2 := Lib.hid (HB1.out.trans (hb.mono HB1.out.size))
            clear hb x0 x1 x2 x3 X1 HI1 HJ1 HB1
            obtain ⟨x0, x1, x2, x3⟩ := X2.out.four
            go_wp2
            rw [rounds_succ]
            go_wp2
            refine wp_loop_rounds 3 ?_
            rw [rounds_succ]
            go_wp2_with fail
            go_quiet (fail)
            go_wp2
            rw [rounds_succ]
            go_wp2_with fail
            go_quiet (fail)
            go_wp2
            go_ret
            exact ⟨ret_int' (by unfold code2; rw [if_pos ⟨HS.out, HT.out⟩, if_neg (by rintro ⟨_, _, h⟩; exact HN.out (by rw [← HL.out, ← HM.out, h]))]), by first | exact HB2.out | exact belowDraws HB2.out _ | exact belowDraws (belowDraws HB2.out _) _ | exact (HB2.out.alloc HB2.out.size _) | exact belowDraws (HB2.out.alloc HB2.out.size _) _ | exact belowDraws (belowDraws (HB2.out.alloc HB2.out.size _) _) _ | exact ((HB2.out.alloc HB2.out.size _).alloc (by have := HB2.out.size; simp; omega) _) | exact belowDraws ((HB2.out.alloc HB2.out.size _).alloc (by have := HB2.out.size; simp; omega) _) _ | exact belowDraws (belowDraws ((HB2.out.alloc HB2.out.size _).alloc (by have := HB2.out.size; simp; omega) _) _) _ | exact ((belowDraws (HB2.out.alloc HB2.out.size _) _).alloc (by have := HB2.out.size; simp; omega) _) | exact belowDraws ((belowDraws (HB2.out.alloc HB2.out.size _) _).alloc (by have := HB2.out.size; simp; omega) _) _ | exact belowDraws (belowDraws ((belowDraws (HB2.out.alloc HB2.out.size _) _).alloc (by have := HB2.out.size; simp; omega) _) _) _⟩
        · have hqd : (q != 3) = true := by simpa using hq
          obtain ⟨x0, x1, x2, x3⟩ := X0.out.four
          go_enter Try.func41, Try.ntmps41
          go_wp2
          refine wp_loop_rounds 3 ?_
          rw [rounds_succ]
          go_wp2_with fail
          refine (l01Is_calls A n c p L _ HL.out hn HI0.out).mono ?_
          rintro e w1 ⟨rfl, hb⟩
          have X1 := Lib.hid (X0.out.below hb X0.out.lt)
          have HI1 := Lib.hid (HI0.out.below hb)
          have HJ1 := Lib.hid (HJ0.out.below hb)
          have HB1 := Lib.hid (HB0.out.trans (hb.mono HB0.out.size))
          clear hb x0 x1 x2 x3 X0 HI0 HJ0 HB0
          obtain ⟨x0, x1, x2, x3⟩ := X1.out.four
          go_wp2
          rw [rounds_succ]
          go_wp2_with fail
          refine (l01Is_calls B m d q M _ HM.out hm HJ1.out).mono ?_
          rintro e w2 ⟨rfl, hb⟩
          have X2 := Lib.hid (X1.out.below hb X1.out.lt)
          have HI2 := Lib.hid (HI1.out.below hb)
          have HJ2 := Lib.hid (HJ1.out.below hb)
          have HB2 := Lib.hid (HB1.out.trans (hb.mono HB1.out.size))
          clear hb x0 x1 x2 x3 X1 HI1 HJ1 HB1
          obtain ⟨x0, x1, x2, x3⟩ := X2.out.four
          go_wp2
          rw [rounds_succ]
          go_wp2
          refine wp_loop_rounds 3 ?_
          rw [rounds_succ]
          go_wp2_with fail
          go_quiet (fail)
          go_wp2
          rw [rounds_succ]
          go_wp2_with fail
          go_quiet (fail)
          go_wp2
          go_ret
          exact ⟨ret_int' (by unfold code2; rw [if_pos ⟨HS.out, HT.out⟩, if_neg (by rintro ⟨_, h, _⟩; exact hq h)]), by first | exact HB2.out | exact belowDraws HB2.out _ | exact belowDraws (belowDraws HB2.out _) _ | exact (HB2.out.alloc HB2.out.size _) | exact belowDraws (HB2.out.alloc HB2.out.size _) _ | exact belowDraws (belowDraws (HB2.out.alloc HB2.out.size _) _) _ | exact ((HB2.out.alloc HB2.out.size _).alloc (by have := HB2.out.size; simp; omega) _) | exact belowDraws ((HB2.out.alloc HB2.out.size _).alloc (by have := HB2.out.size; simp; omega) _) _ | exact belowDraws (belowDraws ((HB2.out.alloc HB2.out.size _).alloc (by have := HB2.out.size; simp; omega) _) _) _ | exact ((belowDraws (HB2.out.alloc HB2.out.size _) _).alloc (by have := HB2.out.size; simp; omega) _) | exact belowDraws ((belowDraws (HB2.out.alloc HB2.out.size _) _).alloc (by have := HB2.out.size; simp; omega) _) _ | exact belowDraws (belowDraws ((belowDraws (HB2.out.alloc HB2.out.size _) _).alloc (by have := HB2.out.size; simp; omega) _) _) _⟩
      · have hpd : (p != 3) = true := by simpa using hp
        obtain ⟨x0, x1, x2, x3⟩ := X0.out.four
        go_enter Try.func41, Try.ntmps41
        go_wp2
        refine wp_loop_rounds 3 ?_
        rw [rounds_succ]
        go_wp2_with fail
        refine (l01Is_calls A n c p L _ HL.out hn HI0.out).mono ?_
        rintro e w1 ⟨rfl, hb⟩
        have X1 := Lib.hid (X0.out.below hb X0.out.lt)
        have HI1 := Lib.hid (HI0.out.below hb)
        have HJ1 := Lib.hid (HJ0.out.below hb)
        have HB1 := Lib.hid (HB0.out.trans (hb.mono HB0.out.size))
        clear hb x0 x1 x2 x3 X0 HI0 HJ0 HB0
        obtain ⟨x0, x1, x2, x3⟩ := X1.out.four
        go_wp2
        rw [rounds_succ]
        go_wp2_with fail
        refine (l01Is_calls B m d q M _ HM.out hm HJ1.out).mono ?_
        rintro e w2 ⟨rfl, hb⟩
        have X2 := Lib.hid (X1.out.below hb X1.out.lt)
        have HI2 := Lib.hid (HI1.out.below hb)
        have HJ2 := Lib.hid (HJ1.out.below hb)
        have HB2 := Lib.hid (HB1.out.trans (hb.mono HB1.out.size))
        clear hb x0 x1 x2 x3 X1 HI1 HJ1 HB1
        obtain ⟨x0, x1, x2, x3⟩ := X2.out.four
        go_wp2
        rw [rounds_succ]
        go_wp2
        refine wp_loop_rounds 3 ?_
        rw [rounds_succ]
        go_wp2_with fail
        go_quiet (fail)
        go_wp2
        go_ret
        exact ⟨ret_int' (by unfold code2; rw [if_pos ⟨HS.out, HT.out⟩, if_neg (by rintro ⟨h, _⟩; exact hp h)]), by first | exact HB2.out | exact belowDraws HB2.out _ | exact belowDraws (belowDraws HB2.out _) _ | exact (HB2.out.alloc HB2.out.size _) | exact belowDraws (HB2.out.alloc HB2.out.size _) _ | exact belowDraws (belowDraws (HB2.out.alloc HB2.out.size _) _) _ | exact ((HB2.out.alloc HB2.out.size _).alloc (by have := HB2.out.size; simp; omega) _) | exact belowDraws ((HB2.out.alloc HB2.out.size _).alloc (by have := HB2.out.size; simp; omega) _) _ | exact belowDraws (belowDraws ((HB2.out.alloc HB2.out.size _).alloc (by have := HB2.out.size; simp; omega) _) _) _ | exact ((belowDraws (HB2.out.alloc HB2.out.size _) _).alloc (by have := HB2.out.size; simp; omega) _) | exact belowDraws ((belowDraws (HB2.out.alloc HB2.out.size _) _).alloc (by have := HB2.out.size; simp; omega) _) _ | exact belowDraws (belowDraws ((belowDraws (HB2.out.alloc HB2.out.size _) _).alloc (by have := HB2.out.size; simp; omega) _) _) _⟩
    · have ht' : stateB q M = false := by simpa using ht
      have HT := Lib.hid ht'
      clear ht
      obtain ⟨x0, x1, x2, x3⟩ := X0.out.four
      go_enter Try.func41, Try.ntmps41
      go_wp2
      refine wp_loop_rounds 3 ?_
      rw [rounds_succ]
      go_wp2_with fail
      refine (l01Is_calls A n c p L _ HL.out hn HI0.out).mono ?_
      rintro e w1 ⟨rfl, hb⟩
      have X1 := Lib.hid (X0.out.below hb X0.out.lt)
      have HI1 := Lib.hid (HI0.out.below hb)
      have HJ1 := Lib.hid (HJ0.out.below hb)
      have HB1 := Lib.hid (HB0.out.trans (hb.mono HB0.out.size))
      clear hb x0 x1 x2 x3 X0 HI0 HJ0 HB0
      obtain ⟨x0, x1, x2, x3⟩ := X1.out.four
      go_wp2
      rw [rounds_succ]
      go_wp2_with fail
      refine (l01Is_calls B m d q M _ HM.out hm HJ1.out).mono ?_
      rintro e w2 ⟨rfl, hb⟩
      have X2 := Lib.hid (X1.out.below hb X1.out.lt)
      have HI2 := Lib.hid (HI1.out.below hb)
      have HJ2 := Lib.hid (HJ1.out.below hb)
      have HB2 := Lib.hid (HB1.out.trans (hb.mono HB1.out.size))
      clear hb x0 x1 x2 x3 X1 HI1 HJ1 HB1
      obtain ⟨x0, x1, x2, x3⟩ := X2.out.four
      go_wp2
      go_ret
      exact ⟨ret_int' (by unfold code2; rw [if_neg (by rintro ⟨_, h⟩; rw [HT.out] at h; cases h)]), by first | exact HB2.out | exact belowDraws HB2.out _ | exact belowDraws (belowDraws HB2.out _) _ | exact (HB2.out.alloc HB2.out.size _) | exact belowDraws (HB2.out.alloc HB2.out.size _) _ | exact belowDraws (belowDraws (HB2.out.alloc HB2.out.size _) _) _ | exact ((HB2.out.alloc HB2.out.size _).alloc (by have := HB2.out.size; simp; omega) _) | exact belowDraws ((HB2.out.alloc HB2.out.size _).alloc (by have := HB2.out.size; simp; omega) _) _ | exact belowDraws (belowDraws ((HB2.out.alloc HB2.out.size _).alloc (by have := HB2.out.size; simp; omega) _) _) _ | exact ((belowDraws (HB2.out.alloc HB2.out.size _) _).alloc (by have := HB2.out.size; simp; omega) _) | exact belowDraws ((belowDraws (HB2.out.alloc HB2.out.size _) _).alloc (by have := HB2.out.size; simp; omega) _) _ | exact belowDraws (belowDraws ((belowDraws (HB2.out.alloc HB2.out.size _) _).alloc (by have := HB2.out.size; simp; omega) _) _) _⟩
  · have hs' : stateB p L = false := by simpa using hs
    have HS := Lib.hid hs'
    clear hs
    obtain ⟨x0, x1, x2, x3⟩ := X0.out.four
    go_enter Try.func41, Try.ntmps41
    go_wp2
    refine wp_loop_rounds 3 ?_
    rw [rounds_succ]
    go_wp2_with fail
    refine (l01Is_calls A n c p L _ HL.out hn HI0.out).mono ?_
    rintro e w1 ⟨rfl, hb⟩
    have X1 := Lib.hid (X0.out.below hb X0.out.lt)
    have HI1 := Lib.hid (HI0.out.below hb)
    have HJ1 := Lib.hid (HJ0.out.below hb)
    have HB1 := Lib.hid (HB0.out.trans (hb.mono HB0.out.size))
    clear hb x0 x1 x2 x3 X0 HI0 HJ0 HB0
    obtain ⟨x0, x1, x2, x3⟩ := X1.out.four
    go_wp2
    go_ret
    exact ⟨ret_int' (by unfold code2; rw [if_neg (by rintro ⟨h, _⟩; rw [HS.out] at h; cases h)]), by first | exact HB1.out | exact belowDraws HB1.out _ | exact belowDraws (belowDraws HB1.out _) _ | exact (HB1.out.alloc HB1.out.size _) | exact belowDraws (HB1.out.alloc HB1.out.size _) _ | exact belowDraws (belowDraws (HB1.out.alloc HB1.out.size _) _) _ | exact ((HB1.out.alloc HB1.out.size _).alloc (by have := HB1.out.size; simp; omega) _) | exact belowDraws ((HB1.out.alloc HB1.out.size _).alloc (by have := HB1.out.size; simp; omega) _) _ | exact belowDraws (belowDraws ((HB1.out.alloc HB1.out.size _).alloc (by have := HB1.out.size; simp; omega) _) _) _ | exact ((belowDraws (HB1.out.alloc HB1.out.size _) _).alloc (by have := HB1.out.size; simp; omega) _) | exact belowDraws ((belowDraws (HB1.out.alloc HB1.out.size _) _).alloc (by have := HB1.out.size; simp; omega) _) _ | exact belowDraws (belowDraws ((belowDraws (HB1.out.alloc HB1.out.size _) _).alloc (by have := HB1.out.size; simp; omega) _) _) _⟩

set_option maxHeartbeats 2000000 in
theorem codeOfStates_two (g : Nat) (A : Option Addr) (n c : Nat) (p : Int) (L : List Int) (B : Option Addr) (m d : Nat) (q : Int) (M : List Int) (w : World) (hx : Box w g 26 #[.int .i64 p, .slice A n c, .int .i64 q, .slice B m d]) (hL : L.length = n) (hn : n ≤ 1048576) (hI : Ints w A L) (hM : M.length = m) (hm : m ≤ 1048576) (hJ : Ints w B M) :
    Calls Try.prog 51 #[.slice (some ⟨g, 0, none⟩) 2 2] w fun e w' => e = .returned (.int .i64 (code2 p L q M)) ∧ Below w.heap.size w w' := by
  have HL := Lib.hid hL
  have HM := Lib.hid hM
  have X0 := Lib.hid hx
  have HI0 := Lib.hid hI
  have HJ0 := Lib.hid hJ
  have HB0 := Lib.hid (Below.refl w.heap.size w)
  clear hL hM hx hI hJ
  by_cases hs : stateB p L = true
  · have HS := Lib.hid hs
    by_cases ht : stateB q M = true
    · have HT := Lib.hid ht
      by_cases hp : p = 3
      · have hpd : (p != 3) = false := by simpa using hp
        have HP := Lib.hid hp
        clear hp
        by_cases hq : q = 3
        · have hqd : (q != 3) = false := by simpa using hq
          have HQ := Lib.hid hq
          clear hq
          by_cases hnm : n = m
          · have hne : ((m : Int) != (n : Int)) = false := by simp; omega
            have HN := Lib.hid hnm
            clear hnm
            obtain ⟨x0, x1, x2, x3⟩ := X0.out.four
            go_enter Try.func51, Try.ntmps51
            go_wp2
            refine wp_loop_rounds 3 ?_
            rw [rounds_succ]
            have Z0 := Lib.hid (HI0.out.below ((Below.refl _ _).alloc (Nat.le_refl _) (.cells #[.int .i64 p, .slice A n c] 26)))
            go_wp2_with fail
            refine (implIsState_calls A n c p L _ HL.out hn Z0.out).mono ?_
            rintro e w1 ⟨rfl, hb⟩
            have X1 := Lib.hid ((X0.out.alloc (.cells #[.int .i64 p, .slice A n c] 26)).below hb (by have := X0.out.lt; simp; omega))
            have HI1 := Lib.hid ((HI0.out.below ((Below.refl _ _).alloc (Nat.le_refl _) (.cells #[.int .i64 p, .slice A n c] 26))).below hb)
            have HJ1 := Lib.hid ((HJ0.out.below ((Below.refl _ _).alloc (Nat.le_refl _) (.cells #[.int .i64 p, .slice A n c] 26))).below hb)
            have HB1 := Lib.hid ((HB0.out.alloc HB0.out.size (.cells #[.int .i64 p, .slice A n c] 26)).trans (hb.mono (by have := HB0.out.size; first | omega | (simp; done) | (simp; omega))))
            clear Z0
            clear hb x0 x1 x2 x3 X0 HI0 HJ0 HB0
            obtain ⟨x0, x1, x2, x3⟩ := X1.out.four
            go_wp2
            rw [rounds_succ]
            have Z1 := Lib.hid (HJ1.out.below ((Below.refl _ _).alloc (Nat.le_refl _) (.cells #[.int .i64 q, .slice B m d] 26)))
            go_wp2_with fail
            refine (implIsState_calls B m d q M _ HM.out hm Z1.out).mono ?_
            rintro e w2 ⟨rfl, hb⟩
            have X2 := Lib.hid ((X1.out.alloc (.cells #[.int .i64 q, .slice B m d] 26)).below hb (by have := X1.out.lt; simp; omega))
            have HI2 := Lib.hid ((HI1.out.below ((Below.refl _ _).alloc (Nat.le_refl _) (.cells #[.int .i64 q, .slice B m d] 26))).below hb)
            have HJ2 := Lib.hid ((HJ1.out.below ((Below.refl _ _).alloc (Nat.le_refl _) (.cells #[.int .i64 q, .slice B m d] 26))).below hb)
            have HB2 := Lib.hid ((HB1.out.alloc HB1.out.size (.cells #[.int .i64 q, .slice B m d] 26)).trans (hb.mono (by have := HB1.out.size; first | omega | (simp; done) | (simp; omega))))
            clear Z1
            clear hb x0 x1 x2 x3 X1 HI1 HJ1 HB1
            obtain ⟨x0, x1, x2, x3⟩ := X2.out.four
            go_wp2
            rw [rounds_succ]
            go_wp2
            refine wp_loop_rounds 3 ?_
            rw [rounds_succ]
            obtain ⟨z0, z1, z2, z3⟩ := (X2.out.alloc (.cells #[.int .i64 p, .slice A n c] 26)).four
            go_wp2_with fail
            go_quiet (fail)
            go_wp2
            rw [rounds_succ]
            obtain ⟨v0, v1, v2, v3⟩ := (((X2.out.alloc (.cells #[.int .i64 p, .slice A n c] 26)).draws nq).alloc (.cells #[.int .i64 q, .slice B m d] 26)).four
            go_wp2_with fail
            go_quiet (fail)
            go_wp2
            rw [rounds_succ]
            go_wp2
            go_ret
            exact ⟨ret_int' (by unfold code2; rw [if_pos ⟨HS.out, HT.out⟩, if_pos ⟨HP.out, HQ.out, by rw [HL.out, HM.out, HN.out]⟩]), by first | exact HB2.out | exact belowDraws HB2.out _ | exact belowDraws (belowDraws HB2.out _) _ | exact (HB2.out.alloc HB2.out.size _) | exact belowDraws (HB2.out.alloc HB2.out.size _) _ | exact belowDraws (belowDraws (HB2.out.alloc HB2.out.size _) _) _ | exact ((HB2.out.alloc HB2.out.size _).alloc (by have := HB2.out.size; simp; omega) _) | exact belowDraws ((HB2.out.alloc HB2.out.size _).alloc (by have := HB2.out.size; simp; omega) _) _ | exact belowDraws (belowDraws ((HB2.out.alloc HB2.out.size _).alloc (by have := HB2.out.size; simp; omega) _) _) _ | exact ((belowDraws (HB2.out.alloc HB2.out.size _) _).alloc (by have := HB2.out.size; simp; omega) _) | exact belowDraws ((belowDraws (HB2.out.alloc HB2.out.size _) _).alloc (by have := HB2.out.size; simp; omega) _) _ | exact belowDraws (belowDraws ((belowDraws (HB2.out.alloc HB2.out.size _) _).alloc (by have := HB2.out.size; simp; omega) _) _) _⟩
          · have hne : ((m : Int) != (n : Int)) = true := by simp; omega
            have HN := Lib.hid hnm
            clear hnm
            obtain ⟨x0, x1, x2, x3⟩ := X0.out.four
            go_enter Try.func51, Try.ntmps51
            go_wp2
            refine wp_loop_rounds 3 ?_
            rw [rounds_succ]
            have Z0 := Lib.hid (HI0.out.below ((Below.refl _ _).alloc (Nat.le_refl _) (.cells #[.int .i64 p, .slice A n c] 26)))
            go_wp2_with fail
            refine (implIsState_calls A n c p L _ HL.out hn Z0.out).mono ?_
            rintro e w1 ⟨rfl, hb⟩
            have X1 := Lib.hid ((X0.out.alloc (.cells #[.int .i64 p, .slice A n c] 26)).below hb (by have := X0.out.lt; simp; omega))
            have HI1 := Lib.hid ((HI0.out.below ((Below.refl _ _).alloc (Nat.le_refl _) (.cells #[.int .i64 p, .slice A n c] 26))).below hb)
            have HJ1 := Lib.hid ((HJ0.out.below ((Below.refl _ _).alloc (Nat.le_refl _) (.cells #[.int .i64 p, .slice A n c] 26))).below hb)
            have HB1 := Lib.hid ((HB0.out.alloc HB0.out.size (.cells #[.int .i64 p, .slice A n c] 26)).trans (hb.mono (by have := HB0.out.size; first | omega | (simp; done) | (simp; omega))))
            clear Z0
            clear hb x0 x1 x2 x3 X0 HI0 HJ0 HB0
            obtain ⟨x0, x1, x2, x3⟩ := X1.out.four
            go_wp2
            rw [rounds_succ]
            have Z1 := Lib.hid (HJ1.out.below ((Below.refl _ _).alloc (Nat.le_refl _) (.cells #[.int .i64 q, .slice B m d] 26)))
            go_wp2_with fail
            refine (implIsState_calls B m d q M _ HM.out hm Z1.out).mono ?_
            rintro e w2 ⟨rfl, hb⟩
            have X2 := Lib.hid ((X1.out.alloc (.cells #[.int .i64 q, .slice B m d] 26)).below hb (by have := X1.out.lt; simp; omega))
            have HI2 := Lib.hid ((HI1.out.below ((Below.refl _ _).alloc (Nat.le_refl _) (.cells #[.int .i64 q, .slice B m d] 26))).below hb)
            have HJ2 := Lib.hid ((HJ1.out.below ((Below.refl _ _).alloc (Nat.le_refl _) (.cells #[.int .i64 q, .slice B m d] 26))).below hb)
            have HB2 := Lib.hid ((HB1.out.alloc HB1.out.size (.cells #[.int .i64 q, .slice B m d] 26)).trans (hb.mono (by have := HB1.out.size; first | omega | (simp; done) | (simp; omega))))
            clear Z1
            clear hb x0 x1 x2 x3 X1 HI1 HJ1 HB1
            obtain ⟨x0, x1, x2, x3⟩ := X2.out.four
            go_wp2
            rw [rounds_succ]
            go_wp2
            refine wp_loop_rounds 3 ?_
            rw [rounds_succ]
            obtain ⟨z0, z1, z2, z3⟩ := (X2.out.alloc (.cells #[.int .i64 p, .slice A n c] 26)).four
            go_wp2_with fail
            go_quiet (fail)
            go_wp2
            rw [rounds_succ]
            obtain ⟨v0, v1, v2, v3⟩ := (((X2.out.alloc (.cells #[.int .i64 p, .slice A n c] 26)).draws nq).alloc (.cells #[.int .i64 q, .slice B m d] 26)).four
            go_wp2_with fail
            go_quiet (fail)
            go_wp2
            go_ret
            exact ⟨ret_int' (by unfold code2; rw [if_pos ⟨HS.out, HT.out⟩, if_neg (by rintro ⟨_, _, h⟩; exact HN.out (by rw [← HL.out, ← HM.out, h]))]), by first | exact HB2.out | exact belowDraws HB2.out _ | exact belowDraws (belowDraws HB2.out _) _ | exact (HB2.out.alloc HB2.out.size _) | exact belowDraws (HB2.out.alloc HB2.out.size _) _ | exact belowDraws (belowDraws (HB2.out.alloc HB2.out.size _) _) _ | exact ((HB2.out.alloc HB2.out.size _).alloc (by have := HB2.out.size; simp; omega) _) | exact belowDraws ((HB2.out.alloc HB2.out.size _).alloc (by have := HB2.out.size; simp; omega) _) _ | exact belowDraws (belowDraws ((HB2.out.alloc HB2.out.size _).alloc (by have := HB2.out.size; simp; omega) _) _) _ | exact ((belowDraws (HB2.out.alloc HB2.out.size _) _).alloc (by have := HB2.out.size; simp; omega) _) | exact belowDraws ((belowDraws (HB2.out.alloc HB2.out.size _) _).alloc (by have := HB2.out.size; simp; omega) _) _ | exact belowDraws (belowDraws ((belowDraws (HB2.out.alloc HB2.out.size _) _).alloc (by have := HB2.out.size; simp; omega) _) _) _⟩
        · have hqd : (q != 3) = true := by simpa using hq
          obtain ⟨x0, x1, x2, x3⟩ := X0.out.four
          go_enter Try.func51, Try.ntmps51
          go_wp2
          refine wp_loop_rounds 3 ?_
          rw [rounds_succ]
          have Z0 := Lib.hid (HI0.out.below ((Below.refl _ _).alloc (Nat.le_refl _) (.cells #[.int .i64 p, .slice A n c] 26)))
          go_wp2_with fail
          refine (implIsState_calls A n c p L _ HL.out hn Z0.out).mono ?_
          rintro e w1 ⟨rfl, hb⟩
          have X1 := Lib.hid ((X0.out.alloc (.cells #[.int .i64 p, .slice A n c] 26)).below hb (by have := X0.out.lt; simp; omega))
          have HI1 := Lib.hid ((HI0.out.below ((Below.refl _ _).alloc (Nat.le_refl _) (.cells #[.int .i64 p, .slice A n c] 26))).below hb)
          have HJ1 := Lib.hid ((HJ0.out.below ((Below.refl _ _).alloc (Nat.le_refl _) (.cells #[.int .i64 p, .slice A n c] 26))).below hb)
          have HB1 := Lib.hid ((HB0.out.alloc HB0.out.size (.cells #[.int .i64 p, .slice A n c] 26)).trans (hb.mono (by have := HB0.out.size; first | omega | (simp; done) | (simp; omega))))
          clear Z0
          clear hb x0 x1 x2 x3 X0 HI0 HJ0 HB0
          obtain ⟨x0, x1, x2, x3⟩ := X1.out.four
          go_wp2
          rw [rounds_succ]
          have Z1 := Lib.hid (HJ1.out.below ((Below.refl _ _).alloc (Nat.le_refl _) (.cells #[.int .i64 q, .slice B m d] 26)))
          go_wp2_with fail
          refine (implIsState_calls B m d q M _ HM.out hm Z1.out).mono ?_
          rintro e w2 ⟨rfl, hb⟩
          have X2 := Lib.hid ((X1.out.alloc (.cells #[.int .i64 q, .slice B m d] 26)).below hb (by have := X1.out.lt; simp; omega))
          have HI2 := Lib.hid ((HI1.out.below ((Below.refl _ _).alloc (Nat.le_refl _) (.cells #[.int .i64 q, .slice B m d] 26))).below hb)
          have HJ2 := Lib.hid ((HJ1.out.below ((Below.refl _ _).alloc (Nat.le_refl _) (.cells #[.int .i64 q, .slice B m d] 26))).below hb)
          have HB2 := Lib.hid ((HB1.out.alloc HB1.out.size (.cells #[.int .i64 q, .slice B m d] 26)).trans (hb.mono (by have := HB1.out.size; first | omega | (simp; done) | (simp; omega))))
          clear Z1
          clear hb x0 x1 x2 x3 X1 HI1 HJ1 HB1
          obtain ⟨x0, x1, x2, x3⟩ := X2.out.four
          go_wp2
          rw [rounds_succ]
          go_wp2
          refine wp_loop_rounds 3 ?_
          rw [rounds_succ]
          obtain ⟨z0, z1, z2, z3⟩ := (X2.out.alloc (.cells #[.int .i64 p, .slice A n c] 26)).four
          go_wp2_with fail
          go_quiet (fail)
          go_wp2
          rw [rounds_succ]
          obtain ⟨v0, v1, v2, v3⟩ := (((X2.out.alloc (.cells #[.int .i64 p, .slice A n c] 26)).draws nq).alloc (.cells #[.int .i64 q, .slice B m d] 26)).four
          go_wp2_with fail
          go_quiet (fail)
          go_wp2
          go_ret
          exact ⟨ret_int' (by unfold code2; rw [if_pos ⟨HS.out, HT.out⟩, if_neg (by rintro ⟨_, h, _⟩; exact hq h)]), by first | exact HB2.out | exact belowDraws HB2.out _ | exact belowDraws (belowDraws HB2.out _) _ | exact (HB2.out.alloc HB2.out.size _) | exact belowDraws (HB2.out.alloc HB2.out.size _) _ | exact belowDraws (belowDraws (HB2.out.alloc HB2.out.size _) _) _ | exact ((HB2.out.alloc HB2.out.size _).alloc (by have := HB2.out.size; simp; omega) _) | exact belowDraws ((HB2.out.alloc HB2.out.size _).alloc (by have := HB2.out.size; simp; omega) _) _ | exact belowDraws (belowDraws ((HB2.out.alloc HB2.out.size _).alloc (by have := HB2.out.size; simp; omega) _) _) _ | exact ((belowDraws (HB2.out.alloc HB2.out.size _) _).alloc (by have := HB2.out.size; simp; omega) _) | exact belowDraws ((belowDraws (HB2.out.alloc HB2.out.size _) _).alloc (by have := HB2.out.size; simp; omega) _) _ | exact belowDraws (belowDraws ((belowDraws (HB2.out.alloc HB2.out.size _) _).alloc (by have := HB2.out.size; simp; omega) _) _) _⟩
      · have hpd : (p != 3) = true := by simpa using hp
        obtain ⟨x0, x1, x2, x3⟩ := X0.out.four
        go_enter Try.func51, Try.ntmps51
        go_wp2
        refine wp_loop_rounds 3 ?_
        rw [rounds_succ]
        have Z0 := Lib.hid (HI0.out.below ((Below.refl _ _).alloc (Nat.le_refl _) (.cells #[.int .i64 p, .slice A n c] 26)))
        go_wp2_with fail
        refine (implIsState_calls A n c p L _ HL.out hn Z0.out).mono ?_
        rintro e w1 ⟨rfl, hb⟩
        have X1 := Lib.hid ((X0.out.alloc (.cells #[.int .i64 p, .slice A n c] 26)).below hb (by have := X0.out.lt; simp; omega))
        have HI1 := Lib.hid ((HI0.out.below ((Below.refl _ _).alloc (Nat.le_refl _) (.cells #[.int .i64 p, .slice A n c] 26))).below hb)
        have HJ1 := Lib.hid ((HJ0.out.below ((Below.refl _ _).alloc (Nat.le_refl _) (.cells #[.int .i64 p, .slice A n c] 26))).below hb)
        have HB1 := Lib.hid ((HB0.out.alloc HB0.out.size (.cells #[.int .i64 p, .slice A n c] 26)).trans (hb.mono (by have := HB0.out.size; first | omega | (simp; done) | (simp; omega))))
        clear Z0
        clear hb x0 x1 x2 x3 X0 HI0 HJ0 HB0
        obtain ⟨x0, x1, x2, x3⟩ := X1.out.four
        go_wp2
        rw [rounds_succ]
        have Z1 := Lib.hid (HJ1.out.below ((Below.refl _ _).alloc (Nat.le_refl _) (.cells #[.int .i64 q, .slice B m d] 26)))
        go_wp2_with fail
        refine (implIsState_calls B m d q M _ HM.out hm Z1.out).mono ?_
        rintro e w2 ⟨rfl, hb⟩
        have X2 := Lib.hid ((X1.out.alloc (.cells #[.int .i64 q, .slice B m d] 26)).below hb (by have := X1.out.lt; simp; omega))
        have HI2 := Lib.hid ((HI1.out.below ((Below.refl _ _).alloc (Nat.le_refl _) (.cells #[.int .i64 q, .slice B m d] 26))).below hb)
        have HJ2 := Lib.hid ((HJ1.out.below ((Below.refl _ _).alloc (Nat.le_refl _) (.cells #[.int .i64 q, .slice B m d] 26))).below hb)
        have HB2 := Lib.hid ((HB1.out.alloc HB1.out.size (.cells #[.int .i64 q, .slice B m d] 26)).trans (hb.mono (by have := HB1.out.size; first | omega | (simp; done) | (simp; omega))))
        clear Z1
        clear hb x0 x1 x2 x3 X1 HI1 HJ1 HB1
        obtain ⟨x0, x1, x2, x3⟩ := X2.out.four
        go_wp2
        rw [rounds_succ]
        go_wp2
        refine wp_loop_rounds 3 ?_
        rw [rounds_succ]
        obtain ⟨z0, z1, z2, z3⟩ := (X2.out.alloc (.cells #[.int .i64 p, .slice A n c] 26)).four
        go_wp2_with fail
        go_quiet (fail)
        go_wp2
        go_ret
        exact ⟨ret_int' (by unfold code2; rw [if_pos ⟨HS.out, HT.out⟩, if_neg (by rintro ⟨h, _⟩; exact hp h)]), by first | exact HB2.out | exact belowDraws HB2.out _ | exact belowDraws (belowDraws HB2.out _) _ | exact (HB2.out.alloc HB2.out.size _) | exact belowDraws (HB2.out.alloc HB2.out.size _) _ | exact belowDraws (belowDraws (HB2.out.alloc HB2.out.size _) _) _ | exact ((HB2.out.alloc HB2.out.size _).alloc (by have := HB2.out.size; simp; omega) _) | exact belowDraws ((HB2.out.alloc HB2.out.size _).alloc (by have := HB2.out.size; simp; omega) _) _ | exact belowDraws (belowDraws ((HB2.out.alloc HB2.out.size _).alloc (by have := HB2.out.size; simp; omega) _) _) _ | exact ((belowDraws (HB2.out.alloc HB2.out.size _) _).alloc (by have := HB2.out.size; simp; omega) _) | exact belowDraws ((belowDraws (HB2.out.alloc HB2.out.size _) _).alloc (by have := HB2.out.size; simp; omega) _) _ | exact belowDraws (belowDraws ((belowDraws (HB2.out.alloc HB2.out.size _) _).alloc (by have := HB2.out.size; simp; omega) _) _) _⟩
    · have ht' : stateB q M = false := by simpa using ht
      have HT := Lib.hid ht'
      clear ht
      obtain ⟨x0, x1, x2, x3⟩ := X0.out.four
      go_enter Try.func51, Try.ntmps51
      go_wp2
      refine wp_loop_rounds 3 ?_
      rw [rounds_succ]
      have Z0 := Lib.hid (HI0.out.below ((Below.refl _ _).alloc (Nat.le_refl _) (.cells #[.int .i64 p, .slice A n c] 26)))
      go_wp2_with fail
      refine (implIsState_calls A n c p L _ HL.out hn Z0.out).mono ?_
      rintro e w1 ⟨rfl, hb⟩
      have X1 := Lib.hid ((X0.out.alloc (.cells #[.int .i64 p, .slice A n c] 26)).below hb (by have := X0.out.lt; simp; omega))
      have HI1 := Lib.hid ((HI0.out.below ((Below.refl _ _).alloc (Nat.le_refl _) (.cells #[.int .i64 p, .slice A n c] 26))).below hb)
      have HJ1 := Lib.hid ((HJ0.out.below ((Below.refl _ _).alloc (Nat.le_refl _) (.cells #[.int .i64 p, .slice A n c] 26))).below hb)
      have HB1 := Lib.hid ((HB0.out.alloc HB0.out.size (.cells #[.int .i64 p, .slice A n c] 26)).trans (hb.mono (by have := HB0.out.size; first | omega | (simp; done) | (simp; omega))))
      clear Z0
      clear hb x0 x1 x2 x3 X0 HI0 HJ0 HB0
      obtain ⟨x0, x1, x2, x3⟩ := X1.out.four
      go_wp2
      rw [rounds_succ]
      have Z1 := Lib.hid (HJ1.out.below ((Below.refl _ _).alloc (Nat.le_refl _) (.cells #[.int .i64 q, .slice B m d] 26)))
      go_wp2_with fail
      refine (implIsState_calls B m d q M _ HM.out hm Z1.out).mono ?_
      rintro e w2 ⟨rfl, hb⟩
      have X2 := Lib.hid ((X1.out.alloc (.cells #[.int .i64 q, .slice B m d] 26)).below hb (by have := X1.out.lt; simp; omega))
      have HI2 := Lib.hid ((HI1.out.below ((Below.refl _ _).alloc (Nat.le_refl _) (.cells #[.int .i64 q, .slice B m d] 26))).below hb)
      have HJ2 := Lib.hid ((HJ1.out.below ((Below.refl _ _).alloc (Nat.le_refl _) (.cells #[.int .i64 q, .slice B m d] 26))).below hb)
      have HB2 := Lib.hid ((HB1.out.alloc HB1.out.size (.cells #[.int .i64 q, .slice B m d] 26)).trans (hb.mono (by have := HB1.out.size; first | omega | (simp; done) | (simp; omega))))
      clear Z1
      clear hb x0 x1 x2 x3 X1 HI1 HJ1 HB1
      obtain ⟨x0, x1, x2, x3⟩ := X2.out.four
      go_wp2
      go_ret
      exact ⟨ret_int' (by unfold code2; rw [if_neg (by rintro ⟨_, h⟩; rw [HT.out] at h; cases h)]), by first | exact HB2.out | exact belowDraws HB2.out _ | exact belowDraws (belowDraws HB2.out _) _ | exact (HB2.out.alloc HB2.out.size _) | exact belowDraws (HB2.out.alloc HB2.out.size _) _ | exact belowDraws (belowDraws (HB2.out.alloc HB2.out.size _) _) _ | exact ((HB2.out.alloc HB2.out.size _).alloc (by have := HB2.out.size; simp; omega) _) | exact belowDraws ((HB2.out.alloc HB2.out.size _).alloc (by have := HB2.out.size; simp; omega) _) _ | exact belowDraws (belowDraws ((HB2.out.alloc HB2.out.size _).alloc (by have := HB2.out.size; simp; omega) _) _) _ | exact ((belowDraws (HB2.out.alloc HB2.out.size _) _).alloc (by have := HB2.out.size; simp; omega) _) | exact belowDraws ((belowDraws (HB2.out.alloc HB2.out.size _) _).alloc (by have := HB2.out.size; simp; omega) _) _ | exact belowDraws (belowDraws ((belowDraws (HB2.out.alloc HB2.out.size _) _).alloc (by have := HB2.out.size; simp; omega) _) _) _⟩
  · have hs' : stateB p L = false := by simpa using hs
    have HS := Lib.hid hs'
    clear hs
    obtain ⟨x0, x1, x2, x3⟩ := X0.out.four
    go_enter Try.func51, Try.ntmps51
    go_wp2
    refine wp_loop_rounds 3 ?_
    rw [rounds_succ]
    have Z0 := Lib.hid (HI0.out.below ((Below.refl _ _).alloc (Nat.le_refl _) (.cells #[.int .i64 p, .slice A n c] 26)))
    go_wp2_with fail
    refine (implIsState_calls A n c p L _ HL.out hn Z0.out).mono ?_
    rintro e w1 ⟨rfl, hb⟩
    have X1 := Lib.hid ((X0.out.alloc (.cells #[.int .i64 p, .slice A n c] 26)).below hb (by have := X0.out.lt; simp; omega))
    have HI1 := Lib.hid ((HI0.out.below ((Below.refl _ _).alloc (Nat.le_refl _) (.cells #[.int .i64 p, .slice A n c] 26))).below hb)
    have HJ1 := Lib.hid ((HJ0.out.below ((Below.refl _ _).alloc (Nat.le_refl _) (.cells #[.int .i64 p, .slice A n c] 26))).below hb)
    have HB1 := Lib.hid ((HB0.out.alloc HB0.out.size (.cells #[.int .i64 p, .slice A n c] 26)).trans (hb.mono (by have := HB0.out.size; first | omega | (simp; done) | (simp; omega))))
    clear Z0
    clear hb x0 x1 x2 x3 X0 HI0 HJ0 HB0
    obtain ⟨x0, x1, x2, x3⟩ := X1.out.four
    go_wp2
    go_ret
    exact ⟨ret_int' (by unfold code2; rw [if_neg (by rintro ⟨h, _⟩; rw [HS.out] at h; cases h)]), by first | exact HB1.out | exact belowDraws HB1.out _ | exact belowDraws (belowDraws HB1.out _) _ | exact (HB1.out.alloc HB1.out.size _) | exact belowDraws (HB1.out.alloc HB1.out.size _) _ | exact belowDraws (belowDraws (HB1.out.alloc HB1.out.size _) _) _ | exact ((HB1.out.alloc HB1.out.size _).alloc (by have := HB1.out.size; simp; omega) _) | exact belowDraws ((HB1.out.alloc HB1.out.size _).alloc (by have := HB1.out.size; simp; omega) _) _ | exact belowDraws (belowDraws ((HB1.out.alloc HB1.out.size _).alloc (by have := HB1.out.size; simp; omega) _) _) _ | exact ((belowDraws (HB1.out.alloc HB1.out.size _) _).alloc (by have := HB1.out.size; simp; omega) _) | exact belowDraws ((belowDraws (HB1.out.alloc HB1.out.size _) _).alloc (by have := HB1.out.size; simp; omega) _) _ | exact belowDraws (belowDraws ((belowDraws (HB1.out.alloc HB1.out.size _) _).alloc (by have := HB1.out.size; simp; omega) _) _) _⟩

end Go.Proofs.Ytnbjnlgdolhlmaa

namespace Go.Proofs.Ytnbjnlgdolhlmaa
open Go.RowKit
set_option linter.unusedVariables false

/-- The state behind a move. -/
def apM (N : List Int) (m : Mv) : List Int := N.set m.1.toNat m.2.2
/-- Whether M is met along the moves from N. -/
def onM (M : List Int) : List Int → List Mv → Bool
  | N, [] => decide (N = M)
  | N, m :: r => if N = M then true else onM M (apM N m) r
theorem apM_step (L : List Int) (a : Int) : apM L (mvW L a) = stepW L a := by unfold apM mvW stepW; simp
theorem on_eq (M : List Int) : ∀ W, onM M M W = true
  | [] => by unfold onM; exact decide_eq_true rfl
  | m :: r => by unfold onM; rw [if_pos rfl]
theorem on_more {M L : List Int} {a : Int} (hp : pegsOk L) (ha : 0 ≤ a ∧ a ≤ 2) (hd : fdW L a < L.length) (hne : L ≠ M) : onM M L (wayL L a) = onM M (stepW L a) (wayL (stepW L a) a) := by
  rw [wayL_more hp ha hd, onM, if_neg hne, apM_step]
theorem on_end {M L : List Int} {a : Int} (hd : fdW L a = L.length) (hne : L ≠ M) : onM M L (wayL L a) = false := by
  rw [wayL_end hd, onM]
  exact decide_eq_false hne
def owE (p : Int) (L : List Int) (a q : Int) (M : List Int) : Int := if code2 p L q M = 0 then (if inB a 0 2 = true then 0 else 2) else code2 p L q M
def owV (p : Int) (L : List Int) (a q : Int) (M : List Int) : Bool := if code2 p L q M = 0 ∧ inB a 0 2 = true then onM M L (wayL L a) else false
theorem ow_codeW {p q a : Int} {L M : List Int} (h : code2 p L q M = 0) : codeW p L a = owE p L a q M := by
  obtain ⟨hs, ht, hp, hq, hl⟩ := code2_zero h
  have h1 : code1 p L = 0 := by unfold code1; rw [if_pos hs, if_pos hp]
  unfold codeW owE
  rw [if_pos h1, if_pos h]
theorem ext_of {L M : List Int} {n : Nat} (h1 : L.length = n) (h2 : M.length = n) (h : ∀ i, i < n → L[i]?.getD 0 = M[i]?.getD 0) : L = M :=
  list_ext h1 h2 (fun j hj => by rw [List.getD_eq_getElem?_getD, List.getD_eq_getElem?_getD]; exact h j hj)
theorem fdW_bd {L : List Int} {a : Int} (h : fdW L a < L.length) : (0 : Int) ≤ (fdW L a : Int) := Int.natCast_nonneg _

set_option maxHeartbeats 1000000 in
theorem codeOfPeg_two (g : Nat) (A : Option Addr) (n c : Nat) (p : Int) (L : List Int) (B : Option Addr) (m d : Nat) (q : Int) (M : List Int) (a : Int) (w : World) (hx : Box w g 26 #[.int .i64 p, .slice A n c, .int .i64 q, .slice B m d]) (hL : L.length = n) (hn : n ≤ 1048576) (hI : Ints w A L) (hM : M.length = m) (hm : m ≤ 1048576) (hJ : Ints w B M) :
    Calls Try.prog 27 #[.int .i64 a, .slice (some ⟨g, 0, none⟩) 2 2] w fun e w' => e = .returned (.int .i64 (owE p L a q M)) ∧ Below w.heap.size w w' := by
  have HL := Lib.hid hL
  clear hL
  have hpg : pegB 3 a = inB a 0 2 := by rw [pegB_in]; rfl
  by_cases hz : code2 p L q M = 0
  · have hz' : (code2 p L q M == 0) = true := by simpa using hz
    by_cases ha : inB a 0 2 = true
    · have HZ := Lib.hid hz
      have HA := Lib.hid ha
      rw [← hpg] at ha
      clear hz hpg
      go_enter Try.func27, Try.ntmps27
      go_wp2_with fail
      refine (codeOfStates_two g A n c p L B m d q M _ hx HL.out hn hI hM hm hJ).mono ?_
      rintro e w1 ⟨rfl, hb1⟩
      go_wp2_with fail
      refine (isPeg_calls 3 a _).mono ?_
      rintro e w' ⟨rfl, rfl⟩
      go_wp2
      go_ret
      exact ⟨ret_int' (by unfold owE; rw [if_pos HZ.out, if_pos HA.out, HZ.out]), hb1⟩
    · have ha' : inB a 0 2 = false := by simpa using ha
      have HZ := Lib.hid hz
      have HA := Lib.hid ha'
      rw [← hpg] at ha'
      clear hz ha hpg
      go_enter Try.func27, Try.ntmps27
      go_wp2_with fail
      refine (codeOfStates_two g A n c p L B m d q M _ hx HL.out hn hI hM hm hJ).mono ?_
      rintro e w1 ⟨rfl, hb1⟩
      go_wp2_with fail
      refine (isPeg_calls 3 a _).mono ?_
      rintro e w' ⟨rfl, rfl⟩
      go_wp2
      go_ret
      exact ⟨ret_int' (by unfold owE; rw [if_pos HZ.out, if_neg (by simp [HA.out])]), hb1⟩
  · have hz' : (code2 p L q M == 0) = false := by simpa using hz
    have HZ := Lib.hid hz
    clear hz
    go_enter Try.func27, Try.ntmps27
    go_wp2_with fail
    refine (codeOfStates_two g A n c p L B m d q M _ hx HL.out hn hI hM hm hJ).mono ?_
    rintro e w1 ⟨rfl, hb1⟩
    go_wp2
    go_ret
    exact ⟨ret_int' (by unfold owE; rw [if_neg HZ.out]), hb1⟩

end Go.Proofs.Ytnbjnlgdolhlmaa

namespace Go.Proofs.Ytnbjnlgdolhlmaa
open Go.RowKit
set_option linter.unusedVariables false

/-- The state behind so many moves of the way. -/
def stN (a : Int) : Nat → List Int → List Int
  | 0, L => L
  | i + 1, L => stN a i (stepW L a)
theorem stN_len (a : Int) : ∀ (i : Nat) (L : List Int), (stN a i L).length = L.length
  | 0, _ => rfl
  | i + 1, L => by show (stN a i (stepW L a)).length = _; rw [stN_len a i, stepW_len]
theorem stN_add (a : Int) (j : Nat) : ∀ (i : Nat) (L : List Int), stN a (i + j) L = stN a j (stN a i L)
  | 0, L => by rw [Nat.zero_add]; rfl
  | i + 1, L => by rw [show i + 1 + j = (i + j) + 1 by omega]; exact stN_add a j i (stepW L a)
theorem on_iff (M : List Int) (a : Int) : ∀ (k : Nat) (L : List Int), onM M L (wyL k L a) = true ↔ ∃ i, i ≤ k ∧ stN a i L = M
  | 0, L => by
    show decide (L = M) = true ↔ _
    rw [decide_eq_true_iff]
    constructor
    · intro h; exact ⟨0, Nat.le_refl _, h⟩
    · rintro ⟨i, hi, h⟩
      obtain rfl : i = 0 := by omega
      exact h
  | k + 1, L => by
    show (if L = M then true else onM M (apM L (mvW L a)) (wyL k (stepW L a) a)) = true ↔ _
    rw [apM_step]
    by_cases h : L = M
    · rw [if_pos h]
      exact ⟨fun _ => ⟨0, Nat.zero_le _, h⟩, fun _ => rfl⟩
    · rw [if_neg h, on_iff M a k (stepW L a)]
      constructor
      · rintro ⟨i, hi, e⟩; exact ⟨i + 1, by omega, e⟩
      · rintro ⟨i, hi, e⟩
        cases i with
        | zero => exact absurd e h
        | succ i => exact ⟨i, by omega, e⟩
theorem stN_pegs {a : Int} (ha : 0 ≤ a ∧ a ≤ 2) : ∀ (i : Nat) (L : List Int), pegsOk L → pegsOk (stN a i L)
  | 0, _, h => h
  | i + 1, L, h => stN_pegs ha i (stepW L a) (stepW_pegs L a h ha)
theorem stN_app {u a : Int} (hu : 0 ≤ u ∧ u ≤ 2) (ha : 0 ≤ a ∧ a ≤ 2) : ∀ (i : Nat) (L : List Int), pegsOk L → (i : Int) ≤ distP L (aft [u] a) → stN a i (L ++ [u]) = stN (aft [u] a) i L ++ [u]
  | 0, _, _, _ => rfl
  | i + 1, L, hp, hi => by
    have hpos : 0 < distP L (aft [u] a) := by omega
    have hlt := (fdW_lt_iff L (aft [u] a)).2 hpos
    have hs := (stepW_dist L (aft [u] a) hp (aft1_bd hu ha) hpos).1
    show stN a i (stepW (L ++ [u]) a) = stN (aft [u] a) i (stepW L (aft [u] a)) ++ [u]
    rw [stepW_app hlt, stN_app hu ha i (stepW L (aft [u] a)) (stepW_pegs L _ hp (aft1_bd hu ha)) (by omega)]
theorem stN_end {a : Int} (ha : 0 ≤ a ∧ a ≤ 2) : ∀ (n : Nat) (L : List Int), (distP L a).toNat = n → pegsOk L → stN a n L = List.replicate L.length a
  | 0, L, hd, hp => by
    have h1 := fdW_lt_iff L a
    have h2 := fdW_le L a
    have h3 := distP_nonneg L a
    exact (fdW_there a L (by omega)).2
  | n + 1, L, hd, hp => by
    have h3 := distP_nonneg L a
    have hs := (stepW_dist L a hp ha (by omega)).1
    show stN a n (stepW L a) = _
    rw [stN_end ha n (stepW L a) (by omega) (stepW_pegs L a hp ha), stepW_len]
theorem aft_rep (t : Int) : ∀ n, aft (List.replicate n t) t = t
  | 0 => rfl
  | n + 1 => by
    rw [List.replicate_succ]
    show (if t = aft (List.replicate n t) t then _ else _) = t
    rw [aft_rep t n, if_pos rfl]
theorem fdW_rep (t : Int) : ∀ n, fdW (List.replicate n t) t = n
  | 0 => rfl
  | n + 1 => by
    rw [List.replicate_succ, fdW, aft_rep t n, if_pos rfl, fdW_rep t n]
theorem fdW_big {u a : Int} (h : u ≠ a) : ∀ n, fdW (List.replicate n (aft [u] a) ++ [u]) a = n
  | 0 => by
    show (if u = a then fdW [] a + 1 else 0) = 0
    rw [if_neg h]
  | n + 1 => by
    rw [List.replicate_succ, List.cons_append, fdW, aft_app, aft_rep, if_pos rfl, fdW_big h n]
/-- The largest disc's own move. -/
theorem stepW_big {u a : Int} (h : u ≠ a) (n : Nat) : stepW (List.replicate n (aft [u] a) ++ [u]) a = List.replicate n (aft [u] a) ++ [a] := by
  unfold stepW
  rw [fdW_big h n, goals_app]
  have hg : (goalsL (List.replicate n (aft [u] a)) (aft [u] a)).length = n := by rw [goalsL_len, List.length_replicate]
  have e : (goalsL (List.replicate n (aft [u] a)) (aft [u] a) ++ [a])[n]?.getD 0 = a := by
    rw [List.getElem?_append_right (by omega), hg, Nat.sub_self]
    rfl
  rw [e, List.set_append_right _ _ (by simp)]
  simp

/-- The way from a state whose largest disc is where it is to go. -/
theorem on_same {a v : Int} (ha : 0 ≤ a ∧ a ≤ 2) {L M : List Int} (hp : pegsOk L) (hl : M.length = L.length) : onM (M ++ [v]) (L ++ [a]) (wayL (L ++ [a]) a) = true ↔ v = a ∧ onM M L (wayL L a) = true := by
  have e : aft [a] a = a := by show (if a = a then a else _) = a; rw [if_pos rfl]
  have h0 := distP_nonneg L a
  have hd : distP (L ++ [a]) a = distP L a := by rw [distP_app, e, if_pos rfl, Int.add_zero]
  unfold wayL
  rw [hd, on_iff, on_iff]
  constructor
  · rintro ⟨i, hi, hs⟩
    rw [stN_app ha ha i L hp (by rw [e]; omega), e] at hs
    obtain ⟨h1, h2⟩ := List.append_inj hs (by rw [stN_len, hl])
    exact ⟨by injection h2 with h2; exact h2.symm, i, hi, h1⟩
  · rintro ⟨rfl, i, hi, hs⟩
    exact ⟨i, hi, by rw [stN_app ha ha i L hp (by rw [e]; omega), e, hs]⟩
theorem distP_rep {t : Int} (ht : 0 ≤ t ∧ t ≤ 2) : ∀ (n : Nat) (a : Int), 0 ≤ a ∧ a ≤ 2 → t ≠ a → distP (List.replicate n t) a = pow2 n - 1
  | 0, _, _, _ => rfl
  | n + 1, a, ha, h => by
    have e : aft [t] a = 3 - a - t := by show (if t = a then a else 3 - a - t) = _; rw [if_neg h]
    rw [List.replicate_succ', distP_app, if_neg h, List.length_replicate, e, distP_rep ht n (3 - a - t) (by omega) (by omega), pow2_succ]
    omega
theorem pegs_rep {t : Int} (ht : 0 ≤ t ∧ t ≤ 2) (n : Nat) : pegsOk (List.replicate n t) := fun x hx => by rw [(List.mem_replicate.1 hx).2]; exact ht
/-- The way from a state whose largest disc has to move. -/
theorem on_move {u a v : Int} (hu : 0 ≤ u ∧ u ≤ 2) (ha : 0 ≤ a ∧ a ≤ 2) (h : u ≠ a) {L M : List Int} (hp : pegsOk L) (hl : M.length = L.length) : onM (M ++ [v]) (L ++ [u]) (wayL (L ++ [u]) a) = true ↔
    (v = u ∧ onM M L (wayL L (aft [u] a)) = true) ∨ (v = a ∧ onM M (List.replicate L.length (aft [u] a)) (wayL (List.replicate L.length (aft [u] a)) a) = true) := by
  obtain ⟨t, ht⟩ : ∃ t, aft [u] a = t := ⟨_, rfl⟩
  have et : t = 3 - a - u := by rw [← ht]; show (if u = a then a else 3 - a - u) = _; rw [if_neg h]
  have hb : 0 ≤ t ∧ t ≤ 2 := by rw [← ht]; exact aft1_bd hu ha
  have eaa : aft [a] a = a := by show (if a = a then a else _) = a; rw [if_pos rfl]
  have h0 := distP_nonneg L t
  have hr := distP_rep hb L.length a ha (by omega)
  have hd : distP (L ++ [u]) a = distP L t + pow2 L.length := by rw [distP_app, ht, if_neg h]
  have hr0 := distP_nonneg (List.replicate L.length t) a
  obtain ⟨d, hdd⟩ : ∃ d, d = (distP L t).toNat := ⟨_, rfl⟩
  obtain ⟨e, hee⟩ : ∃ e, e = (distP (List.replicate L.length t) a).toNat := ⟨_, rfl⟩
  have hK : (distP (L ++ [u]) a).toNat = d + 1 + e := by omega
  have hend : stN a d (L ++ [u]) = List.replicate L.length t ++ [u] := by
    rw [stN_app hu ha d L hp (by rw [ht]; omega), ht, stN_end hb d L hdd.symm hp]
  have hbig : stepW (List.replicate L.length t ++ [u]) a = List.replicate L.length t ++ [a] := by rw [← ht]; exact stepW_big h L.length
  have late : ∀ j, j ≤ e → stN a (d + 1 + j) (L ++ [u]) = stN a j (List.replicate L.length t) ++ [a] := by
    intro j hj
    rw [show d + 1 + j = d + (j + 1) by omega, stN_add, hend]
    show stN a j (stepW (List.replicate L.length t ++ [u]) a) = _
    rw [hbig, stN_app ha ha j _ (pegs_rep hb _) (by rw [eaa]; omega), eaa]
  rw [ht]
  unfold wayL
  rw [hK, on_iff, on_iff, on_iff, ← hdd, ← hee]
  constructor
  · rintro ⟨i, hi, hs⟩
    by_cases hid : i ≤ d
    · left
      rw [stN_app hu ha i L hp (by rw [ht]; omega), ht] at hs
      obtain ⟨h1, h2⟩ := List.append_inj hs (by rw [stN_len, hl])
      exact ⟨by injection h2 with h2; exact h2.symm, i, hid, h1⟩
    · right
      obtain ⟨j, rfl⟩ : ∃ j, i = d + 1 + j := ⟨i - d - 1, by omega⟩
      rw [late j (by omega)] at hs
      obtain ⟨h1, h2⟩ := List.append_inj hs (by rw [stN_len, List.length_replicate, hl])
      exact ⟨by injection h2 with h2; exact h2.symm, j, by omega, h1⟩
  · rintro (⟨rfl, i, hi, hs⟩ | ⟨rfl, j, hj, hs⟩)
    · exact ⟨i, by omega, by rw [stN_app hu ha i L hp (by rw [ht]; omega), ht, hs]⟩
    · exact ⟨d + 1 + j, by omega, by rw [late j hj, hs]⟩

end Go.Proofs.Ytnbjnlgdolhlmaa

namespace Go.Proofs.Ytnbjnlgdolhlmaa
open Go.RowKit
set_option linter.unusedVariables false

/-- The distance by rule. -/
def dR (L M : List Int) : Int := if grt L M L.length = -1 then 0 else min (oneN L M (grt L M L.length).toNat) (twoN L M (grt L M L.length).toNat)
theorem grt_app {L M R S : List Int} (hl : M.length = L.length) : ∀ k, k ≤ L.length → grt (L ++ R) (M ++ S) k = grt L M k
  | 0, _ => rfl
  | k + 1, hk => by
    show (if (L ++ R)[k]?.getD 0 = (M ++ S)[k]?.getD 0 then grt (L ++ R) (M ++ S) k else (k : Int)) = if L[k]?.getD 0 = M[k]?.getD 0 then grt L M k else (k : Int)
    rw [at_left (by omega), at_left (by omega), grt_app hl k (by omega)]
theorem at_end (L : List Int) (u : Int) : (L ++ [u])[L.length]?.getD 0 = u := by simp
theorem dR_same {L M : List Int} (hl : M.length = L.length) (u : Int) : dR (L ++ [u]) (M ++ [u]) = dR L M := by
  have hlen : (L ++ [u]).length = L.length + 1 := by simp
  have hg : grt (L ++ [u]) (M ++ [u]) (L ++ [u]).length = grt L M L.length := by
    rw [hlen]
    show (if (L ++ [u])[L.length]?.getD 0 = (M ++ [u])[L.length]?.getD 0 then grt (L ++ [u]) (M ++ [u]) L.length else ((L.length : Nat) : Int)) = _
    have e2 : (M ++ [u])[L.length]?.getD 0 = u := by rw [← hl]; exact at_end M u
    rw [at_end, e2, if_pos rfl, grt_app hl _ (Nat.le_refl _)]
  unfold dR
  rw [hg]
  have hb := grt_bd L M L.length
  by_cases h : grt L M L.length = -1
  · rw [if_pos h, if_pos h]
  · rw [if_neg h, if_neg h]
    have hd : (grt L M L.length).toNat < L.length := by omega
    generalize (grt L M L.length).toNat = d at hd ⊢
    unfold oneN twoN
    rw [at_left hd, at_left (by omega), List.take_append_of_le_length (by omega), List.take_append_of_le_length (by omega)]
theorem dR_diff {L M : List Int} (hl : M.length = L.length) {u v : Int} (h : u ≠ v) : dR (L ++ [u]) (M ++ [v]) = min (distP L (3 - u - v) + distP M (3 - u - v) + 1) (distP L v + distP M u + pow2 L.length + 1) := by
  have hlen : (L ++ [u]).length = L.length + 1 := by simp
  have e2 : (M ++ [v])[L.length]?.getD 0 = v := by rw [← hl]; exact at_end M v
  have hg : grt (L ++ [u]) (M ++ [v]) (L ++ [u]).length = ((L.length : Nat) : Int) := by
    rw [hlen]
    show (if (L ++ [u])[L.length]?.getD 0 = (M ++ [v])[L.length]?.getD 0 then grt (L ++ [u]) (M ++ [v]) L.length else ((L.length : Nat) : Int)) = _
    rw [at_end, e2, if_neg h]
  unfold dR
  rw [hg, if_neg (by omega), Int.toNat_natCast]
  unfold oneN twoN
  have t1 : (L ++ [u]).take L.length = L := by simp
  have t2 : (M ++ [v]).take L.length = M := by rw [← hl]; simp
  rw [at_end, e2, t1, t2]
theorem snoc_of {n : Nat} {L : List Int} (h : L.length = n + 1) : ∃ (L' : List Int) (u : Int), L = L' ++ [u] ∧ L'.length = n := by
  have hne : L ≠ [] := by intro e; subst e; simp at h
  exact ⟨L.dropLast, L.getLast hne, (List.dropLast_concat_getLast hne).symm, by rw [List.length_dropLast]; omega⟩
theorem pegs_snoc {L : List Int} {u : Int} (h : pegsOk (L ++ [u])) : pegsOk L ∧ 0 ≤ u ∧ u ≤ 2 := ⟨fun x hx => h x (List.mem_append_left _ hx), h u (by simp)⟩
theorem distP_lt : ∀ (L : List Int) (a : Int), distP L a ≤ pow2 L.length - 1
  | [], _ => by show (0 : Int) ≤ 1 - 1; omega
  | x :: r, a => by
    have ih := distP_lt r a
    rw [distP_cons, List.length_cons, pow2_succ]
    split <;> omega
theorem pow2_one (n : Nat) : 1 ≤ pow2 n := by
  induction n with
  | zero => exact Int.le_refl _
  | succ n ih => rw [pow2_succ]; omega
theorem aft1 (u a : Int) : aft [u] a = if u = a then a else 3 - a - u := rfl
/-- To two pegs together it is at least from the one to the other. -/
theorem distP_two : ∀ (n : Nat) (M : List Int), M.length = n → pegsOk M → ∀ u a : Int, 0 ≤ u ∧ u ≤ 2 → 0 ≤ a ∧ a ≤ 2 → u ≠ a → pow2 n - 1 ≤ distP M u + distP M a
  | 0, M, hM, _, u, a, _, _, _ => by
    have h1 := distP_nonneg M u
    have h2 := distP_nonneg M a
    show (1 : Int) - 1 ≤ _
    omega
  | n + 1, M, hM, hp, u, a, hu, ha, h => by
    obtain ⟨M', v, rfl, hl⟩ := snoc_of hM
    obtain ⟨hp', hv⟩ := pegs_snoc hp
    have ih := distP_two n M' hl hp'
    rw [distP_app, distP_app, hl, aft1, aft1, pow2_succ]
    have h1 := pow2_one n
    by_cases c1 : v = u
    · subst c1
      rw [if_pos rfl, if_pos rfl, if_neg h, if_neg h]
      have := ih v (3 - a - v) hv (by omega) (by omega)
      omega
    · by_cases c2 : v = a
      · subst c2
        rw [if_neg c1, if_neg c1, if_pos rfl, if_pos rfl]
        have := ih (3 - u - v) v (by omega) hv (by omega)
        omega
      · rw [if_neg c1, if_neg c1, if_neg c2, if_neg c2]
        have h3 := distP_nonneg M' (3 - u - v)
        have h4 := distP_nonneg M' (3 - a - v)
        omega
/-- From a perfect state on, the distance by rule is that to its peg. -/
theorem dR_perf : ∀ (n : Nat) (M : List Int), M.length = n → pegsOk M → ∀ t : Int, 0 ≤ t ∧ t ≤ 2 → dR (List.replicate n t) M = distP M t
  | 0, M, hM, _, t, _ => by
    obtain rfl : M = [] := List.length_eq_zero_iff.1 hM
    rfl
  | n + 1, M, hM, hp, t, ht => by
    obtain ⟨M', v, rfl, hl⟩ := snoc_of hM
    obtain ⟨hp', hv⟩ := pegs_snoc hp
    rw [List.replicate_succ', distP_app, aft1, hl]
    by_cases c : v = t
    · subst c
      rw [dR_same (by rw [hl, List.length_replicate]), dR_perf n M' hl hp' v hv, if_pos rfl, if_pos rfl, Int.add_zero]
    · rw [dR_diff (by rw [hl, List.length_replicate]) (fun e => c e.symm), if_neg c, if_neg c, List.length_replicate, distP_rep ht n (3 - t - v) (by omega) (by omega), distP_rep ht n v hv (fun e => c e.symm)]
      have h1 := distP_lt M' (3 - t - v)
      have h2 := distP_nonneg M' t
      have h3 := pow2_one n
      rw [hl] at h1
      omega
/-- On the way if, and only if, the distances add up. -/
theorem on_dist : ∀ (n : Nat) (L M : List Int), L.length = n → M.length = n → pegsOk L → pegsOk M → ∀ a : Int, 0 ≤ a ∧ a ≤ 2 → (onM M L (wayL L a) = true ↔ dR L M + distP M a = distP L a)
  | 0, L, M, hL, hM, _, _, a, _ => by
    obtain rfl : L = [] := List.length_eq_zero_iff.1 hL
    obtain rfl : M = [] := List.length_eq_zero_iff.1 hM
    exact ⟨fun _ => rfl, fun _ => rfl⟩
  | n + 1, L, M, hL, hM, hpL, hpM, a, ha => by
    obtain ⟨L', u, rfl, hl⟩ := snoc_of hL
    obtain ⟨M', v, rfl, hm⟩ := snoc_of hM
    obtain ⟨hp, hu⟩ := pegs_snoc hpL
    obtain ⟨hq, hv⟩ := pegs_snoc hpM
    have hml : M'.length = L'.length := by omega
    have ih := on_dist n
    have p1 := pow2_one n
    have dl := fun b => distP_lt L' b
    have dm := fun b => distP_lt M' b
    have nl := fun b => distP_nonneg L' b
    have nm := fun b => distP_nonneg M' b
    rw [hl] at dl
    rw [hm] at dm
    by_cases c : u = a
    · subst c
      rw [on_same ha hp hml, ih L' M' hl hm hp hq u ha, distP_app, distP_app, aft1, aft1, if_pos rfl, if_pos rfl, hm]
      by_cases d : v = u
      · subst d
        rw [dR_same hml, if_pos rfl, if_pos rfl, Int.add_zero, Int.add_zero]
        exact ⟨fun h => h.2, fun h => ⟨rfl, h⟩⟩
      · rw [if_neg d, if_neg d, dR_diff hml (fun e => d e.symm), hl]
        have a1 := dl u
        have a2 := nl (3 - u - v)
        have a3 := nm (3 - u - v)
        have a4 := nl v
        have a5 := nm u
        constructor
        · intro h; exact absurd h.1 d
        · intro h; omega
    · obtain ⟨t, ht⟩ : ∃ t, t = 3 - a - u := ⟨_, rfl⟩
      have htb : 0 ≤ t ∧ t ≤ 2 := by omega
      have e1 : aft [u] a = t := by rw [aft1, if_neg c, ht]
      rw [on_move hu ha c hp hml, e1, ih L' M' hl hm hp hq t htb, ih _ M' (by rw [List.length_replicate, hl]) hm (pegs_rep htb _) hq a ha, distP_app, distP_app, e1, if_neg c, aft1, hm, hl, dR_perf n M' hm hq t htb, distP_rep htb n a ha (by omega)]
      by_cases d : v = u
      · subst d
        rw [dR_same hml, if_neg c, if_neg c, ← ht]
        constructor
        · rintro (h | h)
          · omega
          · exact absurd h.1 c
        · intro h
          exact .inl ⟨rfl, by omega⟩
      · rw [dR_diff hml (fun e => d e.symm), hl]
        by_cases d2 : v = a
        · subst d2
          rw [if_pos rfl, if_pos rfl, show 3 - u - v = t by omega]
          have a1 := distP_two n M' hm hq u v hu hv c
          have a2 := dl t
          have a3 := nl v
          constructor
          · rintro (h | h)
            · exact absurd h.1.symm c
            · omega
          · intro h
            exact .inr ⟨rfl, by omega⟩
        · rw [if_neg d2, if_neg d2, show 3 - u - v = a by omega, show 3 - a - v = u by omega, show v = t by omega]
          have a1 := distP_two n M' hm hq u a hu ha c
          have a2 := dl t
          have a3 := nl a
          have a4 := nm u
          have a5 := nl t
          constructor
          · rintro (h | h)
            · omega
            · omega
          · intro h; omega

end Go.Proofs.Ytnbjnlgdolhlmaa

namespace Go.Proofs.Ytnbjnlgdolhlmaa
open Go.RowKit
set_option linter.unusedVariables false

theorem thirdPeg_calls (a b : Int) (w : World) (ha : 0 ≤ a ∧ a ≤ 2) (hb : 0 ≤ b ∧ b ≤ 2) :
    Calls Try.prog 56 #[.int .i64 a, .int .i64 b] w fun e w' => e = .returned (.int .i64 (3 - a - b)) ∧ w = w' := by
  go_enter Try.func56, Try.ntmps56
  go_wp2
  go_ret
  exact ⟨rfl, rfl⟩

set_option maxHeartbeats 1000000 in
theorem l02Goals_calls (A : Option Addr) (n c : Nat) (L : List Int) (a : Int) (w : World) (hL : L.length = n) (hn : n ≤ 8) (hI : Ints w A L) (hp : pegsOk L) (ha : 0 ≤ a ∧ a ≤ 2) :
    Calls Try.prog 35 #[.slice A n c, .int .i64 a] w fun e w' => ∃ g, e = .returned (.slice (some ⟨g, 0, none⟩) n n) ∧ w.heap.size ≤ g ∧ Row w' g 2 (goalsL L a) ∧ Below w.heap.size w w' := by
  have hmk := run_make_row' (P := Try.prog) 24 2 (.int .i64 0) 8 Try.underlying24 Try.infoI rfl .i64 .i64 n (by omega) (by omega)
  have HL := Lib.hid hL
  have HP := Lib.hid hp
  have HG := Lib.hid (goalsL_len L a)
  clear hL hp
  go_enter Try.func35, Try.ntmps35
  go_wp2
  go_loopw [1, 6] (fun b i wr => ∃ m : Nat, m ≤ n ∧ i = .int .i64 ((m : Int) - 1) ∧ b = .int .i64 (aft (L.drop m) a) ∧ wr.rowIs w.heap.size 2 n (downto (goalsL L a) m) ∧ Below w.heap.size w wr) (fun _ i _ => (intOf i + 1).toNat)
  case atStart =>
    exact ⟨n, Nat.le_refl _, rfl, by rw [List.drop_of_length_le (by rw [HL.out]; exact Nat.le_refl _)]; rfl, (World.rowIs_made _ _ _ _).congr (fun i hi => by simp [downto, hi]), (Below.refl _ _).alloc (Nat.le_refl _) _⟩
  case round =>
    obtain ⟨m, hm, rfl, rfl, hrow, hb⟩ := hrel
    cases m with
    | zero =>
      have HR := Lib.hid hrow
      clear hrow
      go_wp2
      go_ret
      exact ⟨_, rfl, Nat.le_refl _, by
        unfold Row
        rw [HG.out, HL.out]
        exact HR.out.congr (fun j hj => by simp [downto]), hb⟩
    | succ d =>
      have hd : d < L.length := by rw [HL.out]; omega
      have hx := pegsOk_at HP.out hd
      have hbd := aft_bd (L.drop (d + 1)) a (pegsOk_drop HP.out _) ha
      have HST := Lib.hid (aft_step L a hd)
      have HAT := Lib.hid (goalsL_at L a d hd)
      obtain ⟨ad, rfl, had, hc0⟩ := hI d hd
      have hc := (hb.cell (p := ad.add d) (by rw [add_block]; exact had)).trans hc0
      have hfz := hrow.frozen d
      have hold := hrow.cell (i := d) (by omega)
      have HR := Lib.hid hrow
      have HDS := Lib.hid (downto_step (goalsL L a) d)
      have HB := Lib.hid hb
      have hc2 : (wr.setCell ⟨w.heap.size, d, none⟩ (.int .i64 (aft (L.drop (d + 1)) a))).cell? (ad.add d) = some (.int .i64 (L[d]?.getD 0)) := by
        rw [World.cell?_setCell_other _ _ _ _ (by intro e; have := congrArg Addr.block e; rw [add_block] at this; simp at this; omega)]
        simpa using hc
      have hi0 : (0 : Int) ≤ (d : Int) := by omega
      have hi1 : (d : Int) < (n : Int) := by omega
      have hi2 : ((d + 1 : Nat) : Int) - 1 = (d : Int) := by omega
      rw [hi2]
      clear hrow hb hc0 hi2 hd
      generalize aft (L.drop (d + 1)) a = b at *
      by_cases hne : L[d]?.getD 0 = b
      · have ht : (L[d]?.getD 0 != b) = false := by simpa using hne
        have HNE := Lib.hid hne
        clear hne
        go_wp2
        go_roundw
        case rel =>
          refine ⟨d, by omega, by go_num, by rw [HST.out, if_pos HNE.out], (HR.out.set d _).congr (fun j _ => ?_), HB.out.setCell (Nat.le_refl _) _⟩
          have := HDS.out j
          rw [HAT.out] at this
          exact this
        case measure => simp [intOf] <;> omega
      · have ht : (L[d]?.getD 0 != b) = true := by simpa using hne
        have HNE := Lib.hid hne
        clear hne
        go_wp2
        go_roundw
        case rel =>
          refine ⟨d, by omega, by go_num, by rw [HST.out, if_neg HNE.out], (HR.out.set d _).congr (fun j _ => ?_), HB.out.setCell (Nat.le_refl _) _⟩
          have := HDS.out j
          rw [HAT.out] at this
          exact this
        case measure => simp [intOf] <;> omega

set_option maxHeartbeats 1000000 in
theorem goalsOf_calls (A : Option Addr) (n c : Nat) (L : List Int) (a : Int) (w : World) (hL : L.length = n) (hn : n ≤ 8) (hI : Ints w A L) (hp : pegsOk L) (ha : 0 ≤ a ∧ a ≤ 2) :
    Calls Try.prog 34 #[.slice A n c, .int .i64 a] w fun e w' => ∃ g, e = .returned (.slice (some ⟨g, 0, none⟩) n n) ∧ w.heap.size ≤ g ∧ Row w' g 2 (goalsL L a) ∧ Below w.heap.size w w' := by
  have hmk := run_make_row' (P := Try.prog) 24 2 (.int .i64 0) 8 Try.underlying24 Try.infoI rfl .i64 .i64 n (by omega) (by omega)
  have HL := Lib.hid hL
  have HP := Lib.hid hp
  have HG := Lib.hid (goalsL_len L a)
  clear hL hp
  go_enter Try.func34, Try.ntmps34
  go_wp2
  go_loopw [1, 6] (fun b i wr => ∃ m : Nat, m ≤ n ∧ i = .int .i64 ((m : Int) - 1) ∧ b = .int .i64 (aft (L.drop m) a) ∧ wr.rowIs w.heap.size 2 n (downto (goalsL L a) m) ∧ Below w.heap.size w wr) (fun _ i _ => (intOf i + 1).toNat)
  case atStart =>
    exact ⟨n, Nat.le_refl _, rfl, by rw [List.drop_of_length_le (by rw [HL.out]; exact Nat.le_refl _)]; rfl, (World.rowIs_made _ _ _ _).congr (fun i hi => by simp [downto, hi]), (Below.refl _ _).alloc (Nat.le_refl _) _⟩
  case round =>
    obtain ⟨m, hm, rfl, rfl, hrow, hb⟩ := hrel
    cases m with
    | zero =>
      have HR := Lib.hid hrow
      clear hrow
      go_wp2
      go_ret
      exact ⟨_, rfl, Nat.le_refl _, by
        unfold Row
        rw [HG.out, HL.out]
        exact HR.out.congr (fun j hj => by simp [downto]), hb⟩
    | succ d =>
      have hd : d < L.length := by rw [HL.out]; omega
      have hx := pegsOk_at HP.out hd
      have hbd := aft_bd (L.drop (d + 1)) a (pegsOk_drop HP.out _) ha
      have HST := Lib.hid (aft_step L a hd)
      have HAT := Lib.hid (goalsL_at L a d hd)
      obtain ⟨ad, rfl, had, hc0⟩ := hI d hd
      have hc := (hb.cell (p := ad.add d) (by rw [add_block]; exact had)).trans hc0
      have hfz := hrow.frozen d
      have hold := hrow.cell (i := d) (by omega)
      have HR := Lib.hid hrow
      have HDS := Lib.hid (downto_step (goalsL L a) d)
      have HB := Lib.hid hb
      have hc2 : (wr.setCell ⟨w.heap.size, d, none⟩ (.int .i64 (aft (L.drop (d + 1)) a))).cell? (ad.add d) = some (.int .i64 (L[d]?.getD 0)) := by
        rw [World.cell?_setCell_other _ _ _ _ (by intro e; have := congrArg Addr.block e; rw [add_block] at this; simp at this; omega)]
        simpa using hc
      have hi0 : (0 : Int) ≤ (d : Int) := by omega
      have hi1 : (d : Int) < (n : Int) := by omega
      have hi2 : ((d + 1 : Nat) : Int) - 1 = (d : Int) := by omega
      rw [hi2]
      clear hrow hb hc0 hi2 hd
      generalize aft (L.drop (d + 1)) a = b at *
      by_cases hne : L[d]?.getD 0 = b
      · have ht : (L[d]?.getD 0 != b) = false := by simpa using hne
        have HNE := Lib.hid hne
        clear hne
        go_wp2
        go_roundw
        case rel =>
          refine ⟨d, by omega, by go_num, by rw [HST.out, if_pos HNE.out], (HR.out.set d _).congr (fun j _ => ?_), HB.out.setCell (Nat.le_refl _) _⟩
          have := HDS.out j
          rw [HAT.out] at this
          exact this
        case measure => simp [intOf] <;> omega
      · have ht : (L[d]?.getD 0 != b) = true := by simpa using hne
        have HNE := Lib.hid hne
        clear hne
        go_wp2_with fail
        refine (thirdPeg_calls b (L[d]?.getD 0) _ hbd hx).mono ?_
        rintro e w' ⟨rfl, rfl⟩
        go_wp2
        go_roundw
        case rel =>
          refine ⟨d, by omega, by go_num, by rw [HST.out, if_neg HNE.out], (HR.out.set d _).congr (fun j _ => ?_), HB.out.setCell (Nat.le_refl _) _⟩
          have := HDS.out j
          rw [HAT.out] at this
          exact this
        case measure => simp [intOf] <;> omega

end Go.Proofs.Ytnbjnlgdolhlmaa

namespace Go.Proofs.Ytnbjnlgdolhlmaa
open Go.RowKit
open Go.RowKit (wrap64)
set_option linter.unusedVariables false

/-- 1 shifted to the left, as the walk writes it, is a power of 2. -/
theorem shl_pow {k : Nat} (hk : k < 9) : wrap64 ((2 : Int) ^ k) = pow2 k := by
  have e : (2 : Int) ^ k = pow2 k := by unfold pow2; simp
  have hb := pow2_bd (k := k) (by omega)
  rw [e]
  exact IntWalk.wrap64_in _ (by omega)

set_option maxHeartbeats 1000000 in
theorem l02To_calls (A : Option Addr) (n c : Nat) (L : List Int) (a : Int) (w : World) (hL : L.length = n) (hn : n ≤ 8) (hI : Ints w A L) (hp : pegsOk L) (ha : 0 ≤ a ∧ a ≤ 2) :
    Calls Try.prog 33 #[.slice A n c, .int .i64 a] w fun e w' => e = .returned (.int .i64 (distP L a)) ∧ Below w.heap.size w w' := by
  have HL := Lib.hid hL
  have HG := Lib.hid (goalsL_len L a)
  clear hL
  have HDEF : distP L a = distTo L (goalsL L a) n := by unfold distP; rw [HL.out]
  rw [HDEF]
  clear HDEF
  obtain ⟨G, hG⟩ : ∃ G, goalsL L a = G := ⟨_, rfl⟩
  rw [hG]
  rw [hG] at HG
  have HGG := Lib.hid hG
  clear hG
  go_enter Try.func33, Try.ntmps33
  go_wp2_with fail
  refine (l02Goals_calls A n c L a _ HL.out hn hI hp ha).mono ?_
  rintro e w1 ⟨g, rfl, hg, hrow, hb⟩
  rw [HGG.out] at hrow
  have HR := Lib.hid hrow
  have HB := Lib.hid hb
  have HI := Lib.hid (hI.below hb)
  clear hrow hb hg hI
  go_wp2
  go_loopw [6, 7] (fun s i wr => ∃ k : Nat, k ≤ n ∧ i = .int .i64 k ∧ s = .int .i64 (distTo L G k) ∧ ∃ m, wr = w1.drewN m) (fun _ i _ => n - (intOf i).toNat)
  case atStart => exact ⟨0, Nat.zero_le _, rfl, rfl, 0, rfl⟩
  case round =>
    obtain ⟨k, hk, rfl, rfl, m, rfl⟩ := hrel
    by_cases hlt : k < n
    · obtain ⟨ad, rfl, had, hc⟩ := HI.out k (by rw [HL.out]; exact hlt)
      have hc' : w1.cell? ⟨g, k, none⟩ = some (.int .i64 (G[k]?.getD 0)) := by
        have := HR.out.cell (i := k) (by rw [HG.out, HL.out]; exact hlt)
        simpa using this
      have hbd := distTo_bd L G k (by omega)
      have hpw := pow2_bd (k := k) (by omega)
      have hk0 : (0 : Int) ≤ (k : Int) := by omega
      have hk1 : (k : Int) < (n : Int) := by omega
      by_cases hne : L[k]?.getD 0 = G[k]?.getD 0
      · have ht : (L[k]?.getD 0 != G[k]?.getD 0) = false := by simpa using hne
        have HST : Hid (distTo L G (k + 1) = distTo L G k) := by unfold Hid; rw [distTo, if_pos hne, Int.add_zero]
        clear hne
        go_wp2_with fail
        go_quiet (fail)
        go_wp2
        go_roundw
        case rel => exact ⟨k + 1, by omega, by go_num, by rw [HST.out], by first | exact ⟨_, rfl⟩ | exact ⟨_, World.drewN_drewN _ _ _⟩⟩
        case measure => simp [intOf]; omega
      · have ht : (L[k]?.getD 0 != G[k]?.getD 0) = true := by simpa using hne
        have HST : Hid (distTo L G (k + 1) = distTo L G k + pow2 k) := by unfold Hid; rw [distTo, if_neg hne]
        clear hne
        have hsh := shl_pow (k := k) (by omega)
        generalize distTo L G k = s at *
        go_wp2_with fail
        go_quiet (fail)
        go_wp2
        clear hsh
        go_roundw
        case rel => exact ⟨k + 1, by omega, by go_num, by rw [HST.out], by first | exact ⟨_, rfl⟩ | exact ⟨_, World.drewN_drewN _ _ _⟩⟩
        case measure => simp [intOf]; omega
    · obtain rfl : k = n := by omega
      go_wp2
      go_ret
      exact ⟨rfl, belowDraws HB.out _⟩

set_option maxHeartbeats 1000000 in
theorem distanceToPeg_calls (A : Option Addr) (n c : Nat) (L : List Int) (a : Int) (w : World) (hL : L.length = n) (hn : n ≤ 8) (hI : Ints w A L) (hp : pegsOk L) (ha : 0 ≤ a ∧ a ≤ 2) :
    Calls Try.prog 32 #[.slice A n c, .int .i64 a] w fun e w' => e = .returned (.int .i64 (distP L a)) ∧ Below w.heap.size w w' := by
  have HL := Lib.hid hL
  have HG := Lib.hid (goalsL_len L a)
  clear hL
  have HDEF : distP L a = distTo L (goalsL L a) n := by unfold distP; rw [HL.out]
  rw [HDEF]
  clear HDEF
  obtain ⟨G, hG⟩ : ∃ G, goalsL L a = G := ⟨_, rfl⟩
  rw [hG]
  rw [hG] at HG
  have HGG := Lib.hid hG
  clear hG
  go_enter Try.func32, Try.ntmps32
  go_wp2_with fail
  refine (goalsOf_calls A n c L a _ HL.out hn hI hp ha).mono ?_
  rintro e w1 ⟨g, rfl, hg, hrow, hb⟩
  rw [HGG.out] at hrow
  have HR := Lib.hid hrow
  have HB := Lib.hid hb
  have HI := Lib.hid (hI.below hb)
  clear hrow hb hg hI
  go_wp2
  go_loopw [5, 6, 7, 12] (fun s _ _ i wr => ∃ k : Nat, k ≤ n ∧ i = .int .i64 k ∧ s = .int .i64 (distTo L G k) ∧ ∃ m, wr = w1.drewN m) (fun _ _ _ i _ => n - (intOf i).toNat)
  case atStart => exact ⟨0, Nat.zero_le _, rfl, rfl, 0, rfl⟩
  case round =>
    obtain ⟨k, hk, rfl, rfl, m, rfl⟩ := hrel
    by_cases hlt : k < n
    · obtain ⟨ad, rfl, had, hc⟩ := HI.out k (by rw [HL.out]; exact hlt)
      have hc' : w1.cell? ⟨g, k, none⟩ = some (.int .i64 (G[k]?.getD 0)) := by
        have := HR.out.cell (i := k) (by rw [HG.out, HL.out]; exact hlt)
        simpa using this
      have hbd := distTo_bd L G k (by omega)
      have hpw := pow2_bd (k := k) (by omega)
      have hk0 : (0 : Int) ≤ (k : Int) := by omega
      have hk1 : (k : Int) < (n : Int) := by omega
      by_cases hne : L[k]?.getD 0 = G[k]?.getD 0
      · have ht : (L[k]?.getD 0 != G[k]?.getD 0) = false := by simpa using hne
        have HST : Hid (distTo L G (k + 1) = distTo L G k) := by unfold Hid; rw [distTo, if_pos hne, Int.add_zero]
        clear hne
        go_wp2
        go_roundw
        case rel => exact ⟨k + 1, by omega, by go_num, by rw [HST.out], by first | exact ⟨_, rfl⟩ | exact ⟨_, World.drewN_drewN _ _ _⟩⟩
        case measure => simp [intOf]; omega
      · have ht : (L[k]?.getD 0 != G[k]?.getD 0) = true := by simpa using hne
        have HST : Hid (distTo L G (k + 1) = distTo L G k + pow2 k) := by unfold Hid; rw [distTo, if_neg hne]
        clear hne
        have hsh := shl_pow (k := k) (by omega)
        generalize distTo L G k = s at *
        go_wp2
        clear hsh
        go_roundw
        case rel => exact ⟨k + 1, by omega, by go_num, by rw [HST.out], by first | exact ⟨_, rfl⟩ | exact ⟨_, World.drewN_drewN _ _ _⟩⟩
        case measure => simp [intOf]; omega
    · obtain rfl : k = n := by omega
      go_wp2
      go_ret
      exact ⟨rfl, belowDraws HB.out _⟩

end Go.Proofs.Ytnbjnlgdolhlmaa

namespace Go.Proofs.Ytnbjnlgdolhlmaa
open Go.RowKit
open Go.RowKit (wrap64)
set_option linter.unusedVariables false

theorem Ints.take {w : World} {A : Option Addr} {L : List Int} (h : Ints w A L) (d : Nat) : Ints w A (L.take d) := by
  intro k hk
  have hk' : k < L.length := by simp at hk; omega
  obtain ⟨ad, h1, h2, h3⟩ := h k hk'
  refine ⟨ad, h1, h2, ?_⟩
  rw [h3, List.getD_eq_getElem?_getD, List.getD_eq_getElem?_getD, List.getElem?_take, if_pos (by simp at hk; omega)]

/-- Two boxes of a state each, laid one after the other. -/
theorem twoBoxes (w : World) (p q : Int) (A B : Option Addr) (n c m d t : Nat) :
    Box ((w.alloc (.cells #[.int .i64 p, .slice A n c] t)).alloc (.cells #[.int .i64 q, .slice B m d] t)) w.heap.size t #[.int .i64 p, .slice A n c] ∧
    Box ((w.alloc (.cells #[.int .i64 p, .slice A n c] t)).alloc (.cells #[.int .i64 q, .slice B m d] t)) (w.heap.size + 1) t #[.int .i64 q, .slice B m d] ∧
    Below w.heap.size w ((w.alloc (.cells #[.int .i64 p, .slice A n c] t)).alloc (.cells #[.int .i64 q, .slice B m d] t)) := by
  refine ⟨(Box.new _ _ _).alloc _, ?_, ((Below.refl _ _).alloc (Nat.le_refl _) _).alloc (by simp) _⟩
  have := Box.new (w.alloc (.cells #[.int .i64 p, .slice A n c] t)) t #[.int .i64 q, .slice B m d]
  rwa [World.size_alloc] at this

theorem grt_step_eq {L M : List Int} {k : Nat} (h : L[k]?.getD 0 = M[k]?.getD 0) : grt L M (k + 1) = grt L M k := by rw [grt, if_pos h]
theorem grt_step_ne {L M : List Int} {k : Nat} (h : L[k]?.getD 0 ≠ M[k]?.getD 0) : grt L M (k + 1) = k := by rw [grt, if_neg h]

/-- The same shift, as a region that draws its order writes it. -/
theorem shl_drawn {k : Nat} (hk : k < 9) : IntKind.i64.wrap (2 ^ min (IntKind.u64.wrap (k : Int)).toNat 64) = pow2 k := by
  have e : IntKind.u64.wrap (k : Int) = k := IntWalk.u64_in _ (by omega)
  have e2 : min k 64 = k := by omega
  have e3 : (2 : Int) ^ k = pow2 k := by unfold pow2; simp
  have hb := pow2_bd (k := k) (by omega)
  rw [e, Int.toNat_natCast, e2, e3]
  exact IntWalk.i64_in _ (by omega)

/-- What is known of the pegs of the greatest disc that differs. -/
theorem carry_facts {L M : List Int} {n D : Nat} (hp : pegsOk L) (hq : pegsOk M) (hL : L.length = n) (hM : M.length = n) (hg : grt L M n = D) :
    D < n ∧ 0 ≤ L[D]?.getD 0 ∧ L[D]?.getD 0 ≤ 2 ∧ 0 ≤ M[D]?.getD 0 ∧ M[D]?.getD 0 ≤ 2 ∧ L[D]?.getD 0 ≠ M[D]?.getD 0 := by
  have h1 := (grt_bd L M n).2
  have h2 := grt_ne L M n D hg
  have h3 := pegsOk_at hp (d := D) (by omega)
  have h4 := pegsOk_at hq (d := D) (by omega)
  exact ⟨by omega, h3.1, h3.2, h4.1, h4.2, h2⟩

end Go.Proofs.Ytnbjnlgdolhlmaa
