/- Contracts: the numbers of both ways, of the specification. -/
import Derived.Test.YtbcgoboeeigcgaaRuNumI
namespace Go.Proofs.Ytbcgoboeeigcgaa
open Go.RowKit
set_option linter.unusedVariables false

/-- A table in memory: three lists of three numbers. -/
def TabI (w : World) (A : Option Addr) (c : Nat → Int) : Prop :=
  ∃ g, A = some ⟨g, 0, none⟩ ∧ g < w.heap.size ∧ ∀ i, i < 3 → ∃ b, b < w.heap.size ∧ w.cell? ⟨g, i, none⟩ = some (.slice (some ⟨b, 0, none⟩) 3 3) ∧ ∀ j, j < 3 → w.cell? ⟨b, j, none⟩ = some (.int .i64 (c (i * 3 + j)))
theorem TabI.below {w w' : World} {A : Option Addr} {c : Nat → Int} (h : TabI w A c) (hb : Below w.heap.size w w') : TabI w' A c := by
  obtain ⟨g, hA, hg, h⟩ := h
  refine ⟨g, hA, Nat.lt_of_lt_of_le hg hb.size, fun i hi => ?_⟩
  obtain ⟨b, hb2, h1, h2⟩ := h i hi
  exact ⟨b, Nat.lt_of_lt_of_le hb2 hb.size, (hb.cell (p := ⟨g, i, none⟩) hg).trans h1, fun j hj => (hb.cell (p := ⟨b, j, none⟩) hb2).trans (h2 j hj)⟩
def bOne (a : Int → Int → Bool) (c : Nat → Int) (i j : Int) : Int := if a i j = true then c (ixP i (3 - i - j)) + 1 + c (ixP (3 - i - j) j) else -1
def bTwo (a : Int → Int → Bool) (c : Nat → Int) (i j : Int) : Int := if (a i (3 - i - j) && a (3 - i - j) j) = true then 2 * c (ixP i j) + c (ixP j i) + 2 else -1

set_option maxRecDepth 100000 in
set_option maxHeartbeats 4000000 in
theorem l07Both_01 (r c : Nat → Int) (A : Option Addr) (n' : Nat) (w : World) (hT : TabI w A c) (hc : ∀ k, 0 ≤ c k ∧ c k ≤ 1000000) :
    Calls Try.prog 39 #[.agg (z9 r), .slice A 3 n', .int .i64 0, .int .i64 1] w fun e w' => e = .returned (.tuple #[.int .i64 (bOne (alR r) c 0 1), .int .i64 (bTwo (alR r) c 0 1)]) ∧ Below w.heap.size w w' := by
  have X0 := Box.new w 27 (z9 r)
  obtain ⟨x0, x1, x2, x3, x4, x5, x6, x7, x8⟩ := X0.nine
  have HB0 := Lib.hid ((Below.refl w.heap.size w).alloc (Nat.le_refl _) (.cells (z9 r) 27))
  obtain ⟨g, rfl, hg, hT⟩ := hT.below HB0.out
  obtain ⟨q0, _, y0, hc0⟩ := hT 0 (by omega)
  obtain ⟨q1, _, y1, hc1⟩ := hT 1 (by omega)
  obtain ⟨q2, _, y2, hc2⟩ := hT 2 (by omega)
  have m02 := hc0 2 (by omega)
  have m21 := hc2 1 (by omega)
  have m01 := hc0 1 (by omega)
  have m10 := hc1 0 (by omega)
  have b1 := hc (0 * 3 + 2)
  have b2 := hc (2 * 3 + 1)
  have b3 := hc (0 * 3 + 1)
  have b4 := hc (1 * 3 + 0)
  obtain ⟨v1, h1⟩ : ∃ b, (r 1 == 1) = b := ⟨_, rfl⟩
  obtain ⟨v2, h2⟩ : ∃ b, (r 2 == 1) = b := ⟨_, rfl⟩
  obtain ⟨v3, h3⟩ : ∃ b, (r 7 == 1) = b := ⟨_, rfl⟩
  have H1 : Hid (alR r 0 1 = v1) := h1
  have H2 : Hid (alR r 0 2 = v2) := h2
  have H3 : Hid (alR r 2 1 = v3) := h3
  clear X0 hT hc0 hc1 hc2 hc
  simp only [Nat.zero_mul, Nat.one_mul, Nat.reduceMul, Nat.reduceAdd, Nat.zero_add] at m02 m21 m01 m10 b1 b2 b3 b4
  cases v1 <;> cases v2 <;> cases v3
  · go_enter Try.func39, Try.ntmps39
    go_wp2
    go_returns
    exact ⟨ret_intsT (by unfold bOne; rw [H1.out]; rfl) (by unfold bTwo; rw [show (3 : Int) - 0 - 1 = 2 from rfl, H2.out, H3.out]; rfl), HB0.out⟩
  · go_enter Try.func39, Try.ntmps39
    go_wp2
    go_returns
    exact ⟨ret_intsT (by unfold bOne; rw [H1.out]; rfl) (by unfold bTwo; rw [show (3 : Int) - 0 - 1 = 2 from rfl, H2.out, H3.out]; rfl), HB0.out⟩
  · go_enter Try.func39, Try.ntmps39
    go_wp2
    go_returns
    exact ⟨ret_intsT (by unfold bOne; rw [H1.out]; rfl) (by unfold bTwo; rw [show (3 : Int) - 0 - 1 = 2 from rfl, H2.out, H3.out]; rfl), HB0.out⟩
  · go_enter Try.func39, Try.ntmps39
    go_wp2_with fail
    go_quiet (fail)
    go_wp2
    go_returns
    exact ⟨ret_intsT (by unfold bOne; rw [H1.out]; rfl) (by unfold bTwo; rw [show (3 : Int) - 0 - 1 = 2 from rfl, H2.out, H3.out]; rfl), (belowDraws HB0.out _)⟩
  · go_enter Try.func39, Try.ntmps39
    go_wp2_with fail
    go_quiet (fail)
    go_wp2
    go_returns
    exact ⟨ret_intsT (by unfold bOne; rw [H1.out]; rfl) (by unfold bTwo; rw [show (3 : Int) - 0 - 1 = 2 from rfl, H2.out, H3.out]; rfl), (belowDraws HB0.out _)⟩
  · go_enter Try.func39, Try.ntmps39
    go_wp2_with fail
    go_quiet (fail)
    go_wp2
    go_returns
    exact ⟨ret_intsT (by unfold bOne; rw [H1.out]; rfl) (by unfold bTwo; rw [show (3 : Int) - 0 - 1 = 2 from rfl, H2.out, H3.out]; rfl), (belowDraws HB0.out _)⟩
  · go_enter Try.func39, Try.ntmps39
    go_wp2_with fail
    go_quiet (fail)
    go_wp2
    go_returns
    exact ⟨ret_intsT (by unfold bOne; rw [H1.out]; rfl) (by unfold bTwo; rw [show (3 : Int) - 0 - 1 = 2 from rfl, H2.out, H3.out]; rfl), (belowDraws HB0.out _)⟩
  · go_enter Try.func39, Try.ntmps39
    go_wp2_with fail
    go_quiet (fail)
    go_wp2_with fail
    go_quiet (fail)
    go_wp2
    go_returns
    exact ⟨ret_intsT (by unfold bOne; rw [H1.out]; rfl) (by unfold bTwo; rw [show (3 : Int) - 0 - 1 = 2 from rfl, H2.out, H3.out]; rfl), (by first | exact belowDraws HB0.out _ | exact belowDraws (belowDraws HB0.out _) _)⟩

set_option maxRecDepth 100000 in
set_option maxHeartbeats 4000000 in
theorem l07Both_02 (r c : Nat → Int) (A : Option Addr) (n' : Nat) (w : World) (hT : TabI w A c) (hc : ∀ k, 0 ≤ c k ∧ c k ≤ 1000000) :
    Calls Try.prog 39 #[.agg (z9 r), .slice A 3 n', .int .i64 0, .int .i64 2] w fun e w' => e = .returned (.tuple #[.int .i64 (bOne (alR r) c 0 2), .int .i64 (bTwo (alR r) c 0 2)]) ∧ Below w.heap.size w w' := by
  have X0 := Box.new w 27 (z9 r)
  obtain ⟨x0, x1, x2, x3, x4, x5, x6, x7, x8⟩ := X0.nine
  have HB0 := Lib.hid ((Below.refl w.heap.size w).alloc (Nat.le_refl _) (.cells (z9 r) 27))
  obtain ⟨g, rfl, hg, hT⟩ := hT.below HB0.out
  obtain ⟨q0, _, y0, hc0⟩ := hT 0 (by omega)
  obtain ⟨q1, _, y1, hc1⟩ := hT 1 (by omega)
  obtain ⟨q2, _, y2, hc2⟩ := hT 2 (by omega)
  have m01 := hc0 1 (by omega)
  have m12 := hc1 2 (by omega)
  have m02 := hc0 2 (by omega)
  have m20 := hc2 0 (by omega)
  have b1 := hc (0 * 3 + 1)
  have b2 := hc (1 * 3 + 2)
  have b3 := hc (0 * 3 + 2)
  have b4 := hc (2 * 3 + 0)
  obtain ⟨v1, h1⟩ : ∃ b, (r 2 == 1) = b := ⟨_, rfl⟩
  obtain ⟨v2, h2⟩ : ∃ b, (r 1 == 1) = b := ⟨_, rfl⟩
  obtain ⟨v3, h3⟩ : ∃ b, (r 5 == 1) = b := ⟨_, rfl⟩
  have H1 : Hid (alR r 0 2 = v1) := h1
  have H2 : Hid (alR r 0 1 = v2) := h2
  have H3 : Hid (alR r 1 2 = v3) := h3
  clear X0 hT hc0 hc1 hc2 hc
  simp only [Nat.zero_mul, Nat.one_mul, Nat.reduceMul, Nat.reduceAdd, Nat.zero_add] at m01 m12 m02 m20 b1 b2 b3 b4
  cases v1 <;> cases v2 <;> cases v3
  · go_enter Try.func39, Try.ntmps39
    go_wp2
    go_returns
    exact ⟨ret_intsT (by unfold bOne; rw [H1.out]; rfl) (by unfold bTwo; rw [show (3 : Int) - 0 - 2 = 1 from rfl, H2.out, H3.out]; rfl), HB0.out⟩
  · go_enter Try.func39, Try.ntmps39
    go_wp2
    go_returns
    exact ⟨ret_intsT (by unfold bOne; rw [H1.out]; rfl) (by unfold bTwo; rw [show (3 : Int) - 0 - 2 = 1 from rfl, H2.out, H3.out]; rfl), HB0.out⟩
  · go_enter Try.func39, Try.ntmps39
    go_wp2
    go_returns
    exact ⟨ret_intsT (by unfold bOne; rw [H1.out]; rfl) (by unfold bTwo; rw [show (3 : Int) - 0 - 2 = 1 from rfl, H2.out, H3.out]; rfl), HB0.out⟩
  · go_enter Try.func39, Try.ntmps39
    go_wp2_with fail
    go_quiet (fail)
    go_wp2
    go_returns
    exact ⟨ret_intsT (by unfold bOne; rw [H1.out]; rfl) (by unfold bTwo; rw [show (3 : Int) - 0 - 2 = 1 from rfl, H2.out, H3.out]; rfl), (belowDraws HB0.out _)⟩
  · go_enter Try.func39, Try.ntmps39
    go_wp2_with fail
    go_quiet (fail)
    go_wp2
    go_returns
    exact ⟨ret_intsT (by unfold bOne; rw [H1.out]; rfl) (by unfold bTwo; rw [show (3 : Int) - 0 - 2 = 1 from rfl, H2.out, H3.out]; rfl), (belowDraws HB0.out _)⟩
  · go_enter Try.func39, Try.ntmps39
    go_wp2_with fail
    go_quiet (fail)
    go_wp2
    go_returns
    exact ⟨ret_intsT (by unfold bOne; rw [H1.out]; rfl) (by unfold bTwo; rw [show (3 : Int) - 0 - 2 = 1 from rfl, H2.out, H3.out]; rfl), (belowDraws HB0.out _)⟩
  · go_enter Try.func39, Try.ntmps39
    go_wp2_with fail
    go_quiet (fail)
    go_wp2
    go_returns
    exact ⟨ret_intsT (by unfold bOne; rw [H1.out]; rfl) (by unfold bTwo; rw [show (3 : Int) - 0 - 2 = 1 from rfl, H2.out, H3.out]; rfl), (belowDraws HB0.out _)⟩
  · go_enter Try.func39, Try.ntmps39
    go_wp2_with fail
    go_quiet (fail)
    go_wp2_with fail
    go_quiet (fail)
    go_wp2
    go_returns
    exact ⟨ret_intsT (by unfold bOne; rw [H1.out]; rfl) (by unfold bTwo; rw [show (3 : Int) - 0 - 2 = 1 from rfl, H2.out, H3.out]; rfl), (by first | exact belowDraws HB0.out _ | exact belowDraws (belowDraws HB0.out _) _)⟩

set_option maxRecDepth 100000 in
set_option maxHeartbeats 4000000 in
theorem l07Both_10 (r c : Nat → Int) (A : Option Addr) (n' : Nat) (w : World) (hT : TabI w A c) (hc : ∀ k, 0 ≤ c k ∧ c k ≤ 1000000) :
    Calls Try.prog 39 #[.agg (z9 r), .slice A 3 n', .int .i64 1, .int .i64 0] w fun e w' => e = .returned (.tuple #[.int .i64 (bOne (alR r) c 1 0), .int .i64 (bTwo (alR r) c 1 0)]) ∧ Below w.heap.size w w' := by
  have X0 := Box.new w 27 (z9 r)
  obtain ⟨x0, x1, x2, x3, x4, x5, x6, x7, x8⟩ := X0.nine
  have HB0 := Lib.hid ((Below.refl w.heap.size w).alloc (Nat.le_refl _) (.cells (z9 r) 27))
  obtain ⟨g, rfl, hg, hT⟩ := hT.below HB0.out
  obtain ⟨q0, _, y0, hc0⟩ := hT 0 (by omega)
  obtain ⟨q1, _, y1, hc1⟩ := hT 1 (by omega)
  obtain ⟨q2, _, y2, hc2⟩ := hT 2 (by omega)
  have m12 := hc1 2 (by omega)
  have m20 := hc2 0 (by omega)
  have m10 := hc1 0 (by omega)
  have m01 := hc0 1 (by omega)
  have b1 := hc (1 * 3 + 2)
  have b2 := hc (2 * 3 + 0)
  have b3 := hc (1 * 3 + 0)
  have b4 := hc (0 * 3 + 1)
  obtain ⟨v1, h1⟩ : ∃ b, (r 3 == 1) = b := ⟨_, rfl⟩
  obtain ⟨v2, h2⟩ : ∃ b, (r 5 == 1) = b := ⟨_, rfl⟩
  obtain ⟨v3, h3⟩ : ∃ b, (r 6 == 1) = b := ⟨_, rfl⟩
  have H1 : Hid (alR r 1 0 = v1) := h1
  have H2 : Hid (alR r 1 2 = v2) := h2
  have H3 : Hid (alR r 2 0 = v3) := h3
  clear X0 hT hc0 hc1 hc2 hc
  simp only [Nat.zero_mul, Nat.one_mul, Nat.reduceMul, Nat.reduceAdd, Nat.zero_add] at m12 m20 m10 m01 b1 b2 b3 b4
  cases v1 <;> cases v2 <;> cases v3
  · go_enter Try.func39, Try.ntmps39
    go_wp2
    go_returns
    exact ⟨ret_intsT (by unfold bOne; rw [H1.out]; rfl) (by unfold bTwo; rw [show (3 : Int) - 1 - 0 = 2 from rfl, H2.out, H3.out]; rfl), HB0.out⟩
  · go_enter Try.func39, Try.ntmps39
    go_wp2
    go_returns
    exact ⟨ret_intsT (by unfold bOne; rw [H1.out]; rfl) (by unfold bTwo; rw [show (3 : Int) - 1 - 0 = 2 from rfl, H2.out, H3.out]; rfl), HB0.out⟩
  · go_enter Try.func39, Try.ntmps39
    go_wp2
    go_returns
    exact ⟨ret_intsT (by unfold bOne; rw [H1.out]; rfl) (by unfold bTwo; rw [show (3 : Int) - 1 - 0 = 2 from rfl, H2.out, H3.out]; rfl), HB0.out⟩
  · go_enter Try.func39, Try.ntmps39
    go_wp2_with fail
    go_quiet (fail)
    go_wp2
    go_returns
    exact ⟨ret_intsT (by unfold bOne; rw [H1.out]; rfl) (by unfold bTwo; rw [show (3 : Int) - 1 - 0 = 2 from rfl, H2.out, H3.out]; rfl), (belowDraws HB0.out _)⟩
  · go_enter Try.func39, Try.ntmps39
    go_wp2_with fail
    go_quiet (fail)
    go_wp2
    go_returns
    exact ⟨ret_intsT (by unfold bOne; rw [H1.out]; rfl) (by unfold bTwo; rw [show (3 : Int) - 1 - 0 = 2 from rfl, H2.out, H3.out]; rfl), (belowDraws HB0.out _)⟩
  · go_enter Try.func39, Try.ntmps39
    go_wp2_with fail
    go_quiet (fail)
    go_wp2
    go_returns
    exact ⟨ret_intsT (by unfold bOne; rw [H1.out]; rfl) (by unfold bTwo; rw [show (3 : Int) - 1 - 0 = 2 from rfl, H2.out, H3.out]; rfl), (belowDraws HB0.out _)⟩
  · go_enter Try.func39, Try.ntmps39
    go_wp2_with fail
    go_quiet (fail)
    go_wp2
    go_returns
    exact ⟨ret_intsT (by unfold bOne; rw [H1.out]; rfl) (by unfold bTwo; rw [show (3 : Int) - 1 - 0 = 2 from rfl, H2.out, H3.out]; rfl), (belowDraws HB0.out _)⟩
  · go_enter Try.func39, Try.ntmps39
    go_wp2_with fail
    go_quiet (fail)
    go_wp2_with fail
    go_quiet (fail)
    go_wp2
    go_returns
    exact ⟨ret_intsT (by unfold bOne; rw [H1.out]; rfl) (by unfold bTwo; rw [show (3 : Int) - 1 - 0 = 2 from rfl, H2.out, H3.out]; rfl), (by first | exact belowDraws HB0.out _ | exact belowDraws (belowDraws HB0.out _) _)⟩

set_option maxRecDepth 100000 in
set_option maxHeartbeats 4000000 in
theorem l07Both_12 (r c : Nat → Int) (A : Option Addr) (n' : Nat) (w : World) (hT : TabI w A c) (hc : ∀ k, 0 ≤ c k ∧ c k ≤ 1000000) :
    Calls Try.prog 39 #[.agg (z9 r), .slice A 3 n', .int .i64 1, .int .i64 2] w fun e w' => e = .returned (.tuple #[.int .i64 (bOne (alR r) c 1 2), .int .i64 (bTwo (alR r) c 1 2)]) ∧ Below w.heap.size w w' := by
  have X0 := Box.new w 27 (z9 r)
  obtain ⟨x0, x1, x2, x3, x4, x5, x6, x7, x8⟩ := X0.nine
  have HB0 := Lib.hid ((Below.refl w.heap.size w).alloc (Nat.le_refl _) (.cells (z9 r) 27))
  obtain ⟨g, rfl, hg, hT⟩ := hT.below HB0.out
  obtain ⟨q0, _, y0, hc0⟩ := hT 0 (by omega)
  obtain ⟨q1, _, y1, hc1⟩ := hT 1 (by omega)
  obtain ⟨q2, _, y2, hc2⟩ := hT 2 (by omega)
  have m10 := hc1 0 (by omega)
  have m02 := hc0 2 (by omega)
  have m12 := hc1 2 (by omega)
  have m21 := hc2 1 (by omega)
  have b1 := hc (1 * 3 + 0)
  have b2 := hc (0 * 3 + 2)
  have b3 := hc (1 * 3 + 2)
  have b4 := hc (2 * 3 + 1)
  obtain ⟨v1, h1⟩ : ∃ b, (r 5 == 1) = b := ⟨_, rfl⟩
  obtain ⟨v2, h2⟩ : ∃ b, (r 3 == 1) = b := ⟨_, rfl⟩
  obtain ⟨v3, h3⟩ : ∃ b, (r 2 == 1) = b := ⟨_, rfl⟩
  have H1 : Hid (alR r 1 2 = v1) := h1
  have H2 : Hid (alR r 1 0 = v2) := h2
  have H3 : Hid (alR r 0 2 = v3) := h3
  clear X0 hT hc0 hc1 hc2 hc
  simp only [Nat.zero_mul, Nat.one_mul, Nat.reduceMul, Nat.reduceAdd, Nat.zero_add] at m10 m02 m12 m21 b1 b2 b3 b4
  cases v1 <;> cases v2 <;> cases v3
  · go_enter Try.func39, Try.ntmps39
    go_wp2
    go_returns
    exact ⟨ret_intsT (by unfold bOne; rw [H1.out]; rfl) (by unfold bTwo; rw [show (3 : Int) - 1 - 2 = 0 from rfl, H2.out, H3.out]; rfl), HB0.out⟩
  · go_enter Try.func39, Try.ntmps39
    go_wp2
    go_returns
    exact ⟨ret_intsT (by unfold bOne; rw [H1.out]; rfl) (by unfold bTwo; rw [show (3 : Int) - 1 - 2 = 0 from rfl, H2.out, H3.out]; rfl), HB0.out⟩
  · go_enter Try.func39, Try.ntmps39
    go_wp2
    go_returns
    exact ⟨ret_intsT (by unfold bOne; rw [H1.out]; rfl) (by unfold bTwo; rw [show (3 : Int) - 1 - 2 = 0 from rfl, H2.out, H3.out]; rfl), HB0.out⟩
  · go_enter Try.func39, Try.ntmps39
    go_wp2_with fail
    go_quiet (fail)
    go_wp2
    go_returns
    exact ⟨ret_intsT (by unfold bOne; rw [H1.out]; rfl) (by unfold bTwo; rw [show (3 : Int) - 1 - 2 = 0 from rfl, H2.out, H3.out]; rfl), (belowDraws HB0.out _)⟩
  · go_enter Try.func39, Try.ntmps39
    go_wp2_with fail
    go_quiet (fail)
    go_wp2
    go_returns
    exact ⟨ret_intsT (by unfold bOne; rw [H1.out]; rfl) (by unfold bTwo; rw [show (3 : Int) - 1 - 2 = 0 from rfl, H2.out, H3.out]; rfl), (belowDraws HB0.out _)⟩
  · go_enter Try.func39, Try.ntmps39
    go_wp2_with fail
    go_quiet (fail)
    go_wp2
    go_returns
    exact ⟨ret_intsT (by unfold bOne; rw [H1.out]; rfl) (by unfold bTwo; rw [show (3 : Int) - 1 - 2 = 0 from rfl, H2.out, H3.out]; rfl), (belowDraws HB0.out _)⟩
  · go_enter Try.func39, Try.ntmps39
    go_wp2_with fail
    go_quiet (fail)
    go_wp2
    go_returns
    exact ⟨ret_intsT (by unfold bOne; rw [H1.out]; rfl) (by unfold bTwo; rw [show (3 : Int) - 1 - 2 = 0 from rfl, H2.out, H3.out]; rfl), (belowDraws HB0.out _)⟩
  · go_enter Try.func39, Try.ntmps39
    go_wp2_with fail
    go_quiet (fail)
    go_wp2_with fail
    go_quiet (fail)
    go_wp2
    go_returns
    exact ⟨ret_intsT (by unfold bOne; rw [H1.out]; rfl) (by unfold bTwo; rw [show (3 : Int) - 1 - 2 = 0 from rfl, H2.out, H3.out]; rfl), (by first | exact belowDraws HB0.out _ | exact belowDraws (belowDraws HB0.out _) _)⟩

set_option maxRecDepth 100000 in
set_option maxHeartbeats 4000000 in
theorem l07Both_20 (r c : Nat → Int) (A : Option Addr) (n' : Nat) (w : World) (hT : TabI w A c) (hc : ∀ k, 0 ≤ c k ∧ c k ≤ 1000000) :
    Calls Try.prog 39 #[.agg (z9 r), .slice A 3 n', .int .i64 2, .int .i64 0] w fun e w' => e = .returned (.tuple #[.int .i64 (bOne (alR r) c 2 0), .int .i64 (bTwo (alR r) c 2 0)]) ∧ Below w.heap.size w w' := by
  have X0 := Box.new w 27 (z9 r)
  obtain ⟨x0, x1, x2, x3, x4, x5, x6, x7, x8⟩ := X0.nine
  have HB0 := Lib.hid ((Below.refl w.heap.size w).alloc (Nat.le_refl _) (.cells (z9 r) 27))
  obtain ⟨g, rfl, hg, hT⟩ := hT.below HB0.out
  obtain ⟨q0, _, y0, hc0⟩ := hT 0 (by omega)
  obtain ⟨q1, _, y1, hc1⟩ := hT 1 (by omega)
  obtain ⟨q2, _, y2, hc2⟩ := hT 2 (by omega)
  have m21 := hc2 1 (by omega)
  have m10 := hc1 0 (by omega)
  have m20 := hc2 0 (by omega)
  have m02 := hc0 2 (by omega)
  have b1 := hc (2 * 3 + 1)
  have b2 := hc (1 * 3 + 0)
  have b3 := hc (2 * 3 + 0)
  have b4 := hc (0 * 3 + 2)
  obtain ⟨v1, h1⟩ : ∃ b, (r 6 == 1) = b := ⟨_, rfl⟩
  obtain ⟨v2, h2⟩ : ∃ b, (r 7 == 1) = b := ⟨_, rfl⟩
  obtain ⟨v3, h3⟩ : ∃ b, (r 3 == 1) = b := ⟨_, rfl⟩
  have H1 : Hid (alR r 2 0 = v1) := h1
  have H2 : Hid (alR r 2 1 = v2) := h2
  have H3 : Hid (alR r 1 0 = v3) := h3
  clear X0 hT hc0 hc1 hc2 hc
  simp only [Nat.zero_mul, Nat.one_mul, Nat.reduceMul, Nat.reduceAdd, Nat.zero_add] at m21 m10 m20 m02 b1 b2 b3 b4
  cases v1 <;> cases v2 <;> cases v3
  · go_enter Try.func39, Try.ntmps39
    go_wp2
    go_returns
    exact ⟨ret_intsT (by unfold bOne; rw [H1.out]; rfl) (by unfold bTwo; rw [show (3 : Int) - 2 - 0 = 1 from rfl, H2.out, H3.out]; rfl), HB0.out⟩
  · go_enter Try.func39, Try.ntmps39
    go_wp2
    go_returns
    exact ⟨ret_intsT (by unfold bOne; rw [H1.out]; rfl) (by unfold bTwo; rw [show (3 : Int) - 2 - 0 = 1 from rfl, H2.out, H3.out]; rfl), HB0.out⟩
  · go_enter Try.func39, Try.ntmps39
    go_wp2
    go_returns
    exact ⟨ret_intsT (by unfold bOne; rw [H1.out]; rfl) (by unfold bTwo; rw [show (3 : Int) - 2 - 0 = 1 from rfl, H2.out, H3.out]; rfl), HB0.out⟩
  · go_enter Try.func39, Try.ntmps39
    go_wp2_with fail
    go_quiet (fail)
    go_wp2
    go_returns
    exact ⟨ret_intsT (by unfold bOne; rw [H1.out]; rfl) (by unfold bTwo; rw [show (3 : Int) - 2 - 0 = 1 from rfl, H2.out, H3.out]; rfl), (belowDraws HB0.out _)⟩
  · go_enter Try.func39, Try.ntmps39
    go_wp2_with fail
    go_quiet (fail)
    go_wp2
    go_returns
    exact ⟨ret_intsT (by unfold bOne; rw [H1.out]; rfl) (by unfold bTwo; rw [show (3 : Int) - 2 - 0 = 1 from rfl, H2.out, H3.out]; rfl), (belowDraws HB0.out _)⟩
  · go_enter Try.func39, Try.ntmps39
    go_wp2_with fail
    go_quiet (fail)
    go_wp2
    go_returns
    exact ⟨ret_intsT (by unfold bOne; rw [H1.out]; rfl) (by unfold bTwo; rw [show (3 : Int) - 2 - 0 = 1 from rfl, H2.out, H3.out]; rfl), (belowDraws HB0.out _)⟩
  · go_enter Try.func39, Try.ntmps39
    go_wp2_with fail
    go_quiet (fail)
    go_wp2
    go_returns
    exact ⟨ret_intsT (by unfold bOne; rw [H1.out]; rfl) (by unfold bTwo; rw [show (3 : Int) - 2 - 0 = 1 from rfl, H2.out, H3.out]; rfl), (belowDraws HB0.out _)⟩
  · go_enter Try.func39, Try.ntmps39
    go_wp2_with fail
    go_quiet (fail)
    go_wp2_with fail
    go_quiet (fail)
    go_wp2
    go_returns
    exact ⟨ret_intsT (by unfold bOne; rw [H1.out]; rfl) (by unfold bTwo; rw [show (3 : Int) - 2 - 0 = 1 from rfl, H2.out, H3.out]; rfl), (by first | exact belowDraws HB0.out _ | exact belowDraws (belowDraws HB0.out _) _)⟩

set_option maxRecDepth 100000 in
set_option maxHeartbeats 4000000 in
theorem l07Both_21 (r c : Nat → Int) (A : Option Addr) (n' : Nat) (w : World) (hT : TabI w A c) (hc : ∀ k, 0 ≤ c k ∧ c k ≤ 1000000) :
    Calls Try.prog 39 #[.agg (z9 r), .slice A 3 n', .int .i64 2, .int .i64 1] w fun e w' => e = .returned (.tuple #[.int .i64 (bOne (alR r) c 2 1), .int .i64 (bTwo (alR r) c 2 1)]) ∧ Below w.heap.size w w' := by
  have X0 := Box.new w 27 (z9 r)
  obtain ⟨x0, x1, x2, x3, x4, x5, x6, x7, x8⟩ := X0.nine
  have HB0 := Lib.hid ((Below.refl w.heap.size w).alloc (Nat.le_refl _) (.cells (z9 r) 27))
  obtain ⟨g, rfl, hg, hT⟩ := hT.below HB0.out
  obtain ⟨q0, _, y0, hc0⟩ := hT 0 (by omega)
  obtain ⟨q1, _, y1, hc1⟩ := hT 1 (by omega)
  obtain ⟨q2, _, y2, hc2⟩ := hT 2 (by omega)
  have m20 := hc2 0 (by omega)
  have m01 := hc0 1 (by omega)
  have m21 := hc2 1 (by omega)
  have m12 := hc1 2 (by omega)
  have b1 := hc (2 * 3 + 0)
  have b2 := hc (0 * 3 + 1)
  have b3 := hc (2 * 3 + 1)
  have b4 := hc (1 * 3 + 2)
  obtain ⟨v1, h1⟩ : ∃ b, (r 7 == 1) = b := ⟨_, rfl⟩
  obtain ⟨v2, h2⟩ : ∃ b, (r 6 == 1) = b := ⟨_, rfl⟩
  obtain ⟨v3, h3⟩ : ∃ b, (r 1 == 1) = b := ⟨_, rfl⟩
  have H1 : Hid (alR r 2 1 = v1) := h1
  have H2 : Hid (alR r 2 0 = v2) := h2
  have H3 : Hid (alR r 0 1 = v3) := h3
  clear X0 hT hc0 hc1 hc2 hc
  simp only [Nat.zero_mul, Nat.one_mul, Nat.reduceMul, Nat.reduceAdd, Nat.zero_add] at m20 m01 m21 m12 b1 b2 b3 b4
  cases v1 <;> cases v2 <;> cases v3
  · go_enter Try.func39, Try.ntmps39
    go_wp2
    go_returns
    exact ⟨ret_intsT (by unfold bOne; rw [H1.out]; rfl) (by unfold bTwo; rw [show (3 : Int) - 2 - 1 = 0 from rfl, H2.out, H3.out]; rfl), HB0.out⟩
  · go_enter Try.func39, Try.ntmps39
    go_wp2
    go_returns
    exact ⟨ret_intsT (by unfold bOne; rw [H1.out]; rfl) (by unfold bTwo; rw [show (3 : Int) - 2 - 1 = 0 from rfl, H2.out, H3.out]; rfl), HB0.out⟩
  · go_enter Try.func39, Try.ntmps39
    go_wp2
    go_returns
    exact ⟨ret_intsT (by unfold bOne; rw [H1.out]; rfl) (by unfold bTwo; rw [show (3 : Int) - 2 - 1 = 0 from rfl, H2.out, H3.out]; rfl), HB0.out⟩
  · go_enter Try.func39, Try.ntmps39
    go_wp2_with fail
    go_quiet (fail)
    go_wp2
    go_returns
    exact ⟨ret_intsT (by unfold bOne; rw [H1.out]; rfl) (by unfold bTwo; rw [show (3 : Int) - 2 - 1 = 0 from rfl, H2.out, H3.out]; rfl), (belowDraws HB0.out _)⟩
  · go_enter Try.func39, Try.ntmps39
    go_wp2_with fail
    go_quiet (fail)
    go_wp2
    go_returns
    exact ⟨ret_intsT (by unfold bOne; rw [H1.out]; rfl) (by unfold bTwo; rw [show (3 : Int) - 2 - 1 = 0 from rfl, H2.out, H3.out]; rfl), (belowDraws HB0.out _)⟩
  · go_enter Try.func39, Try.ntmps39
    go_wp2_with fail
    go_quiet (fail)
    go_wp2
    go_returns
    exact ⟨ret_intsT (by unfold bOne; rw [H1.out]; rfl) (by unfold bTwo; rw [show (3 : Int) - 2 - 1 = 0 from rfl, H2.out, H3.out]; rfl), (belowDraws HB0.out _)⟩
  · go_enter Try.func39, Try.ntmps39
    go_wp2_with fail
    go_quiet (fail)
    go_wp2
    go_returns
    exact ⟨ret_intsT (by unfold bOne; rw [H1.out]; rfl) (by unfold bTwo; rw [show (3 : Int) - 2 - 1 = 0 from rfl, H2.out, H3.out]; rfl), (belowDraws HB0.out _)⟩
  · go_enter Try.func39, Try.ntmps39
    go_wp2_with fail
    go_quiet (fail)
    go_wp2_with fail
    go_quiet (fail)
    go_wp2
    go_returns
    exact ⟨ret_intsT (by unfold bOne; rw [H1.out]; rfl) (by unfold bTwo; rw [show (3 : Int) - 2 - 1 = 0 from rfl, H2.out, H3.out]; rfl), (by first | exact belowDraws HB0.out _ | exact belowDraws (belowDraws HB0.out _) _)⟩

end Go.Proofs.Ytbcgoboeeigcgaa
