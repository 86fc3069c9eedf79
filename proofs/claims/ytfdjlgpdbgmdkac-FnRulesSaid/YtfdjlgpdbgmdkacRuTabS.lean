/- Contracts: the tables of the specification. -/
import Derived.Test.YtfdjlgpdbgmdkacRuNumI
import Derived.Test.YtfdjlgpdbgmdkacOwnG
namespace Go.Proofs.Ytfdjlgpdbgmdkac
open Go.RowKit
set_option linter.unusedVariables false

/-- A table in memory: three lists of three numbers. -/
def TabI (w : World) (A : Option Addr) (c : Nat → Int) : Prop :=
  ∃ g, A = some ⟨g, 0, none⟩ ∧ g < w.heap.size ∧ ∀ i, i < 3 → ∃ b, b < w.heap.size ∧ w.cell? ⟨g, i, none⟩ = some (.slice (some ⟨b, 0, none⟩) 3 3) ∧ ∀ j, j < 3 → w.cell? ⟨b, j, none⟩ = some (.int .i64 (c (i * 3 + j)))
theorem TabI.below {w w' : World} {A : Option Addr} {c : Nat → Int} (h : TabI w A c) (hb : Below w.heap.size w w') : TabI w' A c := by
  obtain ⟨g, hA, hg, h⟩ := h
  refine ⟨g, hA, Nat.lt_of_lt_of_le hg hb.size, fun i hi => ?_⟩
  obtain ⟨b, hb2, h1, h2⟩ := h i hi
  exact ⟨b, Nat.lt_of_lt_of_le hb2 hb.size, (hb.cell (p := ⟨g, i, none⟩) hg).trans h1, fun j hj => (hb.cell (p := ⟨b, j, none⟩) hb2).trans (h2 j hj)⟩
def bOne (a : Int → Int → Bool) (c : Nat → Int) (i j : Int) : Int := if a i j = true then c (ixP i (3 - i - j)) + 1 + c (ixP (3 - i - j) j) else -1
def bTwo (a : Int → Int → Bool) (c : Nat → Int) (i j : Int) : Int := if (a i (3 - i - j) && a (3 - i - j) j) = true then 2 * c (ixP i j) + c (ixP j i) + 2 else -1

set_option maxRecDepth 100000 in
set_option maxHeartbeats 4000000 in
theorem l07Both_01 (r c : Nat → Int) (A : Option Addr) (n' : Nat) (w : World) (hT : TabI w A c) (hc : ∀ k, 0 ≤ c k ∧ c k ≤ 1000000) :
    Calls Try.prog 52 #[.agg (z9 r), .slice A 3 n', .int .i64 0, .int .i64 1] w fun e w' => e = .returned (.tuple #[.int .i64 (bOne (alR r) c 0 1), .int .i64 (bTwo (alR r) c 0 1)]) ∧ Below w.heap.size w w' := by
  have X0 := Box.new w 26 (z9 r)
  obtain ⟨x0, x1, x2, x3, x4, x5, x6, x7, x8⟩ := X0.nine
  have HB0 := Lib.hid ((Below.refl w.heap.size w).alloc (Nat.le_refl _) (.cells (z9 r) 26))
  obtain ⟨g, rfl, hg, hT⟩ := hT.below HB0.out
  obtain ⟨q0, _, y0, hc0⟩ := hT 0 (by omega)
  obtain ⟨q1, _, y1, hc1⟩ := hT 1 (by omega)
  obtain ⟨q2, _, y2, hc2⟩ := hT 2 (by omega)
  have m02 := hc0 2 (by omega)
  have m21 := hc2 1 (by omega)
  have m01 := hc0 1 (by omega)
  have m10 := hc1 0 (by omega)
  have b1 := hc (0 * 3 + 2)
  have b2 := hc (2 * 3 + 1)
  have b3 := hc (0 * 3 + 1)
  have b4 := hc (1 * 3 + 0)
  obtain ⟨v1, h1⟩ : ∃ b, (r 1 == 1) = b := ⟨_, rfl⟩
  obtain ⟨v2, h2⟩ : ∃ b, (r 2 == 1) = b := ⟨_, rfl⟩
  obtain ⟨v3, h3⟩ : ∃ b, (r 7 == 1) = b := ⟨_, rfl⟩
  have H1 : Hid (alR r 0 1 = v1) := h1
  have H2 : Hid (alR r 0 2 = v2) := h2
  have H3 : Hid (alR r 2 1 = v3) := h3
  clear X0 hT hc0 hc1 hc2 hc
  simp only [Nat.zero_mul, Nat.one_mul, Nat.reduceMul, Nat.reduceAdd, Nat.zero_add] at m02 m21 m01 m10 b1 b2 b3 b4
  cases v1 <;> cases v2 <;> cases v3
  · go_enter Try.func52, Try.ntmps52
    go_wp2
    go_returns
    exact ⟨ret_intsT (by unfold bOne; rw [H1.out]; rfl) (by unfold bTwo; rw [show (3 : Int) - 0 - 1 = 2 from rfl, H2.out, H3.out]; rfl), HB0.out⟩
  · go_enter Try.func52, Try.ntmps52
    go_wp2
    go_returns
    exact ⟨ret_intsT (by unfold bOne; rw [H1.out]; rfl) (by unfold bTwo; rw [show (3 : Int) - 0 - 1 = 2 from rfl, H2.out, H3.out]; rfl), HB0.out⟩
  · go_enter Try.func52, Try.ntmps52
    go_wp2
    go_returns
    exact ⟨ret_intsT (by unfold bOne; rw [H1.out]; rfl) (by unfold bTwo; rw [show (3 : Int) - 0 - 1 = 2 from rfl, H2.out, H3.out]; rfl), HB0.out⟩
  · go_enter Try.func52, Try.ntmps52
    go_wp2_with fail
    go_quiet (fail)
    go_wp2
    go_returns
    exact ⟨ret_intsT (by unfold bOne; rw [H1.out]; rfl) (by unfold bTwo; rw [show (3 : Int) - 0 - 1 = 2 from rfl, H2.out, H3.out]; rfl), (belowDraws HB0.out _)⟩
  · go_enter Try.func52, Try.ntmps52
    go_wp2_with fail
    go_quiet (fail)
    go_wp2
    go_returns
    exact ⟨ret_intsT (by unfold bOne; rw [H1.out]; rfl) (by unfold bTwo; rw [show (3 : Int) - 0 - 1 = 2 from rfl, H2.out, H3.out]; rfl), (belowDraws HB0.out _)⟩
  · go_enter Try.func52, Try.ntmps52
    go_wp2_with fail
    go_quiet (fail)
    go_wp2
    go_returns
    exact ⟨ret_intsT (by unfold bOne; rw [H1.out]; rfl) (by unfold bTwo; rw [show (3 : Int) - 0 - 1 = 2 from rfl, H2.out, H3.out]; rfl), (belowDraws HB0.out _)⟩
  · go_enter Try.func52, Try.ntmps52
    go_wp2_with fail
    go_quiet (fail)
    go_wp2
    go_returns
    exact ⟨ret_intsT (by unfold bOne; rw [H1.out]; rfl) (by unfold bTwo; rw [show (3 : Int) - 0 - 1 = 2 from rfl, H2.out, H3.out]; rfl), (belowDraws HB0.out _)⟩
  · go_enter Try.func52, Try.ntmps52
    go_wp2_with fail
    go_quiet (fail)
    go_wp2_with fail
    go_quiet (fail)
    go_wp2
    go_returns
    exact ⟨ret_intsT (by unfold bOne; rw [H1.out]; rfl) (by unfold bTwo; rw [show (3 : Int) - 0 - 1 = 2 from rfl, H2.out, H3.out]; rfl), (by first | exact belowDraws HB0.out _ | exact belowDraws (belowDraws HB0.out _) _)⟩

set_option maxRecDepth 100000 in
set_option maxHeartbeats 4000000 in
theorem l07Both_02 (r c : Nat → Int) (A : Option Addr) (n' : Nat) (w : World) (hT : TabI w A c) (hc : ∀ k, 0 ≤ c k ∧ c k ≤ 1000000) :
    Calls Try.prog 52 #[.agg (z9 r), .slice A 3 n', .int .i64 0, .int .i64 2] w fun e w' => e = .returned (.tuple #[.int .i64 (bOne (alR r) c 0 2), .int .i64 (bTwo (alR r) c 0 2)]) ∧ Below w.heap.size w w' := by
  have X0 := Box.new w 26 (z9 r)
  obtain ⟨x0, x1, x2, x3, x4, x5, x6, x7, x8⟩ := X0.nine
  have HB0 := Lib.hid ((Below.refl w.heap.size w).alloc (Nat.le_refl _) (.cells (z9 r) 26))
  obtain ⟨g, rfl, hg, hT⟩ := hT.below HB0.out
  obtain ⟨q0, _, y0, hc0⟩ := hT 0 (by omega)
  obtain ⟨q1, _, y1, hc1⟩ := hT 1 (by omega)
  obtain ⟨q2, _, y2, hc2⟩ := hT 2 (by omega)
  have m01 := hc0 1 (by omega)
  have m12 := hc1 2 (by omega)
  have m02 := hc0 2 (by omega)
  have m20 := hc2 0 (by omega)
  have b1 := hc (0 * 3 + 1)
  have b2 := hc (1 * 3 + 2)
  have b3 := hc (0 * 3 + 2)
  have b4 := hc (2 * 3 + 0)
  obtain ⟨v1, h1⟩ : ∃ b, (r 2 == 1) = b := ⟨_, rfl⟩
  obtain ⟨v2, h2⟩ : ∃ b, (r 1 == 1) = b := ⟨_, rfl⟩
  obtain ⟨v3, h3⟩ : ∃ b, (r 5 == 1) = b := ⟨_, rfl⟩
  have H1 : Hid (alR r 0 2 = v1) := h1
  have H2 : Hid (alR r 0 1 = v2) := h2
  have H3 : Hid (alR r 1 2 = v3) := h3
  clear X0 hT hc0 hc1 hc2 hc
  simp only [Nat.zero_mul, Nat.one_mul, Nat.reduceMul, Nat.reduceAdd, Nat.zero_add] at m01 m12 m02 m20 b1 b2 b3 b4
  cases v1 <;> cases v2 <;> cases v3
  · go_enter Try.func52, Try.ntmps52
    go_wp2
    go_returns
    exact ⟨ret_intsT (by unfold bOne; rw [H1.out]; rfl) (by unfold bTwo; rw [show (3 : Int) - 0 - 2 = 1 from rfl, H2.out, H3.out]; rfl), HB0.out⟩
  · go_enter Try.func52, Try.ntmps52
    go_wp2
    go_returns
    exact ⟨ret_intsT (by unfold bOne; rw [H1.out]; rfl) (by unfold bTwo; rw [show (3 : Int) - 0 - 2 = 1 from rfl, H2.out, H3.out]; rfl), HB0.out⟩
  · go_enter Try.func52, Try.ntmps52
    go_wp2
    go_returns
    exact ⟨ret_intsT (by unfold bOne; rw [H1.out]; rfl) (by unfold bTwo; rw [show (3 : Int) - 0 - 2 = 1 from rfl, H2.out, H3.out]; rfl), HB0.out⟩
  · go_enter Try.func52, Try.ntmps52
    go_wp2_with fail
    go_quiet (fail)
    go_wp2
    go_returns
    exact ⟨ret_intsT (by unfold bOne; rw [H1.out]; rfl) (by unfold bTwo; rw [show (3 : Int) - 0 - 2 = 1 from rfl, H2.out, H3.out]; rfl), (belowDraws HB0.out _)⟩
  · go_enter Try.func52, Try.ntmps52
    go_wp2_with fail
    go_quiet (fail)
    go_wp2
    go_returns
    exact ⟨ret_intsT (by unfold bOne; rw [H1.out]; rfl) (by unfold bTwo; rw [show (3 : Int) - 0 - 2 = 1 from rfl, H2.out, H3.out]; rfl), (belowDraws HB0.out _)⟩
  · go_enter Try.func52, Try.ntmps52
    go_wp2_with fail
    go_quiet (fail)
    go_wp2
    go_returns
    exact ⟨ret_intsT (by unfold bOne; rw [H1.out]; rfl) (by unfold bTwo; rw [show (3 : Int) - 0 - 2 = 1 from rfl, H2.out, H3.out]; rfl), (belowDraws HB0.out _)⟩
  · go_enter Try.func52, Try.ntmps52
    go_wp2_with fail
    go_quiet (fail)
    go_wp2
    go_returns
    exact ⟨ret_intsT (by unfold bOne; rw [H1.out]; rfl) (by unfold bTwo; rw [show (3 : Int) - 0 - 2 = 1 from rfl, H2.out, H3.out]; rfl), (belowDraws HB0.out _)⟩
  · go_enter Try.func52, Try.ntmps52
    go_wp2_with fail
    go_quiet (fail)
    go_wp2_with fail
    go_quiet (fail)
    go_wp2
    go_returns
    exact ⟨ret_intsT (by unfold bOne; rw [H1.out]; rfl) (by unfold bTwo; rw [show (3 : Int) - 0 - 2 = 1 from rfl, H2.out, H3.out]; rfl), (by first | exact belowDraws HB0.out _ | exact belowDraws (belowDraws HB0.out _) _)⟩

set_option maxRecDepth 100000 in
set_option maxHeartbeats 4000000 in
theorem l07Both_10 (r c : Nat → Int) (A : Option Addr) (n' : Nat) (w : World) (hT : TabI w A c) (hc : ∀ k, 0 ≤ c k ∧ c k ≤ 1000000) :
    Calls Try.prog 52 #[.agg (z9 r), .slice A 3 n', .int .i64 1, .int .i64 0] w fun e w' => e = .returned (.tuple #[.int .i64 (bOne (alR r) c 1 0), .int .i64 (bTwo (alR r) c 1 0)]) ∧ Below w.heap.size w w' := by
  have X0 := Box.new w 26 (z9 r)
  obtain ⟨x0, x1, x2, x3, x4, x5, x6, x7, x8⟩ := X0.nine
  have HB0 := Lib.hid ((Below.refl w.heap.size w).alloc (Nat.le_refl _) (.cells (z9 r) 26))
  obtain ⟨g, rfl, hg, hT⟩ := hT.below HB0.out
  obtain ⟨q0, _, y0, hc0⟩ := hT 0 (by omega)
  obtain ⟨q1, _, y1, hc1⟩ := hT 1 (by omega)
  obtain ⟨q2, _, y2, hc2⟩ := hT 2 (by omega)
  have m12 := hc1 2 (by omega)
  have m20 := hc2 0 (by omega)
  have m10 := hc1 0 (by omega)
  have m01 := hc0 1 (by omega)
  have b1 := hc (1 * 3 + 2)
  have b2 := hc (2 * 3 + 0)
  have b3 := hc (1 * 3 + 0)
  have b4 := hc (0 * 3 + 1)
  obtain ⟨v1, h1⟩ : ∃ b, (r 3 == 1) = b := ⟨_, rfl⟩
  obtain ⟨v2, h2⟩ : ∃ b, (r 5 == 1) = b := ⟨_, rfl⟩
  obtain ⟨v3, h3⟩ : ∃ b, (r 6 == 1) = b := ⟨_, rfl⟩
  have H1 : Hid (alR r 1 0 = v1) := h1
  have H2 : Hid (alR r 1 2 = v2) := h2
  have H3 : Hid (alR r 2 0 = v3) := h3
  clear X0 hT hc0 hc1 hc2 hc
  simp only [Nat.zero_mul, Nat.one_mul, Nat.reduceMul, Nat.reduceAdd, Nat.zero_add] at m12 m20 m10 m01 b1 b2 b3 b4
  cases v1 <;> cases v2 <;> cases v3
  · go_enter Try.func52, Try.ntmps52
    go_wp2
    go_returns
    exact ⟨ret_intsT (by unfold bOne; rw [H1.out]; rfl) (by unfold bTwo; rw [show (3 : Int) - 1 - 0 = 2 from rfl, H2.out, H3.out]; rfl), HB0.out⟩
  · go_enter Try.func52, Try.ntmps52
    go_wp2
    go_returns
    exact ⟨ret_intsT (by unfold bOne; rw [H1.out]; rfl) (by unfold bTwo; rw [show (3 : Int) - 1 - 0 = 2 from rfl, H2.out, H3.out]; rfl), HB0.out⟩
  · go_enter Try.func52, Try.ntmps52
    go_wp2
    go_returns
    exact ⟨ret_intsT (by unfold bOne; rw [H1.out]; rfl) (by unfold bTwo; rw [show (3 : Int) - 1 - 0 = 2 from rfl, H2.out, H3.out]; rfl), HB0.out⟩
  · go_enter Try.func52, Try.ntmps52
    go_wp2_with fail
    go_quiet (fail)
    go_wp2
    go_returns
    exact ⟨ret_intsT (by unfold bOne; rw [H1.out]; rfl) (by unfold bTwo; rw [show (3 : Int) - 1 - 0 = 2 from rfl, H2.out, H3.out]; rfl), (belowDraws HB0.out _)⟩
  · go_enter Try.func52, Try.ntmps52
    go_wp2_with fail
    go_quiet (fail)
    go_wp2
    go_returns
    exact ⟨ret_intsT (by unfold bOne; rw [H1.out]; rfl) (by unfold bTwo; rw [show (3 : Int) - 1 - 0 = 2 from rfl, H2.out, H3.out]; rfl), (belowDraws HB0.out _)⟩
  · go_enter Try.func52, Try.ntmps52
    go_wp2_with fail
    go_quiet (fail)
    go_wp2
    go_returns
    exact ⟨ret_intsT (by unfold bOne; rw [H1.out]; rfl) (by unfold bTwo; rw [show (3 : Int) - 1 - 0 = 2 from rfl, H2.out, H3.out]; rfl), (belowDraws HB0.out _)⟩
  · go_enter Try.func52, Try.ntmps52
    go_wp2_with fail
    go_quiet (fail)
    go_wp2
    go_returns
    exact ⟨ret_intsT (by unfold bOne; rw [H1.out]; rfl) (by unfold bTwo; rw [show (3 : Int) - 1 - 0 = 2 from rfl, H2.out, H3.out]; rfl), (belowDraws HB0.out _)⟩
  · go_enter Try.func52, Try.ntmps52
    go_wp2_with fail
    go_quiet (fail)
    go_wp2_with fail
    go_quiet (fail)
    go_wp2
    go_returns
    exact ⟨ret_intsT (by unfold bOne; rw [H1.out]; rfl) (by unfold bTwo; rw [show (3 : Int) - 1 - 0 = 2 from rfl, H2.out, H3.out]; rfl), (by first | exact belowDraws HB0.out _ | exact belowDraws (belowDraws HB0.out _) _)⟩

set_option maxRecDepth 100000 in
set_option maxHeartbeats 4000000 in
theorem l07Both_12 (r c : Nat → Int) (A : Option Addr) (n' : Nat) (w : World) (hT : TabI w A c) (hc : ∀ k, 0 ≤ c k ∧ c k ≤ 1000000) :
    Calls Try.prog 52 #[.agg (z9 r), .slice A 3 n', .int .i64 1, .int .i64 2] w fun e w' => e = .returned (.tuple #[.int .i64 (bOne (alR r) c 1 2), .int .i64 (bTwo (alR r) c 1 2)]) ∧ Below w.heap.size w w' := by
  have X0 := Box.new w 26 (z9 r)
  obtain ⟨x0, x1, x2, x3, x4, x5, x6, x7, x8⟩ := X0.nine
  have HB0 := Lib.hid ((Below.refl w.heap.size w).alloc (Nat.le_refl _) (.cells (z9 r) 26))
  obtain ⟨g, rfl, hg, hT⟩ := hT.below HB0.out
  obtain ⟨q0, _, y0, hc0⟩ := hT 0 (by omega)
  obtain ⟨q1, _, y1, hc1⟩ := hT 1 (by omega)
  obtain ⟨q2, _, y2, hc2⟩ := hT 2 (by omega)
  have m10 := hc1 0 (by omega)
  have m02 := hc0 2 (by omega)
  have m12 := hc1 2 (by omega)
  have m21 := hc2 1 (by omega)
  have b1 := hc (1 * 3 + 0)
  have b2 := hc (0 * 3 + 2)
  have b3 := hc (1 * 3 + 2)
  have b4 := hc (2 * 3 + 1)
  obtain ⟨v1, h1⟩ : ∃ b, (r 5 == 1) = b := ⟨_, rfl⟩
  obtain ⟨v2, h2⟩ : ∃ b, (r 3 == 1) = b := ⟨_, rfl⟩
  obtain ⟨v3, h3⟩ : ∃ b, (r 2 == 1) = b := ⟨_, rfl⟩
  have H1 : Hid (alR r 1 2 = v1) := h1
  have H2 : Hid (alR r 1 0 = v2) := h2
  have H3 : Hid (alR r 0 2 = v3) := h3
  clear X0 hT hc0 hc1 hc2 hc
  simp only [Nat.zero_mul, Nat.one_mul, Nat.reduceMul, Nat.reduceAdd, Nat.zero_add] at m10 m02 m12 m21 b1 b2 b3 b4
  cases v1 <;> cases v2 <;> cases v3
  · go_enter Try.func52, Try.ntmps52
    go_wp2
    go_returns
    exact ⟨ret_intsT (by unfold bOne; rw [H1.out]; rfl) (by unfold bTwo; rw [show (3 : Int) - 1 - 2 = 0 from rfl, H2.out, H3.out]; rfl), HB0.out⟩
  · go_enter Try.func52, Try.ntmps52
    go_wp2
    go_returns
    exact ⟨ret_intsT (by unfold bOne; rw [H1.out]; rfl) (by unfold bTwo; rw [show (3 : Int) - 1 - 2 = 0 from rfl, H2.out, H3.out]; rfl), HB0.out⟩
  · go_enter Try.func52, Try.ntmps52
    go_wp2
    go_returns
    exact ⟨ret_intsT (by unfold bOne; rw [H1.out]; rfl) (by unfold bTwo; rw [show (3 : Int) - 1 - 2 = 0 from rfl, H2.out, H3.out]; rfl), HB0.out⟩
  · go_enter Try.func52, Try.ntmps52
    go_wp2_with fail
    go_quiet (fail)
    go_wp2
    go_returns
    exact ⟨ret_intsT (by unfold bOne; rw [H1.out]; rfl) (by unfold bTwo; rw [show (3 : Int) - 1 - 2 = 0 from rfl, H2.out, H3.out]; rfl), (belowDraws HB0.out _)⟩
  · go_enter Try.func52, Try.ntmps52
    go_wp2_with fail
    go_quiet (fail)
    go_wp2
    go_returns
    exact ⟨ret_intsT (by unfold bOne; rw [H1.out]; rfl) (by unfold bTwo; rw [show (3 : Int) - 1 - 2 = 0 from rfl, H2.out, H3.out]; rfl), (belowDraws HB0.out _)⟩
  · go_enter Try.func52, Try.ntmps52
    go_wp2_with fail
    go_quiet (fail)
    go_wp2
    go_returns
    exact ⟨ret_intsT (by unfold bOne; rw [H1.out]; rfl) (by unfold bTwo; rw [show (3 : Int) - 1 - 2 = 0 from rfl, H2.out, H3.out]; rfl), (belowDraws HB0.out _)⟩
  · go_enter Try.func52, Try.ntmps52
    go_wp2_with fail
    go_quiet (fail)
    go_wp2
    go_returns
    exact ⟨ret_intsT (by unfold bOne; rw [H1.out]; rfl) (by unfold bTwo; rw [show (3 : Int) - 1 - 2 = 0 from rfl, H2.out, H3.out]; rfl), (belowDraws HB0.out _)⟩
  · go_enter Try.func52, Try.ntmps52
    go_wp2_with fail
    go_quiet (fail)
    go_wp2_with fail
    go_quiet (fail)
    go_wp2
    go_returns
    exact ⟨ret_intsT (by unfold bOne; rw [H1.out]; rfl) (by unfold bTwo; rw [show (3 : Int) - 1 - 2 = 0 from rfl, H2.out, H3.out]; rfl), (by first | exact belowDraws HB0.out _ | exact belowDraws (belowDraws HB0.out _) _)⟩

set_option maxRecDepth 100000 in
set_option maxHeartbeats 4000000 in
theorem l07Both_20 (r c : Nat → Int) (A : Option Addr) (n' : Nat) (w : World) (hT : TabI w A c) (hc : ∀ k, 0 ≤ c k ∧ c k ≤ 1000000) :
    Calls Try.prog 52 #[.agg (z9 r), .slice A 3 n', .int .i64 2, .int .i64 0] w fun e w' => e = .returned (.tuple #[.int .i64 (bOne (alR r) c 2 0), .int .i64 (bTwo (alR r) c 2 0)]) ∧ Below w.heap.size w w' := by
  have X0 := Box.new w 26 (z9 r)
  obtain ⟨x0, x1, x2, x3, x4, x5, x6, x7, x8⟩ := X0.nine
  have HB0 := Lib.hid ((Below.refl w.heap.size w).alloc (Nat.le_refl _) (.cells (z9 r) 26))
  obtain ⟨g, rfl, hg, hT⟩ := hT.below HB0.out
  obtain ⟨q0, _, y0, hc0⟩ := hT 0 (by omega)
  obtain ⟨q1, _, y1, hc1⟩ := hT 1 (by omega)
  obtain ⟨q2, _, y2, hc2⟩ := hT 2 (by omega)
  have m21 := hc2 1 (by omega)
  have m10 := hc1 0 (by omega)
  have m20 := hc2 0 (by omega)
  have m02 := hc0 2 (by omega)
  have b1 := hc (2 * 3 + 1)
  have b2 := hc (1 * 3 + 0)
  have b3 := hc (2 * 3 + 0)
  have b4 := hc (0 * 3 + 2)
  obtain ⟨v1, h1⟩ : ∃ b, (r 6 == 1) = b := ⟨_, rfl⟩
  obtain ⟨v2, h2⟩ : ∃ b, (r 7 == 1) = b := ⟨_, rfl⟩
  obtain ⟨v3, h3⟩ : ∃ b, (r 3 == 1) = b := ⟨_, rfl⟩
  have H1 : Hid (alR r 2 0 = v1) := h1
  have H2 : Hid (alR r 2 1 = v2) := h2
  have H3 : Hid (alR r 1 0 = v3) := h3
  clear X0 hT hc0 hc1 hc2 hc
  simp only [Nat.zero_mul, Nat.one_mul, Nat.reduceMul, Nat.reduceAdd, Nat.zero_add] at m21 m10 m20 m02 b1 b2 b3 b4
  cases v1 <;> cases v2 <;> cases v3
  · go_enter Try.func52, Try.ntmps52
    go_wp2
    go_returns
    exact ⟨ret_intsT (by unfold bOne; rw [H1.out]; rfl) (by unfold bTwo; rw [show (3 : Int) - 2 - 0 = 1 from rfl, H2.out, H3.out]; rfl), HB0.out⟩
  · go_enter Try.func52, Try.ntmps52
    go_wp2
    go_returns
    exact ⟨ret_intsT (by unfold bOne; rw [H1.out]; rfl) (by unfold bTwo; rw [show (3 : Int) - 2 - 0 = 1 from rfl, H2.out, H3.out]; rfl), HB0.out⟩
  · go_enter Try.func52, Try.ntmps52
    go_wp2
    go_returns
    exact ⟨ret_intsT (by unfold bOne; rw [H1.out]; rfl) (by unfold bTwo; rw [show (3 : Int) - 2 - 0 = 1 from rfl, H2.out, H3.out]; rfl), HB0.out⟩
  · go_enter Try.func52, Try.ntmps52
    go_wp2_with fail
    go_quiet (fail)
    go_wp2
    go_returns
    exact ⟨ret_intsT (by unfold bOne; rw [H1.out]; rfl) (by unfold bTwo; rw [show (3 : Int) - 2 - 0 = 1 from rfl, H2.out, H3.out]; rfl), (belowDraws HB0.out _)⟩
  · go_enter Try.func52, Try.ntmps52
    go_wp2_with fail
    go_quiet (fail)
    go_wp2
    go_returns
    exact ⟨ret_intsT (by unfold bOne; rw [H1.out]; rfl) (by unfold bTwo; rw [show (3 : Int) - 2 - 0 = 1 from rfl, H2.out, H3.out]; rfl), (belowDraws HB0.out _)⟩
  · go_enter Try.func52, Try.ntmps52
    go_wp2_with fail
    go_quiet (fail)
    go_wp2
    go_returns
    exact ⟨ret_intsT (by unfold bOne; rw [H1.out]; rfl) (by unfold bTwo; rw [show (3 : Int) - 2 - 0 = 1 from rfl, H2.out, H3.out]; rfl), (belowDraws HB0.out _)⟩
  · go_enter Try.func52, Try.ntmps52
    go_wp2_with fail
    go_quiet (fail)
    go_wp2
    go_returns
    exact ⟨ret_intsT (by unfold bOne; rw [H1.out]; rfl) (by unfold bTwo; rw [show (3 : Int) - 2 - 0 = 1 from rfl, H2.out, H3.out]; rfl), (belowDraws HB0.out _)⟩
  · go_enter Try.func52, Try.ntmps52
    go_wp2_with fail
    go_quiet (fail)
    go_wp2_with fail
    go_quiet (fail)
    go_wp2
    go_returns
    exact ⟨ret_intsT (by unfold bOne; rw [H1.out]; rfl) (by unfold bTwo; rw [show (3 : Int) - 2 - 0 = 1 from rfl, H2.out, H3.out]; rfl), (by first | exact belowDraws HB0.out _ | exact belowDraws (belowDraws HB0.out _) _)⟩

set_option maxRecDepth 100000 in
set_option maxHeartbeats 4000000 in
theorem l07Both_21 (r c : Nat → Int) (A : Option Addr) (n' : Nat) (w : World) (hT : TabI w A c) (hc : ∀ k, 0 ≤ c k ∧ c k ≤ 1000000) :
    Calls Try.prog 52 #[.agg (z9 r), .slice A 3 n', .int .i64 2, .int .i64 1] w fun e w' => e = .returned (.tuple #[.int .i64 (bOne (alR r) c 2 1), .int .i64 (bTwo (alR r) c 2 1)]) ∧ Below w.heap.size w w' := by
  have X0 := Box.new w 26 (z9 r)
  obtain ⟨x0, x1, x2, x3, x4, x5, x6, x7, x8⟩ := X0.nine
  have HB0 := Lib.hid ((Below.refl w.heap.size w).alloc (Nat.le_refl _) (.cells (z9 r) 26))
  obtain ⟨g, rfl, hg, hT⟩ := hT.below HB0.out
  obtain ⟨q0, _, y0, hc0⟩ := hT 0 (by omega)
  obtain ⟨q1, _, y1, hc1⟩ := hT 1 (by omega)
  obtain ⟨q2, _, y2, hc2⟩ := hT 2 (by omega)
  have m20 := hc2 0 (by omega)
  have m01 := hc0 1 (by omega)
  have m21 := hc2 1 (by omega)
  have m12 := hc1 2 (by omega)
  have b1 := hc (2 * 3 + 0)
  have b2 := hc (0 * 3 + 1)
  have b3 := hc (2 * 3 + 1)
  have b4 := hc (1 * 3 + 2)
  obtain ⟨v1, h1⟩ : ∃ b, (r 7 == 1) = b := ⟨_, rfl⟩
  obtain ⟨v2, h2⟩ : ∃ b, (r 6 == 1) = b := ⟨_, rfl⟩
  obtain ⟨v3, h3⟩ : ∃ b, (r 1 == 1) = b := ⟨_, rfl⟩
  have H1 : Hid (alR r 2 1 = v1) := h1
  have H2 : Hid (alR r 2 0 = v2) := h2
  have H3 : Hid (alR r 0 1 = v3) := h3
  clear X0 hT hc0 hc1 hc2 hc
  simp only [Nat.zero_mul, Nat.one_mul, Nat.reduceMul, Nat.reduceAdd, Nat.zero_add] at m20 m01 m21 m12 b1 b2 b3 b4
  cases v1 <;> cases v2 <;> cases v3
  · go_enter Try.func52, Try.ntmps52
    go_wp2
    go_returns
    exact ⟨ret_intsT (by unfold bOne; rw [H1.out]; rfl) (by unfold bTwo; rw [show (3 : Int) - 2 - 1 = 0 from rfl, H2.out, H3.out]; rfl), HB0.out⟩
  · go_enter Try.func52, Try.ntmps52
    go_wp2
    go_returns
    exact ⟨ret_intsT (by unfold bOne; rw [H1.out]; rfl) (by unfold bTwo; rw [show (3 : Int) - 2 - 1 = 0 from rfl, H2.out, H3.out]; rfl), HB0.out⟩
  · go_enter Try.func52, Try.ntmps52
    go_wp2
    go_returns
    exact ⟨ret_intsT (by unfold bOne; rw [H1.out]; rfl) (by unfold bTwo; rw [show (3 : Int) - 2 - 1 = 0 from rfl, H2.out, H3.out]; rfl), HB0.out⟩
  · go_enter Try.func52, Try.ntmps52
    go_wp2_with fail
    go_quiet (fail)
    go_wp2
    go_returns
    exact ⟨ret_intsT (by unfold bOne; rw [H1.out]; rfl) (by unfold bTwo; rw [show (3 : Int) - 2 - 1 = 0 from rfl, H2.out, H3.out]; rfl), (belowDraws HB0.out _)⟩
  · go_enter Try.func52, Try.ntmps52
    go_wp2_with fail
    go_quiet (fail)
    go_wp2
    go_returns
    exact ⟨ret_intsT (by unfold bOne; rw [H1.out]; rfl) (by unfold bTwo; rw [show (3 : Int) - 2 - 1 = 0 from rfl, H2.out, H3.out]; rfl), (belowDraws HB0.out _)⟩
  · go_enter Try.func52, Try.ntmps52
    go_wp2_with fail
    go_quiet (fail)
    go_wp2
    go_returns
    exact ⟨ret_intsT (by unfold bOne; rw [H1.out]; rfl) (by unfold bTwo; rw [show (3 : Int) - 2 - 1 = 0 from rfl, H2.out, H3.out]; rfl), (belowDraws HB0.out _)⟩
  · go_enter Try.func52, Try.ntmps52
    go_wp2_with fail
    go_quiet (fail)
    go_wp2
    go_returns
    exact ⟨ret_intsT (by unfold bOne; rw [H1.out]; rfl) (by unfold bTwo; rw [show (3 : Int) - 2 - 1 = 0 from rfl, H2.out, H3.out]; rfl), (belowDraws HB0.out _)⟩
  · go_enter Try.func52, Try.ntmps52
    go_wp2_with fail
    go_quiet (fail)
    go_wp2_with fail
    go_quiet (fail)
    go_wp2
    go_returns
    exact ⟨ret_intsT (by unfold bOne; rw [H1.out]; rfl) (by unfold bTwo; rw [show (3 : Int) - 2 - 1 = 0 from rfl, H2.out, H3.out]; rfl), (by first | exact belowDraws HB0.out _ | exact belowDraws (belowDraws HB0.out _) _)⟩

theorem l07Both_calls (r c : Nat → Int) (A : Option Addr) (n' : Nat) (i j : Nat) (hi : i < 3) (hj : j < 3) (hne : i ≠ j) (w : World) (hT : TabI w A c) (hc : ∀ k, 0 ≤ c k ∧ c k ≤ 1000000) :
    Calls Try.prog 52 #[.agg (z9 r), .slice A 3 n', .int .i64 i, .int .i64 j] w fun e w' => e = .returned (.tuple #[.int .i64 (bOne (alR r) c i j), .int .i64 (bTwo (alR r) c i j)]) ∧ Below w.heap.size w w' := by
  match i, hi, j, hj, hne with
  | 0, _, 1, _, _ => exact l07Both_01 r c A n' w hT hc
  | 0, _, 2, _, _ => exact l07Both_02 r c A n' w hT hc
  | 1, _, 0, _, _ => exact l07Both_10 r c A n' w hT hc
  | 1, _, 2, _, _ => exact l07Both_12 r c A n' w hT hc
  | 2, _, 0, _, _ => exact l07Both_20 r c A n' w hT hc
  | 2, _, 1, _, _ => exact l07Both_21 r c A n' w hT hc
  | 0, _, 0, _, h => exact absurd rfl h
  | 1, _, 1, _, h => exact absurd rfl h
  | 2, _, 2, _, h => exact absurd rfl h

/-- Three cells. -/
def t3 (f : Nat → Int) : Array Value := #[.int .i64 (f 0), .int .i64 (f 1), .int .i64 (f 2)]
theorem t3_set (f : Nat → Int) {k : Nat} (hk : k < 3) (v : Int) : (t3 f).setIfInBounds k (.int .i64 v) = t3 (fun j => if j = k then v else f j) := by
  match k, hk with
  | 0, _ => rfl
  | 1, _ => rfl
  | 2, _ => rfl
theorem t3_at (f : Nat → Int) {k : Nat} (hk : k < 3) : (t3 f)[k]? = some (.int .i64 (f k)) := by
  match k, hk with
  | 0, _ => rfl
  | 1, _ => rfl
  | 2, _ => rfl
theorem Box.at3 {w : World} {b t k : Nat} {f : Nat → Int} (h : Box w b t (t3 f)) (hk : k < 3) : w.cell? ⟨b, k, none⟩ = some (.int .i64 (f k)) := by
  rw [h.cell, t3_at f hk]
theorem Box.set3 {w : World} {b t k : Nat} {f : Nat → Int} (h : Box w b t (t3 f)) (hk : k < 3) (v : Int) : Box (w.setCell ⟨b, k, none⟩ (.int .i64 v)) b t (t3 (fun j => if j = k then v else f j)) := by
  have := h.set k (.int .i64 v)
  rwa [t3_set _ hk] at this
theorem t3_congr {f g : Nat → Int} (h : ∀ k, k < 3 → f k = g k) : t3 f = t3 g := by
  unfold t3
  rw [h 0 (by omega), h 1 (by omega), h 2 (by omega)]
/-- A row of the table for one disc more, so far. -/
def rowF (a : Int → Int → Bool) (c : Nat → Int) (i m : Nat) (j : Nat) : Int := if j < m ∧ j ≠ i then mV a c i j else 0
theorem rowF_same (a : Int → Int → Bool) (c : Nat → Int) (i : Nat) : rowF a c i (i + 1) = rowF a c i i := by
  funext j
  unfold rowF
  by_cases h : j < i ∧ j ≠ i
  · rw [if_pos h, if_pos (by omega)]
  · rw [if_neg h, if_neg (by omega)]
theorem rowF_next (a : Int → Int → Bool) (c : Nat → Int) {i m : Nat} (h : m ≠ i) (k : Nat) : (if k = m then mV a c i m else rowF a c i m k) = rowF a c i (m + 1) k := by
  unfold rowF
  by_cases h1 : k = m
  · subst h1; rw [if_pos rfl, if_pos (by omega)]
  · rw [if_neg h1]
    by_cases h2 : k < m ∧ k ≠ i
    · rw [if_pos h2, if_pos (by omega)]
    · rw [if_neg h2, if_neg (by omega)]
theorem more_at (a : Int → Int → Bool) (c : Nat → Int) {i j : Nat} (hi : i < 3) (hj : j < 3) : moreT a c (i * 3 + j) = rowF a c i 3 j := by
  match i, hi, j, hj with
  | 0, _, 0, _ => rfl
  | 0, _, 1, _ => rfl
  | 0, _, 2, _ => rfl
  | 1, _, 0, _ => rfl
  | 1, _, 1, _ => rfl
  | 1, _, 2, _ => rfl
  | 2, _, 0, _ => rfl
  | 2, _, 1, _ => rfl
  | 2, _, 2, _ => rfl
/-- What the specification chooses of two numbers. -/
def selV (o t : Int) : Int := if o < 0 ∨ (0 ≤ t ∧ t < o) then t else o
theorem sel_eq {a : Int → Int → Bool} {c : Nat → Int} {i j : Int} (ha : a i j = true ∨ (a i (3 - i - j) && a (3 - i - j) j) = true) (hc : ∀ k, 0 ≤ c k ∧ c k ≤ 1000000) : selV (bOne a c i j) (bTwo a c i j) = mV a c i j := by
  have c1 := hc (ixP i (3 - i - j))
  have c2 := hc (ixP (3 - i - j) j)
  have c3 := hc (ixP i j)
  have c4 := hc (ixP j i)
  unfold selV bOne bTwo mV wOne wTwo
  by_cases h1 : a i j = true
  · by_cases h2 : (a i (3 - i - j) && a (3 - i - j) j) = true
    · simp only [if_pos h1, if_pos h2]; split <;> omega
    · simp only [if_pos h1, if_neg h2]; split <;> omega
  · by_cases h2 : (a i (3 - i - j) && a (3 - i - j) j) = true
    · simp only [if_neg h1, if_pos h2]; split <;> omega
    · exact absurd ha (by rintro (h | h) <;> contradiction)

/-- A table as the specification keeps it. -/
def TabB (w : World) (v : Value) (c : Nat → Int) : Prop :=
  ∃ g c8 cur, v = .slice (some ⟨g, 0, none⟩) 3 c8 ∧ Box w g 37 cur ∧ ∀ i, i < 3 → ∃ b, cur[i]? = some (.slice (some ⟨b, 0, none⟩) 3 3) ∧ Box w b 2 (t3 (fun j => c (i * 3 + j)))
theorem TabB.below {w w' : World} {v : Value} {c : Nat → Int} (h : TabB w v c) (hb : Below w.heap.size w w') : TabB w' v c := by
  obtain ⟨g, c8, cur, hv, hg, h⟩ := h
  refine ⟨g, c8, cur, hv, hg.below hb hg.lt, fun i hi => ?_⟩
  obtain ⟨b, h1, h2⟩ := h i hi
  exact ⟨b, h1, h2.below hb h2.lt⟩
theorem TabB.grown {w w1 : World} {o : Obj} {v : Value} {c : Nat → Int} {B n c' : Nat} {A : Option Addr} {xs : List Value} (h : TabB w v c) (hO : OwnG 29 1 B w A n c' xs) (hg : (w.alloc o).grownBy w1 (Value.slice A n c').ownBlock) : TabB w1 v c := by
  obtain ⟨g, c8, cur, hv, hb, h⟩ := h
  refine ⟨g, c8, cur, hv, hO.grown_box hg hb (by decide), fun i hi => ?_⟩
  obtain ⟨b, h1, h2⟩ := h i hi
  exact ⟨b, h1, hO.grown_box hg h2 (by decide)⟩
theorem TabB.tabI {w : World} {v : Value} {c : Nat → Int} (h : TabB w v c) : ∃ g c8, v = .slice (some ⟨g, 0, none⟩) 3 c8 ∧ TabI w (some ⟨g, 0, none⟩) c := by
  obtain ⟨g, c8, cur, hv, hb, h⟩ := h
  refine ⟨g, c8, hv, g, rfl, hb.lt, fun i hi => ?_⟩
  obtain ⟨b, h1, h2⟩ := h i hi
  exact ⟨b, h2.lt, (hb.cell i).trans h1, fun j hj => h2.at3 hj⟩
theorem ownG_one {w : World} {g e B : Nat} {v : Value} (hb : Box w g e #[v]) (hB : B ≤ g) : OwnG e 1 B w (some ⟨g, 0, none⟩) 1 1 [v] :=
  ⟨by simp, .inr ⟨g, 1, #[v], rfl, hB, hb, Nat.le_refl _, by unfold maxLen; omega, by simp, by simp⟩⟩
theorem stillC {P : Program} {f : FuncId} {args : Array Value} {w : World} {v : Value} (h : Calls P f args w fun e w' => e = .returned v ∧ w = w') : Calls P f args w fun e w' => e = .returned v ∧ w' = w := h.mono fun _ _ ⟨he, hm⟩ => ⟨he, hm.symm⟩
theorem Ints.drewS {w : World} {A : Option Addr} {L : List Int} (h : Ints w A L) (n : Nat) : Ints { w with drawn := n } A L := h

theorem tab_of_own {w : World} {A : Option Addr} {B c8 : Nat} {rows : List Value} {a : Int → Int → Bool} {c : Nat → Int} (h : OwnG 37 1 B w A 3 c8 rows) (hR : ∀ d, d < 3 → ∃ b, rows[d]? = some (.slice (some ⟨b, 0, none⟩) 3 3) ∧ Box w b 2 (t3 (rowF a c d 3))) : TabB w (.slice A 3 c8) (moreT a c) := by
  rcases h.2 with ⟨_, h0⟩ | ⟨g, cap, cur, hv, hB, hh, hn, hcap, hs, htk⟩
  · omega
  · injection hv with h1 h2 h3
    subst h1
    refine ⟨g, c8, cur, rfl, hh, fun i hi => ?_⟩
    obtain ⟨b, h4, h5⟩ := hR i hi
    refine ⟨b, ?_, ?_⟩
    · rw [← h4, ← htk, List.getElem?_take, if_pos (by omega), Array.getElem?_toList]
    · rwa [t3_congr (f := fun j => moreT a c (i * 3 + j)) (fun k hk => more_at a c hi hk)]
theorem Try.infoS1 : (Try.prog.info? 37).map (fun i => (i.zero, i.size, i.bytes)) = some (some (.slice none 0 0), 1, 24) := by kernel_rfl
theorem Try.infoS2 : (Try.prog.info? 29).map (fun i => (i.zero, i.size, i.bytes)) = some (some (.slice none 0 0), 1, 24) := by kernel_rfl

set_option maxRecDepth 100000 in
set_option maxHeartbeats 8000000 in
theorem l07Tables_calls (r : Nat → Int) (n : Nat) (hn : n ≤ 8) (ha : ∀ i j : Int, 0 ≤ i ∧ i < 3 → 0 ≤ j ∧ j < 3 → i ≠ j → alR r i j = true ∨ (alR r i (3 - i - j) && alR r (3 - i - j) j) = true) (hT : ∀ m, m ≤ 8 → ∀ k, 0 ≤ tbl (alR r) m k ∧ tbl (alR r) m k ≤ 1000000) (w : World) :
    Calls Try.prog 33 #[.agg (z9 r), .int .i64 n] w fun e w' => ∃ A c5 vals, e = .returned (.slice A (n + 1) c5) ∧ OwnG 29 1 w.heap.size w' A (n + 1) c5 vals ∧ (∀ d, d < n + 1 → ∃ v, vals[d]? = some v ∧ TabB w' v (tbl (alR r) d)) ∧ Below w.heap.size w w' := by
  obtain ⟨i1, hi1, hy0, hy1, hy2⟩ := info_parts Try.infoS1
  obtain ⟨i2, hi2, hz0, hz1, hz2⟩ := info_parts Try.infoS2
  have HA := Lib.hid ha
  have HT := Lib.hid hT
  clear ha hT
  have X0 := Lib.hid ((((((Box.new w 26 (z9 r)).alloc (.cells (t3 (fun _ => 0)) 2)).alloc (.cells (t3 (fun _ => 0)) 2)).alloc (.cells (t3 (fun _ => 0)) 2)).alloc (.cells #[.slice (some ⟨w.heap.size + 1, 0, none⟩) 3 3, .slice (some ⟨w.heap.size + 1 + 1, 0, none⟩) 3 3, .slice (some ⟨w.heap.size + 1 + 1 + 1, 0, none⟩) 3 3] 37)).alloc (.cells #[.slice (some ⟨w.heap.size + 1 + 1 + 1 + 1, 0, none⟩) 3 3] 29))
  have R1 := ((((Box.new (w.alloc (.cells (z9 r) 26)) 2 (t3 (fun _ => 0))).alloc (.cells (t3 (fun _ => 0)) 2)).alloc (.cells (t3 (fun _ => 0)) 2)).alloc (.cells #[.slice (some ⟨w.heap.size + 1, 0, none⟩) 3 3, .slice (some ⟨w.heap.size + 1 + 1, 0, none⟩) 3 3, .slice (some ⟨w.heap.size + 1 + 1 + 1, 0, none⟩) 3 3] 37)).alloc (.cells #[.slice (some ⟨w.heap.size + 1 + 1 + 1 + 1, 0, none⟩) 3 3] 29)
  have R2 := (((Box.new ((w.alloc (.cells (z9 r) 26)).alloc (.cells (t3 (fun _ => 0)) 2)) 2 (t3 (fun _ => 0))).alloc (.cells (t3 (fun _ => 0)) 2)).alloc (.cells #[.slice (some ⟨w.heap.size + 1, 0, none⟩) 3 3, .slice (some ⟨w.heap.size + 1 + 1, 0, none⟩) 3 3, .slice (some ⟨w.heap.size + 1 + 1 + 1, 0, none⟩) 3 3] 37)).alloc (.cells #[.slice (some ⟨w.heap.size + 1 + 1 + 1 + 1, 0, none⟩) 3 3] 29)
  have R3 := ((Box.new (((w.alloc (.cells (z9 r) 26)).alloc (.cells (t3 (fun _ => 0)) 2)).alloc (.cells (t3 (fun _ => 0)) 2)) 2 (t3 (fun _ => 0))).alloc (.cells #[.slice (some ⟨w.heap.size + 1, 0, none⟩) 3 3, .slice (some ⟨w.heap.size + 1 + 1, 0, none⟩) 3 3, .slice (some ⟨w.heap.size + 1 + 1 + 1, 0, none⟩) 3 3] 37)).alloc (.cells #[.slice (some ⟨w.heap.size + 1 + 1 + 1 + 1, 0, none⟩) 3 3] 29)
  have R4 := (Box.new ((((w.alloc (.cells (z9 r) 26)).alloc (.cells (t3 (fun _ => 0)) 2)).alloc (.cells (t3 (fun _ => 0)) 2)).alloc (.cells (t3 (fun _ => 0)) 2)) 37 #[.slice (some ⟨w.heap.size + 1, 0, none⟩) 3 3, .slice (some ⟨w.heap.size + 1 + 1, 0, none⟩) 3 3, .slice (some ⟨w.heap.size + 1 + 1 + 1, 0, none⟩) 3 3]).alloc (.cells #[.slice (some ⟨w.heap.size + 1 + 1 + 1 + 1, 0, none⟩) 3 3] 29)
  have R5 := Box.new (((((w.alloc (.cells (z9 r) 26)).alloc (.cells (t3 (fun _ => 0)) 2)).alloc (.cells (t3 (fun _ => 0)) 2)).alloc (.cells (t3 (fun _ => 0)) 2)).alloc (.cells #[.slice (some ⟨w.heap.size + 1, 0, none⟩) 3 3, .slice (some ⟨w.heap.size + 1 + 1, 0, none⟩) 3 3, .slice (some ⟨w.heap.size + 1 + 1 + 1, 0, none⟩) 3 3] 37)) 29 #[.slice (some ⟨w.heap.size + 1 + 1 + 1 + 1, 0, none⟩) 3 3]
  simp only [World.size_alloc] at R1 R2 R3 R4 R5
  have O0 := Lib.hid (ownG_one R5 (B := w.heap.size) (by omega))
  have T0 : Hid (TabB ((((((w.alloc (.cells (z9 r) 26)).alloc (.cells (t3 (fun _ => 0)) 2)).alloc (.cells (t3 (fun _ => 0)) 2)).alloc (.cells (t3 (fun _ => 0)) 2)).alloc (.cells #[.slice (some ⟨w.heap.size + 1, 0, none⟩) 3 3, .slice (some ⟨w.heap.size + 1 + 1, 0, none⟩) 3 3, .slice (some ⟨w.heap.size + 1 + 1 + 1, 0, none⟩) 3 3] 37)).alloc (.cells #[.slice (some ⟨w.heap.size + 1 + 1 + 1 + 1, 0, none⟩) 3 3] 29)) (.slice (some ⟨w.heap.size + 1 + 1 + 1 + 1, 0, none⟩) 3 3) (tbl (alR r) 0)) := ⟨_, _, _, rfl, R4, fun i hi => by
    match i, hi with
    | 0, _ => exact ⟨_, rfl, R1⟩
    | 1, _ => exact ⟨_, rfl, R2⟩
    | 2, _ => exact ⟨_, rfl, R3⟩⟩
  have HB0 : Hid (Below w.heap.size w ((((((w.alloc (.cells (z9 r) 26)).alloc (.cells (t3 (fun _ => 0)) 2)).alloc (.cells (t3 (fun _ => 0)) 2)).alloc (.cells (t3 (fun _ => 0)) 2)).alloc (.cells #[.slice (some ⟨w.heap.size + 1, 0, none⟩) 3 3, .slice (some ⟨w.heap.size + 1 + 1, 0, none⟩) 3 3, .slice (some ⟨w.heap.size + 1 + 1 + 1, 0, none⟩) 3 3] 37)).alloc (.cells #[.slice (some ⟨w.heap.size + 1 + 1 + 1 + 1, 0, none⟩) 3 3] 29))) := ((((((Below.refl _ _).alloc (Nat.le_refl _) _).alloc (by simp) _).alloc (by simp; omega) _).alloc (by simp; omega) _).alloc (by simp; omega) _).alloc (by simp; omega) _
  clear R1 R2 R3 R4 R5
  go_enter Try.func33, Try.ntmps33
  go_wp2
  go_loopw [5, 6] (fun v5 v6 wr => ∃ q : Nat, q ≤ n ∧ v6 = .int .i64 ((q : Int) + 1) ∧ ∃ A5 c5 vals, v5 = .slice A5 (q + 1) c5 ∧ OwnG 29 1 w.heap.size wr A5 (q + 1) c5 vals ∧ (∀ d, d < q + 1 → ∃ v, vals[d]? = some v ∧ TabB wr v (tbl (alR r) d)) ∧ Box wr w.heap.size 26 (z9 r) ∧ Below w.heap.size w wr) (fun _ v6 _ => n + 2 - (intOf v6).toNat)
  case atStart =>
    refine ⟨0, Nat.zero_le _, rfl, _, _, _, rfl, O0.out, fun d hd => ?_, X0.out, HB0.out⟩
    obtain rfl : d = 0 := by omega
    exact ⟨_, rfl, T0.out⟩
  case round =>
    obtain ⟨wo, rfl⟩ : ∃ x, x = wr := ⟨wr, rfl⟩
    obtain ⟨q, hq, rfl, A5, c5, vals, rfl, hO, hTs, hX, hb⟩ := hrel
    have HO := Lib.hid hO
    have HTs := Lib.hid hTs
    have HX := Lib.hid hX
    have HB := Lib.hid hb
    have hsz := hb.size
    have hcap := hO.cap
    clear hO hTs hX hb X0 O0 T0 HB0
    by_cases hlt : q < n
    · obtain ⟨v, hv, htb⟩ := HTs.out q (by omega)
      obtain ⟨g, c8, rfl, htab⟩ := htb.tabI
      obtain ⟨g5, rfl, hg5, hg5l, hcell⟩ := HO.out.cell q (by omega)
      rw [hv] at hcell
      have HTab := Lib.hid htab
      clear hv htb htab
      have hq1 : (q : Int) + 1 ≤ (n : Int) := by omega
      go_wp2
      go_loopw [8, 9] (fun v8 v9 wm => ∃ i : Nat, i ≤ 3 ∧ v9 = .int .i64 i ∧ ∃ A8 d8 rows, v8 = .slice A8 i d8 ∧ OwnG 37 1 wo.heap.size wm A8 i d8 rows ∧ (∀ d, d < i → ∃ b, rows[d]? = some (.slice (some ⟨b, 0, none⟩) 3 3) ∧ Box wm b 2 (t3 (rowF (alR r) (tbl (alR r) q) d 3))) ∧ Below wo.heap.size wo wm) (fun _ v9 _ => 3 - (intOf v9).toNat)
      case atStart =>
        exact ⟨0, by omega, rfl, _, _, [], rfl, OwnG.emptyAt (Box.new wo 37 #[]) (Nat.le_refl _), fun d hd => absurd hd (by omega), (Below.refl _ _).alloc (Nat.le_refl _) _⟩
      case round =>
        obtain ⟨wm, rfl⟩ : ∃ x, x = wr := ⟨wr, rfl⟩
        obtain ⟨i, hi, rfl, A8, d8, rows, rfl, hO8, hR8, hb8⟩ := hrel
        have HO8 := Lib.hid hO8
        have HR8 := Lib.hid hR8
        have HB8 := Lib.hid hb8
        have hz8 := hb8.size
        have hcap8 := hO8.cap
        clear hO8 hR8 hb8 hcell
        by_cases hi3 : i < 3
        · have hi3' : (i : Int) < 3 := by omega
          go_wp2
          go_loopw [11] (fun v11 wj => ∃ j : Nat, j ≤ 3 ∧ v11 = .int .i64 j ∧ Box wj wm.heap.size 2 (t3 (rowF (alR r) (tbl (alR r) q) i j)) ∧ Below wm.heap.size wm wj) (fun v11 _ => 3 - (intOf v11).toNat)
          case atStart =>
            exact ⟨0, by omega, rfl, (t3_congr (f := fun _ => 0) (g := rowF (alR r) (tbl (alR r) q) i 0) (fun k _ => by unfold rowF; rw [if_neg (by omega)])) ▸ Box.new wm 2 (t3 (fun _ => 0)), (Below.refl _ _).alloc (Nat.le_refl _) _⟩
          case round =>
            obtain ⟨wj, rfl⟩ : ∃ x, x = wr := ⟨wr, rfl⟩
            obtain ⟨j, hj, rfl, hbx, hbj⟩ := hrel
            have HBX := Lib.hid hbx
            have HBJ := Lib.hid hbj
            have hzj := hbj.size
            have hzx := hbx.lt
            clear hbx hbj
            by_cases hj3 : j < 3
            · have hj3' : (j : Int) < 3 := by omega
              by_cases hij : i = j
              · subst hij
                go_wp2
                go_roundw
                case rel => exact ⟨i + 1, by omega, by go_num, by rw [rowF_same]; exact HBX.out, HBJ.out⟩
                case measure => simp [intOf]; omega
              · have hij' : ¬ (i : Int) = (j : Int) := by omega
                have XJ := Lib.hid ((HX.out.below HB8.out HX.out.lt).below HBJ.out (HX.out.below HB8.out HX.out.lt).lt)
                obtain ⟨x0, x1, x2, x3, x4, x5, x6, x7, x8⟩ := XJ.out.nine
                have TJ := Lib.hid ((HTab.out.below HB8.out).below HBJ.out)
                go_wp2_with fail
                refine (l07Both_calls r (tbl (alR r) q) _ c8 i j hi3 hj3 hij _ TJ.out (HT.out q (by omega))).mono ?_
                have hsel := sel_eq (a := alR r) (c := tbl (alR r) q) (i := i) (j := j) (HA.out i j (by omega) (by omega) hij') (HT.out q (by omega))
                obtain ⟨o, ho⟩ : ∃ o, bOne (alR r) (tbl (alR r) q) i j = o := ⟨_, rfl⟩
                obtain ⟨t, ht⟩ : ∃ t, bTwo (alR r) (tbl (alR r) q) i j = t := ⟨_, rfl⟩
                rw [ho, ht] at hsel ⊢
                have HSEL := Lib.hid hsel
                clear ho ht hsel
                rintro e w1 ⟨rfl, hb1⟩
                have HBX1 := Lib.hid (HBX.out.below hb1 HBX.out.lt)
                have HBJ1 := Lib.hid (HBJ.out.trans (hb1.mono hzj))
                clear hb1 x0 x1 x2 x3 x4 x5 x6 x7 x8
                have k0 := HBX1.out.at3 hj3
                have kf := HBX1.out.frozen j
                by_cases h1 : o < 0
                · go_wp2
                  go_roundw
                  case rel =>
                    refine ⟨j + 1, by omega, by go_num, ?_, ((HBJ1.out.setCell (Nat.le_refl _) _).setCell (Nat.le_refl _) _)⟩
                    have e := ((HBX1.out.set3 (k := j) hj3 o).set3 (k := j) hj3 t)
                    rwa [t3_congr (g := rowF (alR r) (tbl (alR r) q) i (j + 1)) (fun k _ => by
                      have hm : t = mV (alR r) (tbl (alR r) q) i j := by rw [← HSEL.out]; unfold selV; rw [if_pos (by omega)]
                      rw [← rowF_next _ _ (Ne.symm hij), ← hm]
                      by_cases hk : k = j
                      · rw [if_pos hk, if_pos hk]
                      · rw [if_neg hk, if_neg hk, if_neg hk])] at e
                  case measure => simp [intOf]; omega
                · by_cases h2 : 0 ≤ t
                  · by_cases h3 : t < o
                    · go_wp2
                      go_roundw
                      case rel =>
                        refine ⟨j + 1, by omega, by go_num, ?_, ((HBJ1.out.setCell (Nat.le_refl _) _).setCell (Nat.le_refl _) _)⟩
                        have e := ((HBX1.out.set3 (k := j) hj3 o).set3 (k := j) hj3 t)
                        rwa [t3_congr (g := rowF (alR r) (tbl (alR r) q) i (j + 1)) (fun k _ => by
                          have hm : t = mV (alR r) (tbl (alR r) q) i j := by rw [← HSEL.out]; unfold selV; rw [if_pos (by omega)]
                          rw [← rowF_next _ _ (Ne.symm hij), ← hm]
                          by_cases hk : k = j
                          · rw [if_pos hk, if_pos hk]
                          · rw [if_neg hk, if_neg hk, if_neg hk])] at e
                      case measure => simp [intOf]; omega
                    · go_wp2
                      go_roundw
                      case rel =>
                        refine ⟨j + 1, by omega, by go_num, ?_, (HBJ1.out.setCell (Nat.le_refl _) _)⟩
                        have e := (HBX1.out.set3 (k := j) hj3 o)
                        rwa [t3_congr (g := rowF (alR r) (tbl (alR r) q) i (j + 1)) (fun k _ => by
                          have hm : o = mV (alR r) (tbl (alR r) q) i j := by rw [← HSEL.out]; unfold selV; rw [if_neg (by omega)]
                          rw [← rowF_next _ _ (Ne.symm hij), ← hm])] at e
                      case measure => simp [intOf]; omega
                  · go_wp2
                    go_roundw
                    case rel =>
                      refine ⟨j + 1, by omega, by go_num, ?_, (HBJ1.out.setCell (Nat.le_refl _) _)⟩
                      have e := (HBX1.out.set3 (k := j) hj3 o)
                      rwa [t3_congr (g := rowF (alR r) (tbl (alR r) q) i (j + 1)) (fun k _ => by
                        have hm : o = mV (alR r) (tbl (alR r) q) i j := by rw [← HSEL.out]; unfold selV; rw [if_neg (by omega)]
                        rw [← rowF_next _ _ (Ne.symm hij), ← hm])] at e
                    case measure => simp [intOf]; omega
            · obtain rfl : j = 3 := by omega
              have HO8J := Lib.hid (HO8.out.below HBJ.out)
              go_wp2_with (at_builtin; refine wpList_append_own _ rfl _ _ 29 rfl wo.heap.size 37 i1 (.slice none 0 0) 1 24 Try.underlying29 hi1 hy0 hy1 hy2 rfl (by decide) _ _ _ rfl (HO8J.out.alloc _) ⟨wj.heap.size, 0, none⟩ 1 1 [.slice (some ⟨wm.heap.size, 0, none⟩) 3 3] rfl rfl (World.news_of_block (cs := #[.slice (some ⟨wm.heap.size, 0, none⟩) 3 3]) (t := 37) (fr := (0, 0)) (heap_alloc_new wj _)) (by simp [Value.oneCell']) (by unfold maxLen; omega) (by omega) (by simp; omega) ?_; intro v' w3 hown' hgrow _; obtain ⟨A2, c2, rfl⟩ := ownG_shape hown'; have HO9 := Lib.hid (show OwnG 37 1 wo.heap.size w3 A2 (i + 1) c2 (rows ++ [Value.slice (some ⟨wm.heap.size, 0, none⟩) 3 3]) from hown'); have HBX9 := Lib.hid (HO8J.out.grown_box hgrow HBX.out (by decide)); have HB9 := Lib.hid ((HB8.out.trans (HBJ.out.mono hz8)).trans (HO8J.out.grown_below hgrow (Nat.le_refl _) (by omega))); have HR9 := Lib.hid (fun d hd => by obtain ⟨b, e1, e2⟩ := HR8.out d hd; exact (⟨b, e1, HO8J.out.grown_box hgrow (e2.below HBJ.out e2.lt) (by decide)⟩ : ∃ b, rows[d]? = some (.slice (some ⟨b, 0, none⟩) 3 3) ∧ Box w3 b 2 (t3 (rowF (alR r) (tbl (alR r) q) d 3)))); clear hown' hgrow)
              have hl8 : rows.length = i := by have := HO8.out.len; omega
              go_roundw
              case rel =>
                refine ⟨i + 1, by omega, by go_num, A2, c2, rows ++ [Value.slice (some ⟨wm.heap.size, 0, none⟩) 3 3], rfl, HO9.out, fun d hd => ?_, HB9.out⟩
                by_cases hdi : d < i
                · obtain ⟨b, e1, e2⟩ := HR9.out d hdi
                  exact ⟨b, by rw [List.getElem?_append_left (by omega)]; exact e1, e2⟩
                · obtain rfl : d = i := by omega
                  exact ⟨_, by rw [List.getElem?_append_right (by omega)]; simp [hl8], HBX9.out⟩
              case measure => simp [intOf]; omega
        · obtain rfl : i = 3 := by omega
          have HO5 := Lib.hid (HO.out.below HB8.out)
          have TN := Lib.hid (tab_of_own HO8.out HR8.out)
          have hl5 : vals.length = q + 1 := by have := HO.out.len; omega
          go_wp2_with (at_builtin; refine wpList_append_own _ rfl _ _ 58 rfl w.heap.size 29 i2 (.slice none 0 0) 1 24 Try.underlying58 hi2 hz0 hz1 hz2 rfl (by decide) _ _ _ rfl (HO5.out.alloc _) ⟨wm.heap.size, 0, none⟩ 1 1 [.slice A8 3 d8] rfl rfl (World.news_of_block (cs := #[.slice A8 3 d8]) (t := 29) (fr := (0, 0)) (heap_alloc_new wm _)) (by simp [Value.oneCell']) (by unfold maxLen; omega) (by omega) (by simp; omega) ?_; intro v' w3 hown' hgrow _; obtain ⟨A2, c2, rfl⟩ := ownG_shape hown'; have HO6 := Lib.hid (show OwnG 29 1 w.heap.size w3 A2 (q + 1 + 1) c2 (vals ++ [Value.slice A8 3 d8]) from hown'); have TN6 := Lib.hid (TN.out.grown HO5.out hgrow); have HX6 := Lib.hid (HO5.out.grown_box hgrow (HX.out.below HB8.out HX.out.lt) (by decide)); have HB6 := Lib.hid ((HB.out.trans (HB8.out.mono hsz)).trans (HO5.out.grown_below hgrow (Nat.le_refl _) (by omega))); have HT6 := Lib.hid (fun d hd => by obtain ⟨v, e1, e2⟩ := HTs.out d hd; exact (⟨v, e1, (e2.below HB8.out).grown HO5.out hgrow⟩ : ∃ v, vals[d]? = some v ∧ TabB w3 v (tbl (alR r) d))); clear hown' hgrow)
          go_roundw
          case rel =>
            refine ⟨q + 1, by omega, by go_num, A2, c2, vals ++ [Value.slice A8 3 d8], rfl, HO6.out, fun d hd => ?_, HX6.out, HB6.out⟩
            by_cases hdi : d < q + 1
            · obtain ⟨v, e1, e2⟩ := HT6.out d hdi
              exact ⟨v, by rw [List.getElem?_append_left (by omega)]; exact e1, e2⟩
            · obtain rfl : d = q + 1 := by omega
              exact ⟨_, by rw [List.getElem?_append_right (by omega)]; simp [hl5], TN6.out⟩
          case measure => simp [intOf]; omega
    · obtain rfl : q = n := by omega
      go_wp2
      go_ret
      exact ⟨_, _, _, rfl, HO.out, HTs.out, HB.out⟩

end Go.Proofs.Ytfdjlgpdbgmdkac
