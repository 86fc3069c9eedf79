/- Contracts: DetourNumber, by the specification's model and by the program. -/
import Derived.Test.YtdccdnjcmpkkgaaStraight
namespace Go.Proofs.Ytdccdnjcmpkkgaa
open Go.RowKit
open Go.RowKit (wrap64)
set_option linter.unusedVariables false

theorem lcode2_zero {k j : Int} {L M : List Int} (h : lcode2 k j L M = 0) : twoWB k L M = true ∧ pegB k j = true := by
  unfold lcode2 wcode2 at h
  split at h
  · split at h
    · exact ⟨by assumption, by assumption⟩
    · omega
  · omega
theorem lcode2_two {k j : Int} {L M : List Int} (h : ¬ lcode2 k j L M = 0) : lcode2 k j L M = 2 := by
  unfold lcode2 wcode2 at *
  split
  · split
    · simp_all
    · rfl
  · rfl

/-- The place at which the words part, as a number. -/
def grN (L M : List Int) : Nat := (grt L M L.length).toNat
def dtBadB (L M : List Int) (z : Int) : Bool := decide (grt L M L.length = -1 ∨ z = L[grN L M]?.getD 0 ∨ z = M[grN L M]?.getD 0)
def dtC (k : Int) (L M : List Int) (z : Int) : Int := if lcode2 k z L M = 0 then (if dtBadB L M z = true then 5 else 0) else 2
def dtV (k : Int) (L M : List Int) (z : Int) : Int := if dtC k L M z = 0 then toE L z (grN L M) + toE M z (grN L M) + pow2 (grN L M) + 1 else 0
theorem dt_two {k z : Int} {L M : List Int} (h : ¬ lcode2 k z L M = 0) : dtV k L M z = 0 ∧ dtC k L M z = 2 := by
  have : dtC k L M z = 2 := by unfold dtC; rw [if_neg h]
  exact ⟨by unfold dtV; rw [if_neg (by omega)], this⟩
theorem dt_five {k z : Int} {L M : List Int} (h : lcode2 k z L M = 0) (hb : dtBadB L M z = true) : dtV k L M z = 0 ∧ dtC k L M z = 5 := by
  have : dtC k L M z = 5 := by unfold dtC; rw [if_pos h, if_pos hb]
  exact ⟨by unfold dtV; rw [if_neg (by omega)], this⟩
theorem dt_good {k z : Int} {L M : List Int} {g : Nat} (h : lcode2 k z L M = 0) (hb : dtBadB L M z = false) (hg : grN L M = g) : dtV k L M z = toE L z g + toE M z g + pow2 g + 1 ∧ dtC k L M z = 0 := by
  have : dtC k L M z = 0 := by unfold dtC; rw [if_pos h, hb]; rfl
  exact ⟨by unfold dtV; rw [if_pos this, hg], this⟩
theorem dt_same {L M : List Int} {z : Int} (h : grt L M L.length = -1) : dtBadB L M z = true := by unfold dtBadB; rw [decide_eq_true_iff]; exact Or.inl h
theorem grN_of {L M : List Int} {g : Nat} {n : Nat} (hL : L.length = n) (h : grt L M n = g) : grN L M = g := by unfold grN; rw [hL, h]; simp
theorem dt_at {L M : List Int} {z : Int} {g : Nat} {n : Nat} (hL : L.length = n) (h : grt L M n = g) (hz : z = L[g]?.getD 0 ∨ z = M[g]?.getD 0) : dtBadB L M z = true := by
  unfold dtBadB; rw [decide_eq_true_iff, grN_of hL h]; exact Or.inr hz
theorem dt_ok {L M : List Int} {z : Int} {g : Nat} {n : Nat} (hL : L.length = n) (h : grt L M n = g) (h1 : ¬ z = L[g]?.getD 0) (h2 : ¬ z = M[g]?.getD 0) : dtBadB L M z = false := by
  unfold dtBadB; rw [decide_eq_false_iff_not, grN_of hL h, hL, h]; rintro (h' | h' | h') <;> first | omega | exact h1 h' | exact h2 h'
theorem wrap_sum3 {x y p : Int} (hx : 0 ≤ x ∧ x ≤ 1000) (hy : 0 ≤ y ∧ y ≤ 1000) (hp : 0 ≤ p ∧ p ≤ 1000) : wrap64 (wrap64 (wrap64 (x + y) + p) + 1) = x + y + p + 1 := by
  have e1 : wrap64 (x + y) = x + y := IntWalk.wrap64_in _ (by omega)
  have e2 : wrap64 (x + y + p) = x + y + p := IntWalk.wrap64_in _ (by omega)
  have e3 : wrap64 (x + y + p + 1) = x + y + p + 1 := IntWalk.wrap64_in _ (by omega)
  exact (congrArg (fun t => wrap64 (wrap64 (t + p) + 1)) e1).trans ((congrArg (fun t => wrap64 (t + 1)) e2).trans e3)
theorem grt_cases (L M : List Int) (n : Nat) : grt L M n = -1 ∨ ∃ g : Nat, grt L M n = g := by
  have := grt_bd L M n
  by_cases h : grt L M n = -1
  · exact Or.inl h
  · exact Or.inr ⟨(grt L M n).toNat, by omega⟩

end Go.Proofs.Ytdccdnjcmpkkgaa
