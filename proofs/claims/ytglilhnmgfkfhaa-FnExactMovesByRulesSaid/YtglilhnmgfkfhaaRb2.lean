/- Contracts: a run by rules, by the specification's model. -/
import Derived.Test.YtglilhnmgfkfhaaRb1
import Derived.Test.YtglilhnmgfkfhaaRuAllow
import Derived.Test.YtglilhnmgfkfhaaRunM
import Derived.BigQuiet
import Derived.StillTailTactics
namespace Go.Proofs.Ytglilhnmgfkfhaa
open Go.RowKit
set_option linter.unusedVariables false

/-- The first k moves are all allowed. -/
def alA (r : Nat → Int) (M : List Mv) : Nat → Bool
  | 0 => true
  | k + 1 => alA r M k && alR r (mvAt M k).2.1 (mvAt M k).2.2
theorem alA_le {r : Nat → Int} {M : List Mv} {k : Nat} (h : alA r M k = false) : ∀ m, k ≤ m → alA r M m = false
  | 0, hm => by obtain rfl : k = 0 := by omega
                exact h
  | m + 1, hm => by
    by_cases e : k = m + 1
    · subst e; exact h
    · show (alA r M m && _) = false
      rw [alA_le h m (by omega), Bool.false_and]
def rbE (r : Nat → Int) (p : Int) (L : List Int) (M : List Mv) : Int :=
  if (ruB r && s3B p L) = true then (if M.length ≤ 6561 then (if (okA p L M M.length && alA r M M.length) = true then 0 else 5) else 2) else 1
def rbP (r : Nat → Int) (p : Int) (L : List Int) (M : List Mv) : Int := if rbE r p L M = 0 then p else 0
def rbL (r : Nat → Int) (p : Int) (L : List Int) (M : List Mv) : List Int := if rbE r p L M = 0 then stA L M M.length else []
theorem rb_is {r : Nat → Int} {p E : Int} {L : List Int} {M : List Mv} (h : rbE r p L M = E) (hE : E ≠ 0) : rbP r p L M = 0 ∧ rbL r p L M = [] ∧ rbE r p L M = E := by
  refine ⟨?_, ?_, h⟩
  · unfold rbP; rw [if_neg (by rw [h]; exact hE)]
  · unfold rbL; rw [if_neg (by rw [h]; exact hE)]
theorem rb_yes {r : Nat → Int} {p : Int} {L : List Int} {M : List Mv} (hr : ruB r = true) (hs : s3B p L = true) (hm : M.length ≤ 6561) (ho : okA p L M M.length = true) (ha : alA r M M.length = true) :
    rbP r p L M = p ∧ rbL r p L M = stA L M M.length ∧ rbE r p L M = 0 := by
  have h : rbE r p L M = 0 := by unfold rbE; rw [hr, hs, Bool.and_self, if_pos rfl, if_pos hm, ho, ha]; rfl
  exact ⟨by unfold rbP; rw [if_pos h], by unfold rbL; rw [if_pos h], h⟩
theorem rb_1 {r : Nat → Int} {p : Int} {L : List Int} {M : List Mv} (h : ¬ (ruB r = true ∧ s3B p L = true)) : rbE r p L M = 1 := by unfold rbE; rw [if_neg]; simpa using h
theorem rb_2 {r : Nat → Int} {p : Int} {L : List Int} {M : List Mv} (hr : ruB r = true) (hs : s3B p L = true) (hm : ¬ M.length ≤ 6561) : rbE r p L M = 2 := by unfold rbE; rw [hr, hs, Bool.and_self, if_pos rfl, if_neg hm]
theorem rb_5 {r : Nat → Int} {p : Int} {L : List Int} {M : List Mv} (hr : ruB r = true) (hs : s3B p L = true) (hm : M.length ≤ 6561) (h : ¬ (okA p L M M.length = true ∧ alA r M M.length = true)) : rbE r p L M = 5 := by
  unfold rbE; rw [hr, hs, Bool.and_self, if_pos rfl, if_pos hm, if_neg]; simpa using h
theorem rb_rsC {r : Nat → Int} {p : Int} {L : List Int} {M : List Mv} (hr : ruB r = true) (hs : s3B p L = true) (h : rsB p L M = false) : rbE r p L M = rsC p L M := by
  have hst := (s3_of hs).1
  by_cases hm : M.length ≤ 6561
  · by_cases ho : okA p L M M.length = true
    · unfold rsB at h; rw [hst, ho, decide_eq_true hm] at h; cases h
    · rw [rb_5 hr hs hm (fun h => ho h.1)]; unfold rsC; rw [if_pos hst, if_pos hm, if_neg ho]
  · rw [rb_2 hr hs hm]; unfold rsC; rw [if_pos hst, if_neg hm]
theorem rsB_of {p : Int} {L : List Int} {M : List Mv} (h : rsB p L M = true) : stateB p L = true ∧ M.length ≤ 6561 ∧ okA p L M M.length = true := by
  unfold rsB at h; simpa using h
theorem okA_at {p : Int} {L : List Int} {M : List Mv} {m k : Nat} (h : okA p L M m = true) (hk : k < m) : okA p L M k = true ∧ legalB p (stA L M k) (mvAt M k).1 (mvAt M k).2.1 (mvAt M k).2.2 = true := by
  have h1 : okA p L M (k + 1) = true := by
    rcases Bool.eq_false_or_eq_true (okA p L M (k + 1)) with e | e
    · exact e
    · rw [okA_le e m (by omega)] at h; cases h
  have h2 : (okA p L M k && legalB p (stA L M k) (mvAt M k).1 (mvAt M k).2.1 (mvAt M k).2.2) = true := h1
  simpa using h2
theorem legal_pegs {p : Int} {L : List Int} {d f t : Int} (hs : stateB p L = true) (h : legalB p L d f t = true) : (0 ≤ f ∧ f ≤ p - 1) ∧ (0 ≤ t ∧ t ≤ p - 1) := by
  unfold legalB at h
  rw [Bool.and_eq_true, decide_eq_true_iff] at h
  obtain ⟨⟨h1, h2, h3, h4, _, h6⟩, _⟩ := h
  have := state_at hs d.toNat (by omega)
  rw [List.getD_eq_getElem?_getD] at h6
  omega
theorem z9_at {w : World} {b t : Nat} {r : Nat → Int} (h : Box w b t (z9 r)) {i : Nat} (hi : i < 9) : w.cell? ⟨b, i, none⟩ = some (.int .i64 (r i)) := by
  rw [h.cell i]
  have : i = 0 ∨ i = 1 ∨ i = 2 ∨ i = 3 ∨ i = 4 ∨ i = 5 ∨ i = 6 ∨ i = 7 ∨ i = 8 := by omega
  rcases this with rfl | rfl | rfl | rfl | rfl | rfl | rfl | rfl | rfl <;> rfl

end Go.Proofs.Ytglilhnmgfkfhaa
