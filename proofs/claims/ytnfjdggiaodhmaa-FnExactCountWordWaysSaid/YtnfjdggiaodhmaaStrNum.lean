/- Contracts: StraightNumber, by the specification's model and by the program. -/
import Derived.Test.YtnfjdggiaodhmaaNums
namespace Go.Proofs.Ytnfjdggiaodhmaa
open Go.RowKit
open Go.RowKit (wrap64)
set_option linter.unusedVariables false

theorem numL_head (L M : List Int) (g : Nat) : ∀ c, (numL L M g c)[0]? = some (strN L M g)
  | 0 => rfl
  | c + 1 => by
    have h1 := numL_len L M g c
    unfold numL
    rw [List.getElem?_append_left (by omega)]
    exact numL_head L M g c
theorem twoWB_len {k : Int} {L M : List Int} {n m : Nat} (h : twoWB k L M = true) (hL : L.length = n) (hM : M.length = m) : n = m := by rw [← hL, ← hM]; exact (twoWB_of h).2.2

def snC (k : Int) (L M : List Int) : Int := if twoWB k L M = true then (if grt L M L.length = -1 then 5 else 0) else 2
def snV (k : Int) (L M : List Int) : Int := if snC k L M = 0 then strN L M (grN L M) else 0
theorem sn_two {k : Int} {L M : List Int} (h : twoWB k L M = false) : snV k L M = 0 ∧ snC k L M = 2 := by
  have : snC k L M = 2 := by unfold snC; rw [h]; rfl
  exact ⟨by unfold snV; rw [if_neg (by omega)], this⟩
theorem sn_five {k : Int} {L M : List Int} (h : twoWB k L M = true) (hg : grt L M L.length = -1) : snV k L M = 0 ∧ snC k L M = 5 := by
  have : snC k L M = 5 := by unfold snC; rw [if_pos h, if_pos hg]
  exact ⟨by unfold snV; rw [if_neg (by omega)], this⟩
theorem sn_good {k : Int} {L M : List Int} {g n : Nat} (h : twoWB k L M = true) (hL : L.length = n) (hg : grt L M n = g) : snV k L M = strN L M g ∧ snC k L M = 0 := by
  have : snC k L M = 0 := by unfold snC; rw [if_pos h, if_neg (by rw [hL, hg]; omega)]
  exact ⟨by unfold snV; rw [if_pos this, grN_of hL hg], this⟩

end Go.Proofs.Ytnfjdggiaodhmaa
