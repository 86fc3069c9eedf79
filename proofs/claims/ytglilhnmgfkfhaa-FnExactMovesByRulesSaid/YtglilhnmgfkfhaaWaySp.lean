/- Contracts: the way to a perfect state, by the specification's model. -/
import Derived.Test.YtglilhnmgfkfhaaWayP
import Derived.Test.YtglilhnmgfkfhaaGoals
import Derived.Test.YtglilhnmgfkfhaaDone
import Derived.Test.YtglilhnmgfkfhaaMvS
import Derived.BigQuiet
import Derived.Deep.AppendLies
import Derived.Deep.RegionLaw
namespace Go.Proofs.Ytglilhnmgfkfhaa
open Go.RowKit
set_option linter.unusedVariables false

/-- The length that a slice names. -/
def lnW : Value → Nat
  | .slice _ n _ => n
  | _ => 0
theorem OwnG.drewW {e size B n c : Nat} {w : World} {A : Option Addr} {xs : List Value} (h : OwnG e size B w A n c xs) : OwnG e size B w.drew A n c xs := h
theorem OwnG.otherW {e e' size size' B B' : Nat} {w w1 : World} {o : Obj} {A A' : Option Addr} {n c n' c' : Nat} {xs xs' : List Value} (h : OwnG e size B w A n c xs) (h' : OwnG e' size' B' w A' n' c' xs') (hg : (w.alloc o).grownBy w1 (Value.slice A' n' c').ownBlock) (ht : e ≠ e') : OwnG e size B w1 A n c xs := by
  refine (h.alloc o).kept hg ?_
  rintro g rfl hr
  rcases h'.form with ⟨rfl, rfl, rfl⟩ | ⟨g', rfl, _, _⟩
  · simp [Value.ownBlock] at hr
  · simp only [Value.ownBlock, Option.some.injEq] at hr
    subst hr
    rcases h.2 with ⟨hv, _⟩ | ⟨g1, cap, cur, hv, _, hh, _⟩
    · simp at hv
    · injection hv with h1
      injection h1 with h1
      injection h1 with h1
      subst h1
      rcases h'.2 with ⟨hv2, _⟩ | ⟨g2, cap2, cur2, hv2, _, hh2, _⟩
      · simp at hv2
      · injection hv2 with h1
        injection h1 with h1
        injection h1 with h1
        subst h1
        rw [hh] at hh2
        injection hh2 with hh2
        injection hh2 with _ h3
        exact ht h3
theorem grown_undrewW {w w' : World} {r : Option Nat} (h : w.drew.grownBy w' r) : w.grownBy w' r := ⟨h.os, h.tape, h.output, h.size, h.block⟩
theorem own_of_row {w : World} {g : Nat} {L : List Int} {B n : Nat} (h : Row w g 2 L) (hB : B ≤ g) (hL : L.length = n) (hn : n ≤ 8) : OwnG 2 1 B w (some ⟨g, 0, none⟩) n n (L.map (Value.int .i64)) := by
  subst hL
  exact Row.own h hB (by omega)
theorem intsW {B : Nat} {w : World} {A : Option Addr} {n c : Nat} {L : List Int} (h : OwnG 2 1 B w A n c (L.map (Value.int .i64))) : Ints w A L := Own.ints (B := B) (n := n) (c := c) h

theorem neW {e e' size size' B B' n c n' c' g g' : Nat} {w : World} {xs xs' : List Value} (h : OwnG e size B w (some ⟨g, 0, none⟩) n c xs) (h' : OwnG e' size' B' w (some ⟨g', 0, none⟩) n' c' xs') (ht : e ≠ e') : g ≠ g' := by
  rintro rfl
  rcases h.2 with ⟨hv, _⟩ | ⟨g1, cap, cur, hv, _, hh, _⟩
  · simp at hv
  · injection hv with h1
    injection h1 with h1
    injection h1 with h1
    subst h1
    rcases h'.2 with ⟨hv2, _⟩ | ⟨g2, cap2, cur2, hv2, _, hh2, _⟩
    · simp at hv2
    · injection hv2 with h1
      injection h1 with h1
      injection h1 with h1
      subst h1
      rw [hh] at hh2
      injection hh2 with hh2
      injection hh2 with _ h3
      exact ht h3

theorem ownAtW {B : Nat} {w : World} {A : Option Addr} {n c : Nat} {L : List Int} (h : OwnG 2 1 B w A n c (L.map (Value.int .i64))) (hL : L.length = n) {k : Nat} (hk : k < n) : ∃ g, A = some ⟨g, 0, none⟩ ∧ B ≤ g ∧ g < w.heap.size ∧ w.cell? ⟨g, k, none⟩ = some (.int .i64 (L[k]?.getD 0)) := by
  obtain ⟨g, h1, h2, h3, h4⟩ := OwnG.cell h k (by omega)
  refine ⟨g, h1, h2, h3, ?_⟩
  rw [h4, List.getElem?_map, List.getElem?_eq_getElem (by omega)]
  rfl

end Go.Proofs.Ytglilhnmgfkfhaa
