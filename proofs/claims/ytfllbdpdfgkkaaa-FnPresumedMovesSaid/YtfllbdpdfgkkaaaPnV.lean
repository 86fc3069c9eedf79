/- What the functions of chapter 8 answer. No program. -/
import Derived.Test.YtfllbdpdfgkkaaaPnT
namespace Go.Proofs.Ytfllbdpdfgkkaaa
open Go.RowKit
set_option linter.unusedVariables false

/-- The splits of q + 4 pegs. -/
def spF (q n : Nat) : List Int := splL (sN (pnF (q + 1)) (pnF q) n) (pnF (q + 1) n) (n - 1)
theorem spF_len (q n : Nat) : (spF q n).length ≤ n - 1 := splL_len _ _ _
theorem spF_pos {q n : Nat} (h : 2 ≤ n) : 1 ≤ (spF q n).length := by
  obtain ⟨m, rfl⟩ : ∃ m, n = m + 2 := ⟨n - 2, by omega⟩
  obtain ⟨j, h1, h2, h3⟩ := lstN_is (a := 1) (f := sN (pnF (q + 1)) (pnF q) (m + 2)) (m + 1) (by omega)
  exact splL_some _ j h1 h2 (by rw [pnF_succ, h3])
/-- The least split. -/
def hdF (q n : Nat) : Nat := ((spF q n)[0]?.getD 0).toNat
theorem hdF_bd {q n : Nat} (h : 2 ≤ n) : 1 ≤ hdF q n ∧ hdF q n ≤ n - 1 ∧ (spF q n)[0]?.getD 0 = (hdF q n : Int) := by
  obtain ⟨j, h1, h2, h3, _⟩ := splL_head _ (spF_pos (q := q) h)
  unfold hdF spF
  rw [h3]
  omega
theorem hd_cell {q n : Nat} (h : 2 ≤ n) : ((spF q n).map (Value.int .i64))[0]? = some (.int .i64 (hdF q n : Nat)) := by
  have hp := spF_pos (q := q) h
  rw [List.getElem?_map, List.getElem?_eq_getElem (show 0 < (spF q n).length by omega)]
  have := (hdF_bd (q := q) h).2.2
  rw [List.getElem?_eq_getElem (show 0 < (spF q n).length by omega)] at this
  simp only [Option.getD_some] at this
  simp only [Option.map_some, this]
/-- The parts of q + 3 pegs. -/
def ptL : Nat → Nat → List Int
  | 0, n => [(n : Int)]
  | q + 1, n => if n ≤ 1 then [(n : Int)] else (hdF q n : Int) :: ptL q (n - hdF q n)
theorem ptL_len : ∀ q n, (ptL q n).length ≤ q + 1
  | 0, n => by simp [ptL]
  | q + 1, n => by
    rw [ptL]
    split
    · simp
    · have := ptL_len q (n - hdF q n)
      simp; omega
/-- The greatest one of 1 to k whose number is at most m; 0 if there is none. -/
def grF (f : Nat → Int) (m : Int) : Nat → Nat
  | 0 => 0
  | k + 1 => if f (k + 1) ≤ m then k + 1 else grF f m k
theorem grF_le (f : Nat → Int) (m : Int) : ∀ k, grF f m k ≤ k
  | 0 => Nat.le_refl _
  | k + 1 => by have := grF_le f m k; rw [grF]; split <;> omega

def pnV (p n : Int) : Int := if prB 10 p 60 n = true then pnF (p - 3).toNat n.toNat else 0
def stV (p n : Int) : List Int := if prB 10 p 60 n = true then tabL (fun i => pnF (p - 3).toNat (i + 1) - pnF (p - 3).toNat i) n.toNat else []
def ptV (p n : Int) : List Int := if prB 10 p 60 n = true then ptL (p - 3).toNat n.toNat else []
def twV (p m : Int) : Int := if prB 10 p 9223372036854775807 m = true then (grF (pnF (p - 3).toNat) m 60 : Nat) else 0
def spV (p n : Int) : List Int := if prB 10 p 60 n = true then if p = 3 ∨ n < 2 then [] else spF (p - 4).toNat n.toNat else []
def spC (p n : Int) : Int := if prB 10 p 60 n = true then if p = 3 ∨ n < 2 then 5 else 0 else 2
theorem q3 (q : Nat) : ((q : Int) + 3 - 3).toNat = q := by omega
theorem pnV_yes {q m : Nat} (h : prB 10 ((q : Int) + 3) 60 m = true) : pnV ((q : Int) + 3) m = pnF q m := by unfold pnV; rw [if_pos h, q3, Int.toNat_natCast]
theorem stV_yes {q m : Nat} (h : prB 10 ((q : Int) + 3) 60 m = true) : stV ((q : Int) + 3) m = tabL (fun i => pnF q (i + 1) - pnF q i) m := by unfold stV; rw [if_pos h, q3, Int.toNat_natCast]
theorem ptV_yes {q m : Nat} (h : prB 10 ((q : Int) + 3) 60 m = true) : ptV ((q : Int) + 3) m = ptL q m := by unfold ptV; rw [if_pos h, q3, Int.toNat_natCast]
theorem twV_yes {q : Nat} {m : Int} (h : prB 10 ((q : Int) + 3) 9223372036854775807 m = true) : twV ((q : Int) + 3) m = (grF (pnF q) m 60 : Nat) := by unfold twV; rw [if_pos h, q3]
theorem spV_yes {q m : Nat} (h : prB 10 ((q : Int) + 4) 60 m = true) (h2 : 2 ≤ m) : spV ((q : Int) + 4) m = spF q m ∧ spC ((q : Int) + 4) m = 0 := by
  have e : ((q : Int) + 4 - 4).toNat = q := by omega
  have hn : ¬ ((q : Int) + 4 = 3 ∨ (m : Int) < 2) := by omega
  unfold spV spC
  rw [if_pos h, if_neg hn, e, Int.toNat_natCast, if_pos h, if_neg hn]
  exact ⟨rfl, rfl⟩
theorem spV_none {p n : Int} (h : prB 10 p 60 n = true) (h2 : p = 3 ∨ n < 2) : spV p n = [] ∧ spC p n = 5 := by
  unfold spV spC
  rw [if_pos h, if_pos h2, if_pos h, if_pos h2]
  exact ⟨rfl, rfl⟩
theorem spV_no {p n : Int} (h : prB 10 p 60 n = false) : spV p n = [] ∧ spC p n = 2 := by
  unfold spV spC
  rw [h]
  exact ⟨rfl, rfl⟩
theorem pnV_no {p n : Int} (h : prB 10 p 60 n = false) : pnV p n = 0 := by unfold pnV; rw [h]; rfl
theorem stV_no {p n : Int} (h : prB 10 p 60 n = false) : stV p n = [] := by unfold stV; rw [h]; rfl
theorem ptV_no {p n : Int} (h : prB 10 p 60 n = false) : ptV p n = [] := by unfold ptV; rw [h]; rfl
theorem twV_no {p n : Int} (h : prB 10 p 9223372036854775807 n = false) : twV p n = 0 := by unfold twV; rw [h]; rfl
theorem len_le {p n : Int} (h : prB 10 p 60 n = true) : ∃ q m : Nat, p = (q : Int) + 3 ∧ n = m ∧ q < 8 ∧ m ≤ 60 := by
  have hb := prB_of h
  exact ⟨(p - 3).toNat, n.toNat, by omega, by omega, by omega, by omega⟩
theorem stV_len (p n : Int) : (stV p n).length ≤ 1048576 := by
  by_cases h : prB 10 p 60 n = true
  · obtain ⟨q, m, rfl, rfl, hq, hm⟩ := len_le h
    rw [stV_yes h, tabL_len]; omega
  · rw [stV_no (by simpa using h)]; simp
theorem ptV_len (p n : Int) : (ptV p n).length ≤ 1048576 := by
  by_cases h : prB 10 p 60 n = true
  · obtain ⟨q, m, rfl, rfl, hq, hm⟩ := len_le h
    rw [ptV_yes h]; have := ptL_len q m; omega
  · rw [ptV_no (by simpa using h)]; simp
theorem spV_len (p n : Int) : (spV p n).length ≤ 1048576 := by
  by_cases h : prB 10 p 60 n = true
  · by_cases h2 : p = 3 ∨ n < 2
    · rw [(spV_none h h2).1]; simp
    · obtain ⟨q, m, rfl, rfl, hq, hm⟩ := len_le h
      obtain ⟨r, rfl⟩ : ∃ r, q = r + 1 := ⟨q - 1, by omega⟩
      rw [show (((r + 1 : Nat) : Int) + 3) = (r : Int) + 4 by omega] at h ⊢
      rw [(spV_yes h (by omega)).1]; have := spF_len r m; omega
  · rw [(spV_no (by simpa using h)).1]; simp

end Go.Proofs.Ytfllbdpdfgkkaaa
