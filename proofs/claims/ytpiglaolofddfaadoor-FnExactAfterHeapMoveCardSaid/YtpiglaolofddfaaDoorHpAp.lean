/- Facts: the heap behind a move, by lists. No program. -/
import Derived.Test.YtpiglaolofddfaaDoorHpMv
import Derived.Test.YtpiglaolofddfaaDoorHpA
import Derived.Test.YtpiglaolofddfaaDoorHpP
namespace Go.Proofs.YtpiglaolofddfaaDoor
open Go.RowKit
set_option linter.unusedVariables false

/-- The stacks behind a move of the disc d from f to t. -/
def dnR (LL : List (List Int)) (f t : Nat) (d : Int) (a : Nat) : List Int := (if a = f then (LL[a]?.getD []).dropLast else LL[a]?.getD []) ++ (if a = t then [d] else [])
def dnL (LL : List (List Int)) (f t : Nat) (d : Int) : List (List Int) := (List.range 3).map (dnR LL f t d)
def ahE (LL : List (List Int)) (m : Mv) : Int := if heapB LL = true then (if m ∈ hmL LL then 0 else 5) else 1
def ahL (LL : List (List Int)) (m : Mv) : List (List Int) := if ahE LL m = 0 then dnL LL m.2.1.toNat m.2.2.toNat m.1 else []
theorem ah_yes {LL : List (List Int)} {m : Mv} (h : heapB LL = true) (h' : m ∈ hmL LL) : ahE LL m = 0 ∧ ahL LL m = dnL LL m.2.1.toNat m.2.2.toNat m.1 := by
  have e : ahE LL m = 0 := by unfold ahE; rw [if_pos h, if_pos h']
  exact ⟨e, by unfold ahL; rw [if_pos e]⟩
theorem ah_no1 {LL : List (List Int)} {m : Mv} (h : heapB LL = false) : ahE LL m = 1 ∧ ahL LL m = [] := by
  have e : ahE LL m = 1 := by unfold ahE; rw [h]; rfl
  exact ⟨e, by unfold ahL; rw [e]; rfl⟩
theorem ah_no5 {LL : List (List Int)} {m : Mv} (h : heapB LL = true) (h' : m ∉ hmL LL) : ahE LL m = 5 ∧ ahL LL m = [] := by
  have e : ahE LL m = 5 := by unfold ahE; rw [if_pos h, if_neg h']
  exact ⟨e, by unfold ahL; rw [e]; rfl⟩
theorem hmb_mem {T : Nat → Int} {d : Int} {a : Nat} : ∀ (b : Nat) (m : Mv), m ∈ hmb T d a b → ∃ t : Nat, t < b ∧ m = (d, (a : Int), (t : Int)) ∧ T a = d ∧ d < T t
  | 0, m, h => by simp [hmb] at h
  | b + 1, m, h => by
    rw [hmb, List.mem_append] at h
    rcases h with h | h
    · obtain ⟨t, h1, h2⟩ := hmb_mem b m h
      exact ⟨t, by omega, h2⟩
    · split at h
      · rename_i h2
        simp only [List.mem_singleton] at h
        exact ⟨b, by omega, h, h2.1, h2.2⟩
      · simp at h
theorem hma_mem {T : Nat → Int} {d : Int} : ∀ (a : Nat) (m : Mv), m ∈ hma T d a → ∃ f t : Nat, f < a ∧ t < 3 ∧ m = (d, (f : Int), (t : Int)) ∧ T f = d ∧ d < T t
  | 0, m, h => by simp [hma] at h
  | a + 1, m, h => by
    rw [hma, List.mem_append] at h
    rcases h with h | h
    · obtain ⟨f, t, h1, h2⟩ := hma_mem a m h
      exact ⟨f, t, by omega, h2⟩
    · obtain ⟨t, h1, h2⟩ := hmb_mem 3 m h
      exact ⟨a, t, by omega, h1, h2⟩
theorem hmd_mem {T : Nat → Int} : ∀ (d : Nat) (m : Mv), m ∈ hmd T d → ∃ e f t : Nat, e < d ∧ f < 3 ∧ t < 3 ∧ m = ((e : Int), (f : Int), (t : Int)) ∧ T f = e ∧ (e : Int) < T t
  | 0, m, h => by simp [hmd] at h
  | d + 1, m, h => by
    rw [hmd, List.mem_append] at h
    rcases h with h | h
    · obtain ⟨e, f, t, h1, h2⟩ := hmd_mem d m h
      exact ⟨e, f, t, by omega, h2⟩
    · obtain ⟨f, t, h1, h2, h3⟩ := hma_mem 3 m h
      exact ⟨d, f, t, by omega, h1, h2, h3⟩

/-- A list of at most four discs, none of them 4. -/
theorem four_filter (R : List Int) (h : R.length ≤ 4) (hx : ∀ x ∈ R, x ≠ 4) : [R[0]?.getD 4, R[1]?.getD 4, R[2]?.getD 4, R[3]?.getD 4].filter (fun x => x != 4) = R := by
  match R, h, hx with
  | [], _, _ => simp
  | [a], _, hx => simp at hx; simp [hx]
  | [a, b], _, hx => simp at hx; simp [hx]
  | [a, b, c], _, hx => simp at hx; simp [hx]
  | [a, b, c, d], _, hx => simp at hx; simp [hx]
  | a :: b :: c :: d :: e :: t, h, _ => simp at h
theorem pstL_of (Z : Nat → Int) (a : Nat) (R : List Int) (h : R.length ≤ 4) (hx : ∀ x ∈ R, x ≠ 4) (hz : ∀ i, i < 4 → Z (a * 4 + i) = R[i]?.getD 4) : pstL Z a = R.reverse := by
  have e : (List.range 4).map (fun i => Z (a * 4 + i)) = [R[0]?.getD 4, R[1]?.getD 4, R[2]?.getD 4, R[3]?.getD 4] := by
    rw [show List.range 4 = [0, 1, 2, 3] from rfl]
    simp only [List.map_cons, List.map_nil]
    rw [hz 0 (by omega), hz 1 (by omega), hz 2 (by omega), hz 3 (by omega)]
  unfold pstL pkL
  rw [e, four_filter R h hx]
theorem piles_rev (LL : List (List Int)) (a i : Nat) (hi : i < 4) : pilesOf LL (a * 4 + i) = (LL[a]?.getD []).reverse[i]?.getD 4 := by
  unfold pilesOf Zs
  rw [show (a * 4 + i) / 4 = a by omega, show (a * 4 + i) % 4 = i by omega]

theorem len_le3 {LL : List (List Int)} (h : heapB LL = true) {f t : Nat} (hf : f < 3) (ht : t < 3) (hne : f ≠ t) (hl : LL[f]?.getD [] ≠ []) : (LL[t]?.getD []).length ≤ 3 := by
  obtain ⟨h3, hc4, _⟩ := heapB_facts h
  match LL, h3 with
  | [a, b, c], _ =>
    have hp := List.length_pos_iff.2 hl
    simp only [cntL, List.map_cons, List.map_nil, List.sum_cons, List.sum_nil] at hc4
    rcases (show f = 0 ∨ f = 1 ∨ f = 2 by omega) with rfl | rfl | rfl <;> rcases (show t = 0 ∨ t = 1 ∨ t = 2 by omega) with rfl | rfl | rfl <;>
      first
      | exact absurd rfl hne
      | (simp only [List.getElem?_cons_zero, List.getElem?_cons_succ, Option.getD_some] at hp ⊢; omega)
theorem stk_moved {LL : List (List Int)} (h : heapB LL = true) {f t : Nat} (hf : f < 3) (ht : t < 3) (hne : f ≠ t) {d : Int} (hd : topH LL f = d) (hd4 : d ≠ 4) (a : Nat) (ha : a < 3) : pstL (mvZ (pilesOf LL) f t) a = dnR LL f t d a := by
  obtain ⟨h3, hc4, hg⟩ := heapB_facts h
  have hrow : ∀ b, b < 3 → (LL[b]?.getD []).length ≤ 4 ∧ ∀ x ∈ LL[b]?.getD [], x ≠ 4 := fun b hb => by
    have hl : LL[b]? = some LL[b] := List.getElem?_eq_getElem (by omega)
    obtain ⟨h1, h2⟩ := heap_stack h hl
    rw [hl, Option.getD_some]
    exact ⟨h1, fun x hx => by have := h2 x hx; omega⟩
  have hnil : LL[f]?.getD [] ≠ [] := fun e => by
    have h1 := piles_rev LL f 0 (by omega)
    rw [e] at h1
    apply hd4
    rw [← hd]
    exact h1
  have hZ := piles_rev LL
  have hx : pilesOf LL (f * 4) = d := hd
  unfold dnR
  by_cases hat : a = t
  · subst hat
    rw [if_neg (fun e => hne e.symm), if_pos rfl]
    have hl3 := len_le3 h hf ht hne hnil
    rw [pstL_of (mvZ (pilesOf LL) f a) a (d :: (LL[a]?.getD []).reverse) (by simp; omega) ?_ ?_]
    · simp
    · intro x hm
      rcases List.mem_cons.1 hm with rfl | hm
      · exact hd4
      · exact (hrow a ha).2 x (List.mem_reverse.1 hm)
    · intro i hi
      unfold mvZ inZ outZ
      rcases (show i = 0 ∨ i = 1 ∨ i = 2 ∨ i = 3 by omega) with rfl | rfl | rfl | rfl
      · rw [if_neg (by omega), if_neg (by omega), if_neg (by omega), if_pos (by omega), hx]; rfl
      · rw [if_neg (by omega), if_neg (by omega), if_pos (by omega), if_neg (by omega), if_neg (by omega), if_neg (by omega), if_neg (by omega)]
        exact hZ a 0 (by omega)
      · rw [if_neg (by omega), if_pos (by omega), if_neg (by omega), if_neg (by omega), if_neg (by omega), if_neg (by omega)]
        exact hZ a 1 (by omega)
      · rw [if_pos (by omega), if_neg (by omega), if_neg (by omega), if_neg (by omega), if_neg (by omega)]
        exact hZ a 2 (by omega)
  · rw [if_neg hat, List.append_nil]
    have e0 : ∀ i, i < 4 → mvZ (pilesOf LL) f t (a * 4 + i) = outZ (pilesOf LL) f (a * 4 + i) := fun i hi => by
      unfold mvZ inZ
      rw [if_neg (by omega), if_neg (by omega), if_neg (by omega), if_neg (by omega)]
    by_cases haf : a = f
    · subst haf
      rw [if_pos rfl, pstL_of _ a (LL[a]?.getD []).reverse.tail ?_ ?_ ?_]
      · rw [List.tail_reverse, List.reverse_reverse]
      · have := (hrow a ha).1; simp; omega
      · intro x hm
        exact (hrow a ha).2 x (List.mem_reverse.1 (List.mem_of_mem_tail hm))
      · intro i hi
        rw [e0 i hi, List.getElem?_tail]
        unfold outZ
        rcases (show i = 0 ∨ i = 1 ∨ i = 2 ∨ i = 3 by omega) with rfl | rfl | rfl | rfl
        · rw [if_neg (by omega), if_neg (by omega), if_neg (by omega), if_pos (by omega)]
          exact hZ a 1 (by omega)
        · rw [if_neg (by omega), if_neg (by omega), if_pos (by omega)]
          exact hZ a 2 (by omega)
        · rw [if_neg (by omega), if_pos (by omega)]
          exact hZ a 3 (by omega)
        · rw [if_pos (by omega), List.getElem?_eq_none (by have := (hrow a ha).1; rw [List.length_reverse]; omega)]
          rfl
    · rw [if_neg haf, pstL_of _ a (LL[a]?.getD []).reverse ?_ ?_ ?_]
      · rw [List.reverse_reverse]
      · rw [List.length_reverse]; exact (hrow a ha).1
      · exact fun x hm => (hrow a ha).2 x (List.mem_reverse.1 hm)
      · intro i hi
        rw [e0 i hi]
        unfold outZ
        rw [if_neg (by omega), if_neg (by omega), if_neg (by omega), if_neg (by omega)]
        exact hZ a i hi
/-- What a legal move of a heap is. -/
theorem hm_mem {LL : List (List Int)} {m : Mv} (h : heapB LL = true) (hm : m ∈ hmL LL) : ∃ f t : Nat, f < 3 ∧ t < 3 ∧ f ≠ t ∧ m = (m.1, (f : Int), (t : Int)) ∧ topH LL f = m.1 ∧ 0 ≤ m.1 ∧ m.1 < 4 ∧ LL[f]?.getD [] ≠ [] := by
  rw [(hm_yes h).1] at hm
  obtain ⟨e, f, t, he, hf, ht, rfl, h1, h2⟩ := hmd_mem 4 m hm
  refine ⟨f, t, hf, ht, fun e' => ?_, rfl, h1, by show (0 : Int) ≤ (e : Int); omega, by show (e : Int) < 4; omega, fun e' => ?_⟩
  · subst e'
    omega
  · have h5 := piles_rev LL f 0 (by omega)
    rw [e'] at h5
    have h6 : topH LL f = 4 := h5
    omega
theorem moved_lists {LL : List (List Int)} {m : Mv} (h : heapB LL = true) (hm : m ∈ hmL LL) {f t : Nat} (hf : f < 3) (ht : t < 3) (hne : f ≠ t) (hd : topH LL f = m.1) (h4 : m.1 < 4) : hpL (mvZ (pilesOf LL) f t) 3 = dnL LL f t m.1 := by
  unfold hpL dnL
  apply List.map_congr_left
  intro a ha
  exact stk_moved h hf ht hne hd (by omega) a (List.mem_range.1 ha)

end Go.Proofs.YtpiglaolofddfaaDoor
