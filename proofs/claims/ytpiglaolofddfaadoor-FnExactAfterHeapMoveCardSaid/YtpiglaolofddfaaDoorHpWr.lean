/- Wrong pairs: what both sides count. No program. -/
import Derived.Test.YtpiglaolofddfaaDoorHpM
namespace Go.Proofs.YtpiglaolofddfaaDoor
open Go.RowKit
set_option linter.unusedVariables false

/-- How many later elements of a list are less than x. -/
def lessN (x : Int) (l : List Int) : Nat := (l.filter (fun y => decide (x > y))).length
/-- The pairs of a list, from the top down, of which the first one is the greater. -/
def wP : List Int → Nat
  | [] => 0
  | x :: t => lessN x t + wP t
/-- Those of the first a stacks. -/
def wrK (LL : List (List Int)) (a : Nat) : Nat := ((LL.take a).map (fun s => wP s.reverse)).sum
def wrongs (LL : List (List Int)) : Nat := wrK LL LL.length

theorem lessN_le (x : Int) (l : List Int) : lessN x l ≤ l.length := List.length_filter_le _ _
theorem lessN_rev (x : Int) (l : List Int) : lessN x l.reverse = lessN x l := by unfold lessN; rw [List.filter_reverse, List.length_reverse]
theorem lessN_snoc (x y : Int) (l : List Int) : lessN x (l ++ [y]) = lessN x l + (if x > y then 1 else 0) := by
  unfold lessN
  rw [List.filter_append, List.length_append]
  by_cases h : x > y <;> simp [h]
theorem lessN_take {x : Int} {l : List Int} {k : Nat} (hk : k < l.length) : lessN x (l.take (k + 1)) = lessN x (l.take k) + (if x > l[k]?.getD 0 then 1 else 0) := by
  rw [List.take_succ_eq_append_getElem hk, lessN_snoc]
  simp [hk]
theorem wP_le (l : List Int) : wP l ≤ l.length * l.length := by
  induction l with
  | nil => simp [wP]
  | cons x t ih =>
    have h1 := lessN_le x t
    rw [wP, List.length_cons, Nat.add_mul, Nat.mul_add]
    omega
theorem wP_take {l : List Int} {i : Nat} (hi : i < l.length) : wP (l.take (i + 1)).reverse = wP (l.take i).reverse + lessN (l[i]?.getD 0) (l.take i) := by
  rw [List.take_succ_eq_append_getElem hi, List.reverse_append]
  simp only [List.reverse_cons, List.reverse_nil, List.nil_append, List.singleton_append]
  rw [wP, lessN_rev]
  simp [hi]
  omega
theorem wrK_succ {LL : List (List Int)} {a : Nat} {l : List Int} (h : LL[a]? = some l) : wrK LL (a + 1) = wrK LL a + wP l.reverse := by
  obtain ⟨h1, h2⟩ := List.getElem?_eq_some_iff.1 h
  unfold wrK
  rw [List.take_succ_eq_append_getElem h1, List.map_append, h2]
  simp
theorem lessN_drop {x : Int} {l : List Int} {q : Nat} (hq : q < l.length) : lessN x (l.drop q) = (if x > l[q]?.getD 0 then 1 else 0) + lessN x (l.drop (q + 1)) := by
  have e : l[q]?.getD 0 = l[q] := by simp [hq]
  rw [List.drop_eq_getElem_cons hq, e]
  unfold lessN
  rw [List.filter_cons]
  by_cases h : x > l[q]
  · rw [if_pos (decide_eq_true h), if_pos h, List.length_cons]; omega
  · rw [if_neg (by simpa using h), if_neg h]; omega
theorem wP_drop {l : List Int} {q : Nat} (hq : q < l.length) : wP (l.drop q) = lessN (l[q]?.getD 0) (l.drop (q + 1)) + wP (l.drop (q + 1)) := by
  rw [List.drop_eq_getElem_cons hq, wP]
  simp [hq]

/-- Ground adds no wrong pair. -/
theorem wP_ground (l : List Int) (m : Nat) (h : ∀ x ∈ l, x ≤ 4) : wP (l ++ List.replicate m 4) = wP l := by
  induction l with
  | nil =>
    rw [List.nil_append]
    clear h
    induction m with
    | zero => rfl
    | succ m ih =>
      have h0 : lessN 4 (List.replicate m 4) = 0 := by unfold lessN; simp
      show lessN 4 (List.replicate m 4) + wP (List.replicate m 4) = wP []
      rw [ih, h0]
      rfl
  | cons x t ih =>
    rw [List.cons_append, wP, wP, ih (fun y hy => h y (List.mem_cons_of_mem _ hy))]
    have hx := h x List.mem_cons_self
    have : lessN x (t ++ List.replicate m 4) = lessN x t := by
      unfold lessN
      rw [List.filter_append, List.length_append]
      have e : (List.replicate m (4 : Int)).filter (fun y => decide (x > y)) = [] := by
        rw [List.filter_eq_nil_iff]
        intro y hy
        rw [List.eq_of_mem_replicate hy]
        simp
        omega
      rw [e]
      rfl
    rw [this]
/-- The four places of a stack, from the top down. -/
def pl4 (s : List Int) : List Int := [s.reverse[0]?.getD 4, s.reverse[1]?.getD 4, s.reverse[2]?.getD 4, s.reverse[3]?.getD 4]
theorem pl4_eq {s : List Int} (h : s.length ≤ 4) : pl4 s = s.reverse ++ List.replicate (4 - s.length) 4 := by
  unfold pl4
  obtain ⟨t, rfl⟩ : ∃ t, t.reverse = s := ⟨s.reverse, by simp⟩
  simp only [List.reverse_reverse, List.length_reverse] at h ⊢
  match t, h with
  | [], _ => rfl
  | [a], _ => rfl
  | [a, b], _ => rfl
  | [a, b, c], _ => rfl
  | [a, b, c, d], _ => rfl
theorem wP_pl4 {s : List Int} (h : s.length ≤ 4) (hs : ∀ x ∈ s, x ≤ 4) : wP (pl4 s) = wP s.reverse := by
  rw [pl4_eq h]
  exact wP_ground _ _ (fun x hx => hs x (List.mem_reverse.1 hx))
theorem pilesOf_at (LL : List (List Int)) (p j : Nat) (hj : j < 4) : pilesOf LL (p * 4 + j) = (pl4 (LL[p]?.getD []))[j]?.getD 0 := by
  have h1 : (p * 4 + j) / 4 = p ∧ (p * 4 + j) % 4 = j := by omega
  unfold pilesOf Zs
  rw [h1.1, h1.2]
  match j, hj with
  | 0, _ => rfl
  | 1, _ => rfl
  | 2, _ => rfl
  | 3, _ => rfl
/-- What a heap's stacks are bounded by. -/
theorem heap_stack {LL : List (List Int)} {a : Nat} {l : List Int} (h : heapB LL = true) (hl : LL[a]? = some l) : l.length ≤ 4 ∧ ∀ x ∈ l, 0 ≤ x ∧ x < cntL LL ∧ x ≤ 4 := by
  obtain ⟨h3, h4, hg⟩ := heapB_facts h
  obtain ⟨h1, h2⟩ := List.getElem?_eq_some_iff.1 hl
  have hm : l ∈ LL := List.mem_of_getElem? hl
  constructor
  · have hs : ∀ (l : List Nat) (x : Nat), x ∈ l → x ≤ l.sum := by
      intro l x hx
      induction l with
      | nil => simp at hx
      | cons y t ih =>
        rw [List.sum_cons]
        rcases List.mem_cons.1 hx with rfl | hx
        · omega
        · have := ih hx; omega
    have := hs (LL.map List.length) l.length (List.mem_map.2 ⟨l, hm, rfl⟩)
    unfold cntL at h4
    omega
  · intro x hx
    have := hg.1 x (List.mem_flatten.2 ⟨l, hm, hx⟩)
    omega
theorem wrongs_le {LL : List (List Int)} (h : heapB LL = true) (a : Nat) (ha : a ≤ 3) : wrK LL a ≤ 16 * a := by
  induction a with
  | zero => simp [wrK]
  | succ a ih =>
    obtain ⟨h3, _, _⟩ := heapB_facts h
    have hl : LL[a]? = some LL[a] := List.getElem?_eq_getElem (by omega)
    have h1 := wP_le LL[a].reverse
    have h2 := (heap_stack h hl).1
    rw [wrK_succ hl]
    have := ih (by omega)
    rw [List.length_reverse] at h1
    have h5 : LL[a].length * LL[a].length ≤ 4 * 4 := Nat.mul_le_mul h2 h2
    omega

end Go.Proofs.YtpiglaolofddfaaDoor
