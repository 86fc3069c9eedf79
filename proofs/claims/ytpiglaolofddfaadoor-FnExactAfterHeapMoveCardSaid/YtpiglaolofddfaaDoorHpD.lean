/- What a heap is, over lists of lists: no program. -/
import Derived.Test.YtpiglaolofddfaaDoorSSc
import Derived.Test.YtpiglaolofddfaaDoorSS2
namespace Go.Proofs.YtpiglaolofddfaaDoor
open Go.RowKit
set_option linter.unusedVariables false

/-- The discs of the first stacks, and the first discs of the next one. -/
def flatK (LL : List (List Int)) (a i : Nat) : List Int := (LL.take a).flatten ++ (LL[a]?.getD []).take i
def goodL (n : Nat) (P : List Int) : Prop := (∀ x ∈ P, 0 ≤ x ∧ x < (n : Int)) ∧ P.Nodup
instance (n : Nat) (P : List Int) : Decidable (goodL n P) := by unfold goodL; infer_instance
def cntL (LL : List (List Int)) : Nat := (LL.map List.length).sum
def heapP (LL : List (List Int)) : Prop := LL.length = 3 ∧ cntL LL ≤ 4 ∧ goodL (cntL LL) LL.flatten
instance (LL : List (List Int)) : Decidable (heapP LL) := by unfold heapP; infer_instance
def heapB (LL : List (List Int)) : Bool := decide (heapP LL)

theorem flatK_zero (LL : List (List Int)) : flatK LL 0 0 = [] := by simp [flatK]
theorem flatK_step {LL : List (List Int)} {a i : Nat} {l : List Int} (h : LL[a]? = some l) (hi : i < l.length) : flatK LL a (i + 1) = flatK LL a i ++ [l[i]?.getD 0] := by
  unfold flatK
  rw [h, Option.getD_some, List.take_succ_eq_append_getElem hi, ← List.append_assoc]
  simp [hi]
theorem flatK_next {LL : List (List Int)} {a : Nat} {l : List Int} (h : LL[a]? = some l) : flatK LL a l.length = flatK LL (a + 1) 0 := by
  obtain ⟨h1, h2⟩ := List.getElem?_eq_some_iff.1 h
  unfold flatK
  rw [h, Option.getD_some, List.take_length, List.take_succ_eq_append_getElem h1, h2]
  simp
theorem flatK_all (LL : List (List Int)) : flatK LL LL.length 0 = LL.flatten := by simp [flatK]
theorem flatK_prefix {LL : List (List Int)} {a i : Nat} {l : List Int} (h : LL[a]? = some l) (hi : i < l.length) : ∃ t, LL.flatten = flatK LL a i ++ l[i]?.getD 0 :: t := by
  obtain ⟨h1, h2⟩ := List.getElem?_eq_some_iff.1 h
  refine ⟨l.drop (i + 1) ++ (LL.drop (a + 1)).flatten, ?_⟩
  have e1 : LL.flatten = (LL.take a).flatten ++ (l ++ (LL.drop (a + 1)).flatten) := by
    conv => lhs; rw [← List.take_append_drop a LL]
    rw [List.flatten_append, List.drop_eq_getElem_cons h1, List.flatten_cons, h2]
  have e2 : l = l.take i ++ l[i]?.getD 0 :: l.drop (i + 1) := by
    conv => lhs; rw [← List.take_append_drop i l]
    rw [List.drop_eq_getElem_cons hi]
    simp [hi]
  rw [e1]
  unfold flatK
  rw [h, Option.getD_some]
  conv => lhs; rw [e2]
  simp
theorem good_nil (n : Nat) : goodL n [] := ⟨fun x hx => by simp at hx, List.nodup_nil⟩
theorem good_snoc {n : Nat} {P : List Int} {x : Int} (h : goodL n P) (h0 : 0 ≤ x) (h1 : x < n) (hx : x ∉ P) : goodL n (P ++ [x]) := by
  refine ⟨fun y hy => ?_, ?_⟩
  · rcases List.mem_append.1 hy with hy | hy
    · exact h.1 y hy
    · rw [List.mem_singleton] at hy; subst hy; exact ⟨h0, h1⟩
  · rw [List.nodup_append]
    refine ⟨h.2, by simp, ?_⟩
    intro a ha b hb e
    rw [List.mem_singleton] at hb
    subst hb; subst e
    exact hx ha
theorem bad_out {LL : List (List Int)} {n a i : Nat} {l : List Int} (h : LL[a]? = some l) (hi : i < l.length) (hb : ¬ (0 ≤ l[i]?.getD 0 ∧ l[i]?.getD 0 < (n : Int)) ∨ l[i]?.getD 0 ∈ flatK LL a i) : ¬ goodL n LL.flatten := by
  obtain ⟨t, ht⟩ := flatK_prefix h hi
  intro hg
  rw [ht] at hg
  rcases hb with hb | hb
  · exact hb (hg.1 _ (by simp))
  · have h2 := (List.nodup_append.1 hg.2).2.2 _ hb _ List.mem_cons_self
    exact h2 rfl
theorem cnt_tot {w : World} {A : Option Addr} {rs : List Rw} (h : IntsSS w A rs) : totN rs = cntL (LLof rs) := by
  unfold totN cntL LLof
  rw [List.map_map]
  congr 1
  apply List.map_congr_left
  intro r hr
  obtain ⟨k, hk⟩ := List.getElem?_of_mem hr
  obtain ⟨ad, _, _, _, h4, _⟩ := h k r hk
  exact h4.symm
theorem heapB_no_len {LL : List (List Int)} (h : ¬ (LL.length = 3 ∧ cntL LL ≤ 4)) : heapB LL = false := by
  unfold heapB
  rw [decide_eq_false_iff_not]
  exact fun hp => h ⟨hp.1, hp.2.1⟩
theorem heapB_no {LL : List (List Int)} (h : ¬ goodL (cntL LL) LL.flatten) : heapB LL = false := by
  unfold heapB
  rw [decide_eq_false_iff_not]
  exact fun hp => h hp.2.2
theorem heapB_yes {LL : List (List Int)} (h : LL.length = 3) (h4 : cntL LL ≤ 4) (hg : goodL (cntL LL) LL.flatten) : heapB LL = true := by
  unfold heapB
  rw [decide_eq_true_iff]
  exact ⟨h, h4, hg⟩
theorem heapB_facts {LL : List (List Int)} (h : heapB LL = true) : LL.length = 3 ∧ cntL LL ≤ 4 ∧ goodL (cntL LL) LL.flatten := by
  unfold heapB at h
  exact of_decide_eq_true h

/-- The marks of the discs that have been met. -/
def metV (P : List Int) (d : Nat) : Value := .bool (decide ((d : Int) ∈ P))
theorem metV_nil (d : Nat) : metV [] d = .bool false := by simp [metV]
theorem metV_snoc (P : List Int) (x d : Nat) : (if d = x then Value.bool true else metV P d) = metV (P ++ [(x : Int)]) d := by
  unfold metV
  by_cases h : d = x
  · subst h; simp
  · rw [if_neg h]
    congr 1
    rw [decide_eq_decide]
    simp
    omega
theorem tot_eq {B n c : Nat} {w : World} {A : Option Addr} {rs rs' : List Rw} (hLL : LLof rs' = LLof rs) (hO : OwnSS B w A n c rs') (h : totN rs = cntL (LLof rs) ∧ totN rs ≤ 1048576) : totN rs' ≤ 1048576 := by
  have h1 := totN_LL hO
  rw [hLL] at h1
  have h2 := h.1
  unfold cntL at h2
  omega

end Go.Proofs.YtpiglaolofddfaaDoor
