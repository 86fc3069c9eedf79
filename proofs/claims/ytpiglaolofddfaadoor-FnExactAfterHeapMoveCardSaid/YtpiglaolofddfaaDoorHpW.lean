/- Words for memory: a list of lists is filled, row by row; one that came in; its size. -/
import Derived.Test.YtpiglaolofddfaaDoorSS2
import Derived.Test.YtpiglaolofddfaaDoorTo
namespace Go.Proofs.YtpiglaolofddfaaDoor
open Go.RowKit
set_option linter.unusedVariables false

/-- As many lists as told, none of which has an element. -/
def nilRw : Rw := ⟨none, 0, 0, 0, []⟩
theorem ownSS_madeN {B : Nat} {w : World} {g p : Nat} (hb : Box w g 61 (List.replicate p (Value.slice none 0 0)).toArray) (hB : B ≤ g) (hp : p ≤ 1048576) : OwnSS B w (some ⟨g, 0, none⟩) p p (List.replicate p nilRw) := by
  refine ⟨⟨by simp, .inr ⟨g, p, _, rfl, hB, hb, Nat.le_refl _, by unfold maxLen; omega, by simp, ?_⟩⟩, ?_, ?_⟩
  · rw [List.take_of_length_le (by simp)]
    simp [nilRw, Rw.v]
  · intro r hr
    rw [List.eq_of_mem_replicate hr]
    exact Own.nilS _ _
  · unfold Distinct
    rw [List.pairwise_iff_getElem]
    intro i j hi hj _ g hA
    rw [List.getElem_replicate] at hA
    cases hA

/-- A list that lies in younger blocks is stored. -/
theorem OwnSS.placed {B k gA b n c : Nat} {w : World} {rs : List Rw} {r : Rw} (h : OwnSS B w (some ⟨gA, 0, none⟩) n c rs) (hk : k < rs.length) (hr : Own B w r.A r.n r.d r.L) (hb : ∀ g, r.A = some ⟨g, 0, none⟩ → b ≤ g)
    (hold : ∀ s ∈ rs, ∀ g, s.A = some ⟨g, 0, none⟩ → g < b) : OwnSS B (w.setCell ⟨gA, k, none⟩ r.v) (some ⟨gA, 0, none⟩) n c (rs.set k r) := by
  obtain ⟨s1, s2⟩ := World.ownsRow.stored h.1 k r.v
  have hgA : ∀ {A2 : Option Addr} {n2 d2 : Nat} {L2 : List Int}, Own B w A2 n2 d2 L2 → Own B (w.setCell ⟨gA, k, none⟩ r.v) A2 n2 d2 L2 := by
    intro A2 n2 d2 L2 ho
    refine ho.setBox ?_ _
    rintro g2 rfl e
    have e2 : g2 = gA := e
    subst e2
    exact absurd (OwnG.two_types ho h.1) (by decide)
  refine ⟨by rw [List.map_set]; exact s1, ?_, ?_⟩
  · intro s hs
    rcases List.mem_or_eq_of_mem_set hs with hs | rfl
    · exact hgA (h.2.1 s hs)
    · exact hgA hr
  · unfold Distinct
    rw [List.pairwise_iff_getElem]
    intro p q hp hq hpq g2 hA hB
    have hp' : p < rs.length := by simpa using hp
    have hq' : q < rs.length := by simpa using hq
    rw [List.getElem_set] at hA hB
    by_cases hip : k = p
    · rw [if_pos hip] at hA
      rw [if_neg (by omega)] at hB
      have h1 := hb _ hA
      have h2 := hold _ (List.getElem_mem hq') _ hB
      omega
    · rw [if_neg hip] at hA
      by_cases hiq : k = q
      · rw [if_pos hiq] at hB
        have h1 := hb _ hB
        have h2 := hold _ (List.getElem_mem hp') _ hA
        omega
      · rw [if_neg hiq] at hB
        exact List.pairwise_iff_getElem.1 h.2.2 p q hp' hq' hpq g2 hA hB
/-- The blocks of the lists are there. -/
theorem OwnSS.old {B n c : Nat} {w : World} {A : Option Addr} {rs : List Rw} (h : OwnSS B w A n c rs) : ∀ s ∈ rs, ∀ g, s.A = some ⟨g, 0, none⟩ → g < w.heap.size := by
  intro s hs g hA
  have := h.2.1 s hs
  rw [hA] at this
  exact (ownG_lt this).2

/-- A cell of an older block is stored. -/
theorem OwnSS.setOld {B n c : Nat} {w : World} {A : Option Addr} {rs : List Rw} (h : OwnSS B w A n c rs) {a : Addr} (ha : a.block < B) (u : Value) : OwnSS B (w.setCell a u) A n c rs :=
  h.keptBelow (row := some a.block) ⟨rfl, rfl, rfl, by simp [World.setCell], fun k _ hk => Below.heap_setCell w a u k (fun e => hk (by rw [e]))⟩ (fun g hg => by injection hg with hg; omega)

/-- What came in as a list of lists of integers. -/
def ArgSS (w : World) (A : Option Addr) (n : Nat) (rs : List Rw) : Prop := rs.length = n ∧ n ≤ 9223372036854775807 ∧ (∀ r ∈ rs, r.n ≤ 9223372036854775807) ∧ IntsSS w A rs
theorem ArgSS.below {w w' : World} {A : Option Addr} {n : Nat} {rs : List Rw} (h : ArgSS w A n rs) (hb : Below w.heap.size w w') : ArgSS w' A n rs := ⟨h.1, h.2.1, h.2.2.1, h.2.2.2.below hb⟩

end Go.Proofs.YtpiglaolofddfaaDoor
