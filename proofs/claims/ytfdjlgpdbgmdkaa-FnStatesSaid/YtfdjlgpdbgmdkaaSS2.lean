/- Words for memory: a list of lists grows: by a list at its end, or in one of its lists. -/
import Derived.Test.YtfdjlgpdbgmdkaaSS
import Derived.Test.YtfdjlgpdbgmdkaaConcat
namespace Go.Proofs.Ytfdjlgpdbgmdkaa
open Go.RowKit
set_option linter.unusedVariables false

theorem Try.infoSS : (Try.prog.info? 24).map (fun i => (i.zero, i.size, i.bytes)) = some (some (.slice none 0 0), 1, 24) := by kernel_rfl

section
variable {B : Nat} {w w1 : World} {A : Option Addr} {n c : Nat} {rs : List Rw}
/-- A row's own block is of its element type. -/
theorem OwnG.block_type {e size : Nat} {g : Nat} {xs : List Value} (h : OwnG e size B w (some ⟨g, 0, none⟩) n c xs) : ∃ cur, w.heap[g]? = some (.cells cur e (0, 0)) := by
  rcases h.2 with ⟨hv, _⟩ | ⟨g1, cap, cur, hv, _, hh, _⟩
  · simp at hv
  · injection hv with hv
    injection hv with hv
    injection hv with hv
    subst hv
    exact ⟨cur, hh⟩
theorem OwnG.two_types {e e' size size' B' g n' c' : Nat} {xs xs' : List Value} (h : OwnG e size B w (some ⟨g, 0, none⟩) n c xs) (h' : OwnG e' size' B' w (some ⟨g, 0, none⟩) n' c' xs') : e = e' := by
  obtain ⟨c1, h1⟩ := h.block_type
  obtain ⟨c2, h2⟩ := h'.block_type
  rw [h1] at h2
  injection h2 with h2
  injection h2
theorem ownG_lt {e size g : Nat} {xs : List Value} (h : OwnG e size B w (some ⟨g, 0, none⟩) n c xs) : B ≤ g ∧ g < w.heap.size := by
  rcases h.form with ⟨h1, _⟩ | ⟨g', h1, h2, h3⟩
  · cases h1
  · injection h1 with h1
    injection h1 with h1
    subst h1
    exact ⟨h2, h3⟩
theorem block_of_own {e size : Nat} {xs : List Value} {k : Nat} (h : OwnG e size B w A n c xs) (hk : (Value.slice A n c).ownBlock = some k) : A = some ⟨k, 0, none⟩ := by
  rcases h.form with ⟨rfl, rfl, rfl⟩ | ⟨g, rfl, _, _⟩
  · simp [Value.ownBlock] at hk
  · simp only [Value.ownBlock, Option.some.injEq] at hk
    subst hk
    rfl
theorem ownBlock_cap (A : Option Addr) (n c c' : Nat) : (Value.slice A n c).ownBlock = (Value.slice A n c').ownBlock := by
  cases A <;> rfl

/-- A list is put at the end. The world behind the append is w1; the new list lay in blocks from b on, the others' blocks lie below b. -/
theorem OwnSS.snoc {o : Obj} {A' : Option Addr} {c' b : Nat} {r : Rw} (h : OwnSS B w A n c rs) (hr : Own B w r.A r.n r.d r.L) (hb : ∀ g, r.A = some ⟨g, 0, none⟩ → b ≤ g) (hold : ∀ s ∈ rs, ∀ g, s.A = some ⟨g, 0, none⟩ → g < b)
    (hown : OwnG 24 1 B w1 A' (n + 1) c' (rs.map Rw.v ++ [r.v])) (hg : (w.alloc o).grownBy w1 (Value.slice A n c).ownBlock) : OwnSS B w1 A' (n + 1) c' (rs ++ [r]) := by
  have key : ∀ {A2 : Option Addr} {n2 d2 : Nat} {L2 : List Int}, Own B w A2 n2 d2 L2 → Own B w1 A2 n2 d2 L2 := by
    intro A2 n2 d2 L2 ho
    refine Own.kept (w := w.alloc o) (OwnG.alloc ho o) hg ?_
    intro g hA e
    have h1 := block_of_own h.1 e
    subst h1
    subst hA
    exact absurd (OwnG.two_types ho h.1) (by decide)
  refine ⟨by rw [List.map_append]; exact hown, ?_, ?_⟩
  · intro s hs
    rcases List.mem_append.1 hs with hs | hs
    · exact key (h.2.1 s hs)
    · rw [List.mem_singleton] at hs
      subst hs
      exact key hr
  · unfold Distinct
    rw [List.pairwise_append]
    refine ⟨h.2.2, List.pairwise_singleton _ _, ?_⟩
    intro s hs t ht g hA hT
    rw [List.mem_singleton] at ht
    subst ht
    have h1 := hold s hs g hA
    have h2 := hb g hT
    omega

/-- One of the lists is appended to, and its slice stored anew. -/
theorem OwnSS.pushed {o : Obj} {g cap i gA : Nat} {x : Int} {r : Rw} (h : OwnSS B w (some ⟨gA, 0, none⟩) n c rs) (hi : rs[i]? = some r)
    (hown : Own B w1 (some ⟨g, 0, none⟩) (r.n + 1) cap (r.L ++ [x])) (hg : (w.alloc o).grownBy w1 (Value.slice r.A r.n r.c).ownBlock) (hat : (Value.slice r.A r.n r.c).ownBlock = some g ∨ g = w.heap.size + 1) :
    OwnSS B (w1.setCell ⟨gA, i, none⟩ (.slice (some ⟨g, 0, none⟩) (r.n + 1) cap)) (some ⟨gA, 0, none⟩) n c (rs.set i ⟨some ⟨g, 0, none⟩, r.n + 1, cap, cap, r.L ++ [x]⟩) := by
  obtain ⟨hil, hir⟩ := List.getElem?_eq_some_iff.1 hi
  have hrow := h.2.1 r (List.mem_of_getElem? hi)
  rw [ownBlock_cap r.A r.n r.c r.d] at hg hat
  -- the outer row behind the append
  have hO1 : OwnG 24 1 B w1 (some ⟨gA, 0, none⟩) n c (rs.map Rw.v) := by
    refine (h.1.alloc o).kept hg ?_
    intro g' hA e
    injection hA with hA
    injection hA with hA
    subst hA
    have h1 := block_of_own hrow e
    have h2 := hrow
    rw [h1] at h2
    exact absurd (OwnG.two_types h.1 h2) (by decide)
  obtain ⟨s1, s2⟩ := World.ownsRow.stored hO1 i (.slice (some ⟨g, 0, none⟩) (r.n + 1) cap)
  have hgA : ∀ {A2 : Option Addr} {n2 d2 : Nat} {L2 : List Int}, Own B w1 A2 n2 d2 L2 → Own B (w1.setCell ⟨gA, i, none⟩ (.slice (some ⟨g, 0, none⟩) (r.n + 1) cap)) A2 n2 d2 L2 := by
    intro A2 n2 d2 L2 ho
    refine ho.setBox ?_ _
    rintro g2 rfl e
    have e2 : g2 = gA := e
    subst e2
    exact absurd (OwnG.two_types ho hO1) (by decide)
  refine ⟨?_, ?_, ?_⟩
  · rw [List.map_set]
    exact s1
  · intro s hs
    obtain ⟨k, hk⟩ := List.getElem?_of_mem hs
    rw [List.getElem?_set] at hk
    by_cases hki : i = k
    · subst hki
      rw [if_pos rfl, if_pos hil] at hk
      injection hk with hk
      subst hk
      exact hgA hown
    · rw [if_neg hki] at hk
      have ho := h.2.1 s (List.mem_of_getElem? hk)
      obtain ⟨hkl, hkr⟩ := List.getElem?_eq_some_iff.1 hk
      refine hgA (Own.kept (w := w.alloc o) (OwnG.alloc ho o) hg ?_)
      intro g1 hA e2
      have h1 := block_of_own hrow e2
      rcases Nat.lt_or_gt_of_ne hki with hlt | hlt
      · have := List.pairwise_iff_getElem.1 h.2.2 i k hil hkl hlt g1 (by rw [hir]; exact h1)
        rw [hkr] at this
        exact this hA
      · have := List.pairwise_iff_getElem.1 h.2.2 k i hkl hil hlt g1 (by rw [hkr]; exact hA)
        rw [hir] at this
        exact this h1
  · -- the new list's block is its old one, or a new one
    have hnew : ∀ k (hk : k < rs.length), k ≠ i → (rs[k]'hk).A ≠ some ⟨g, 0, none⟩ := by
      intro k hk hki hA
      have ho := h.2.1 (rs[k]'hk) (List.getElem_mem hk)
      rcases hat with hat | hat
      · have h1 := block_of_own hrow hat
        rcases Nat.lt_or_gt_of_ne hki with hlt | hlt
        · have := List.pairwise_iff_getElem.1 h.2.2 k i hk hil hlt g hA
          rw [hir] at this
          exact this h1
        · have := List.pairwise_iff_getElem.1 h.2.2 i k hil hk hlt g (by rw [hir]; exact h1)
          exact this hA
      · rw [hA] at ho
        have := (ownG_lt ho).2
        omega
    unfold Distinct
    rw [List.pairwise_iff_getElem]
    intro p q hp hq hpq g2 hA hB
    have hp' : p < rs.length := by simpa using hp
    have hq' : q < rs.length := by simpa using hq
    rw [List.getElem_set] at hA hB
    by_cases hip : i = p
    · subst hip
      rw [if_pos rfl] at hA
      rw [if_neg (by omega)] at hB
      have e : g2 = g := by
        have h0 : (some (⟨g, 0, none⟩ : Addr)) = some ⟨g2, 0, none⟩ := hA
        injection h0 with h0
        injection h0 with h0
        exact h0.symm
      subst e
      exact hnew q hq' (by omega) hB
    · rw [if_neg hip] at hA
      by_cases hiq : i = q
      · subst hiq
        rw [if_pos rfl] at hB
        have e : g2 = g := by
          have h0 : (some (⟨g, 0, none⟩ : Addr)) = some ⟨g2, 0, none⟩ := hB
          injection h0 with h0
          injection h0 with h0
          exact h0.symm
        subst e
        exact hnew p hp' (by omega) hA
      · rw [if_neg hiq] at hB
        exact List.pairwise_iff_getElem.1 h.2.2 p q hp' hq' hpq g2 hA hB
theorem OwnSS.pushed_below {o : Obj} {i gA B0 : Nat} {r : Rw} {v : Value} (h : OwnSS B w (some ⟨gA, 0, none⟩) n c rs) (hi : rs[i]? = some r)
    (hg : (w.alloc o).grownBy w1 (Value.slice r.A r.n r.c).ownBlock) (hB : B0 ≤ B) (hs : B0 ≤ w.heap.size) : Below B0 w (w1.setCell ⟨gA, i, none⟩ v) := by
  have hrow := h.2.1 r (List.mem_of_getElem? hi)
  rw [ownBlock_cap r.A r.n r.c r.d] at hg
  exact (OwnG.grown_below hrow hg hB hs).setCell (Nat.le_trans hB (ownG_lt h.1).1) _
end

/-- A list of lists and a code are the answer. -/
def RetSS (w : World) (LL : List (List Int)) (E : Int) (e : Ending) (w' : World) : Prop :=
  ∃ A n c rs, e = .returned (.tuple #[.slice A n c, .int .i64 E]) ∧ OwnSS w.heap.size w' A n c rs ∧ LLof rs = LL ∧ Below w.heap.size w w'
theorem retSS_zero {w w' : World} {e : Ending} {E : Int} (he : e = .returned (.tuple #[.slice none 0 0, .int .i64 E])) (hb : Below w.heap.size w w') : RetSS w [] E e w' :=
  ⟨none, 0, 0, [], he, OwnSS.nilS _ _, rfl, hb⟩
theorem totN_LL {B : Nat} {w : World} {A : Option Addr} {n c : Nat} {rs : List Rw} (h : OwnSS B w A n c rs) : totN rs = ((LLof rs).map List.length).sum := by
  unfold totN LLof
  rw [List.map_map]
  congr 1
  apply List.map_congr_left
  intro r hr
  exact (h.2.1 r hr).len.symm

end Go.Proofs.Ytfdjlgpdbgmdkaa
