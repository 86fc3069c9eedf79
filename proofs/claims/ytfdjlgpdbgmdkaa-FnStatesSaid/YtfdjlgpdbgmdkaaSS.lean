/- Words for memory: a list of lists of integers that the call owns, or that is read; such lists are compared, marked, found to hold their marks. -/
import Derived.Test.YtfdjlgpdbgmdkaaOwnI
import Derived.Test.YtfdjlgpdbgmdkaaApart
namespace Go.Proofs.Ytfdjlgpdbgmdkaa
open Go.RowKit
set_option linter.unusedVariables false

/-- A list of integers in memory: its slice (n elements, capacity c), the capacity d of its block, what it reads as. -/
structure Rw where
  A : Option Addr
  n : Nat
  c : Nat
  d : Nat
  L : List Int
def Rw.v (r : Rw) : Value := .slice r.A r.n r.c
/-- The lists can be read. -/
def IntsSS (w : World) (A : Option Addr) (rs : List Rw) : Prop :=
  ∀ k r, rs[k]? = some r → ∃ ad : Addr, A = some ad ∧ ad.block < w.heap.size ∧ w.cell? (ad.add k) = some r.v ∧ r.L.length = r.n ∧ Ints w r.A r.L
/-- No two of the lists lie in one block. -/
def Distinct (rs : List Rw) : Prop := rs.Pairwise (fun r s => ∀ g, r.A = some ⟨g, 0, none⟩ → s.A ≠ some ⟨g, 0, none⟩)
/-- The list of lists is the call's own, from block B on. -/
def OwnSS (B : Nat) (w : World) (A : Option Addr) (n c : Nat) (rs : List Rw) : Prop :=
  OwnG 24 1 B w A n c (rs.map Rw.v) ∧ (∀ r ∈ rs, Own B w r.A r.n r.d r.L) ∧ Distinct rs
def totN (rs : List Rw) : Nat := (rs.map Rw.n).sum
def LLof (rs : List Rw) : List (List Int) := rs.map Rw.L
theorem add_zero_at (R j : Nat) : (⟨R, 0, none⟩ : Addr).add j = ⟨R, j, none⟩ := by
  unfold Addr.add
  split
  · next h0 => rw [h0]
  · simp

section
variable {B : Nat} {w w' : World} {A : Option Addr} {n c : Nat} {rs : List Rw}
theorem IntsSS.below (h : IntsSS w A rs) (hb : Below w.heap.size w w') : IntsSS w' A rs := by
  intro k r hr
  obtain ⟨ad, h1, h2, h3, h4, h5⟩ := h k r hr
  exact ⟨ad, h1, Nat.lt_of_lt_of_le h2 hb.size, (hb.cell (p := ad.add k) (by rw [add_block]; exact h2)).trans h3, h4, h5.below hb⟩
theorem IntsSS.draws (h : IntsSS w A rs) (m : Nat) : IntsSS (w.drewN m) A rs := h
theorem OwnSS.len (h : OwnSS B w A n c rs) : rs.length = n := by have := h.1.len; simpa using this
theorem OwnSS.ints (h : OwnSS B w A n c rs) : IntsSS w A rs := by
  intro k r hr
  have hk := (List.getElem?_eq_some_iff.1 hr).1
  obtain ⟨g, h1, _, h2, h3⟩ := h.1.cell k (by rw [← h.len]; omega)
  have ho := h.2.1 r (List.mem_of_getElem? hr)
  refine ⟨_, h1, h2, ?_, ho.len, ho.ints⟩
  rw [add_zero_at, h3, List.getElem?_map, hr]
  rfl
theorem OwnSS.below (h : OwnSS B w A n c rs) (hb : Below w.heap.size w w') : OwnSS B w' A n c rs :=
  ⟨h.1.below hb, fun r hr => (h.2.1 r hr).below hb, h.2.2⟩
theorem OwnSS.mono {B' : Nat} (h : OwnSS B w A n c rs) (hB : B' ≤ B) : OwnSS B' w A n c rs :=
  ⟨h.1.mono hB, fun r hr => (h.2.1 r hr).mono hB, h.2.2⟩
theorem OwnSS.draws (h : OwnSS B w A n c rs) (m : Nat) : OwnSS B (w.drewN m) A n c rs := h
/-- A block below B is written to. -/
theorem OwnSS.keptBelow {row : Option Nat} (h : OwnSS B w A n c rs) (hg : w.grownBy w' row) (hr : ∀ g, row = some g → g < B) : OwnSS B w' A n c rs := by
  have key : ∀ {A' : Option Addr} {n' c' : Nat} {L : List Int}, Own B w A' n' c' L → Own B w' A' n' c' L := by
    intro A' n' c' L ho
    refine ho.kept hg ?_
    intro g hA e
    rcases ho.form with ⟨h1, _⟩ | ⟨g', h1, hB, _⟩
    · rw [h1] at hA; cases hA
    · rw [h1] at hA
      injection hA with hA
      injection hA with hA
      have := hr _ e
      omega
  refine ⟨?_, fun r hr' => key (h.2.1 r hr'), h.2.2⟩
  refine h.1.kept hg ?_
  intro g hA e
  rcases h.1.form with ⟨h1, _⟩ | ⟨g', h1, hB, _⟩
  · rw [h1] at hA; cases hA
  · rw [h1] at hA
    injection hA with hA
    injection hA with hA
    have := hr _ e
    omega
theorem OwnSS.nilS (B : Nat) (w : World) : OwnSS B w none 0 0 [] := ⟨OwnG.nilS _ _ _ _, fun r hr => by simp at hr, List.Pairwise.nil⟩
/-- One of the lists is written to. -/
theorem OwnSS.row {i : Nat} {r : Rw} {L' : List Int} (h : OwnSS B w A n c rs) (hi : rs[i]? = some r) (hO : Own B w' r.A r.n r.d L') (hg : w.grownBy w' (Value.slice r.A r.n r.d).ownBlock) :
    OwnSS B w' A n c (rs.set i { r with L := L' }) := by
  have hil := (List.getElem?_eq_some_iff.1 hi).1
  have hir := (List.getElem?_eq_some_iff.1 hi).2
  have hrow := h.2.1 r (List.mem_of_getElem? hi)
  have hne : ∀ {A' : Option Addr} {n' c' d' : Nat} {xs : List Value}, OwnG 24 1 B w A' n' c' xs → ∀ g, A' = some ⟨g, 0, none⟩ → (Value.slice r.A r.n r.d).ownBlock ≠ some g := by
    intro A' n' c' d' xs ho g hA e
    subst hA
    rcases hrow.form with ⟨h1, _⟩ | ⟨g1, h1, _, _⟩
    · rw [h1] at e; simp [Value.ownBlock] at e
    · rw [h1] at e
      simp only [Value.ownBlock, Option.some.injEq] at e
      subst e
      rcases hrow.2 with ⟨hv, _⟩ | ⟨g2, cap, cur, hv, _, hh, _⟩
      · rw [h1] at hv; simp at hv
      · rw [h1] at hv
        injection hv with hv
        injection hv with hv
        injection hv with hv
        subst hv
        rcases ho.2 with ⟨hv2, _⟩ | ⟨g3, cap3, cur3, hv2, _, hh2, _⟩
        · simp at hv2
        · injection hv2 with hv2
          injection hv2 with hv2
          injection hv2 with hv2
          subst hv2
          rw [hh] at hh2
          injection hh2 with hh2
          injection hh2 with _ h3
          exact absurd h3 (by decide)
  have e : (rs.set i { r with L := L' }).map Rw.v = rs.map Rw.v := by
    apply List.ext_getElem?
    intro k
    rw [List.getElem?_map, List.getElem?_map, List.getElem?_set]
    by_cases hk : i = k
    · subst hk; rw [if_pos rfl, if_pos hil, hi]; rfl
    · rw [if_neg hk]
  refine ⟨?_, ?_, ?_⟩
  · rw [e]
    exact h.1.kept hg (hne (d' := 0) h.1)
  · intro s hs
    obtain ⟨k, hk⟩ := List.getElem?_of_mem hs
    rw [List.getElem?_set] at hk
    by_cases hki : i = k
    · subst hki
      rw [if_pos rfl, if_pos hil] at hk
      injection hk with hk
      subst hk
      exact hO
    · rw [if_neg hki] at hk
      have ho := h.2.1 s (List.mem_of_getElem? hk)
      refine ho.kept hg ?_
      intro g hA e2
      have hkl := (List.getElem?_eq_some_iff.1 hk).1
      have hkr := (List.getElem?_eq_some_iff.1 hk).2
      rcases hrow.form with ⟨h1, _⟩ | ⟨g1, h1, _, _⟩
      · rw [h1] at e2; simp [Value.ownBlock] at e2
      · rw [h1] at e2
        simp only [Value.ownBlock, Option.some.injEq] at e2
        subst e2
        rcases Nat.lt_or_gt_of_ne hki with hlt | hlt
        · have := List.pairwise_iff_getElem.1 h.2.2 i k hil hkl hlt g1 (by rw [hir]; exact h1)
          rw [hkr] at this
          exact this hA
        · have := List.pairwise_iff_getElem.1 h.2.2 k i hkl hil hlt g1 (by rw [hkr]; exact hA)
          rw [hir] at this
          exact this h1
  · unfold Distinct
    rw [List.pairwise_iff_getElem]
    intro p q hp hq hpq g hA
    have hA' : ∀ (j : Nat) (hj : j < (rs.set i { r with L := L' }).length), ((rs.set i { r with L := L' })[j]'hj).A = (rs[j]'(by simpa using hj)).A := by
      intro j hj
      rw [List.getElem_set]
      by_cases hij : i = j
      · subst hij; rw [if_pos rfl, hir]
      · rw [if_neg hij]
    rw [hA'] at hA
    rw [hA']
    exact List.pairwise_iff_getElem.1 h.2.2 p q (by simpa using hp) (by simpa using hq) hpq g hA
end

/-- The lists with their marks. -/
def mkSS : Int → List Rw → List Rw
  | _, [] => []
  | k, r :: t => { r with L := iotaL k r.n } :: mkSS (k + r.n) t
theorem mkSS_len : ∀ (k : Int) (rs : List Rw), (mkSS k rs).length = rs.length
  | _, [] => rfl
  | k, r :: t => by simp [mkSS, mkSS_len (k + r.n) t]
theorem totN_cons (r : Rw) (t : List Rw) : totN (r :: t) = r.n + totN t := by simp [totN]
theorem rows_small {rs : List Rw} {b : Nat} (h : totN rs ≤ b) : ∀ r ∈ rs, r.n ≤ b := by
  induction rs with
  | nil => intro r hr; simp at hr
  | cons s t ih =>
    intro r hr
    rw [totN_cons] at h
    rcases List.mem_cons.1 hr with rfl | hr
    · omega
    · exact ih (by omega) r hr
theorem totN_take_succ {rs : List Rw} {i : Nat} {r : Rw} (h : rs[i]? = some r) : totN (rs.take (i + 1)) = totN (rs.take i) + r.n := by
  obtain ⟨hi, he⟩ := List.getElem?_eq_some_iff.1 h
  unfold totN
  rw [List.take_succ_eq_append_getElem hi, he]
  simp
theorem totN_take_le (rs : List Rw) (i : Nat) : totN (rs.take i) ≤ totN rs := by
  have e : totN rs = totN (rs.take i) + totN (rs.drop i) := by
    unfold totN
    rw [← List.sum_append, ← List.map_append, List.take_append_drop]
  omega
theorem mkSS_get : ∀ (k : Int) (rs : List Rw) (i : Nat) (r : Rw), rs[i]? = some r → (mkSS k rs)[i]? = some { r with L := iotaL (k + totN (rs.take i)) r.n }
  | k, [], i, r, h => by simp at h
  | k, s :: t, 0, r, h => by
    simp at h
    subst h
    simp [mkSS, totN]
  | k, s :: t, i + 1, r, h => by
    have := mkSS_get (k + s.n) t i r (by simpa using h)
    rw [mkSS, List.getElem?_cons_succ, this, List.take_succ_cons, totN_cons]
    congr 3
    omega
/-- The first i are marked. -/
def mixSS (k : Int) (rs : List Rw) (i : Nat) : List Rw := mkSS k (rs.take i) ++ rs.drop i
theorem mixSS_zero (k : Int) (rs : List Rw) : mixSS k rs 0 = rs := by simp [mixSS, mkSS]
theorem mixSS_all (k : Int) (rs : List Rw) : mixSS k rs rs.length = mkSS k rs := by simp [mixSS]
theorem mkSS_append : ∀ (k : Int) (a b : List Rw), mkSS k (a ++ b) = mkSS k a ++ mkSS (k + totN a) b
  | k, [], b => by simp [mkSS, totN]
  | k, r :: t, b => by
    rw [List.cons_append, mkSS, mkSS, mkSS_append (k + r.n) t b, totN_cons, List.cons_append]
    congr 3
    omega
theorem mixSS_get {k : Int} {rs : List Rw} {i : Nat} {r : Rw} (h : rs[i]? = some r) : (mixSS k rs i)[i]? = some r := by
  have hi := (List.getElem?_eq_some_iff.1 h).1
  unfold mixSS
  rw [List.getElem?_append_right (by rw [mkSS_len, List.length_take]; omega), mkSS_len, List.getElem?_drop]
  have e : i + (i - (rs.take i).length) = i := by simp; omega
  rw [e]
  exact h
theorem mixSS_step {k : Int} {rs : List Rw} {i : Nat} {r : Rw} (h : rs[i]? = some r) : (mixSS k rs i).set i { r with L := iotaL (k + totN (rs.take i)) r.n } = mixSS k rs (i + 1) := by
  obtain ⟨hi, he⟩ := List.getElem?_eq_some_iff.1 h
  unfold mixSS
  have hl : (mkSS k (rs.take i)).length = i := by rw [mkSS_len]; simp; omega
  rw [List.set_append_right _ _ (by omega), hl, Nat.sub_self, List.drop_eq_getElem_cons hi, he, List.set_cons_zero, List.take_succ_eq_append_getElem hi, he, mkSS_append]
  simp [mkSS]

end Go.Proofs.Ytfdjlgpdbgmdkaa
