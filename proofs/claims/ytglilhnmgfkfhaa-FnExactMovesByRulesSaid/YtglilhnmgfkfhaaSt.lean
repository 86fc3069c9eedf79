/- Words for memory: a list of states that the call owns, or that is read; such lists are compared, marked, found to hold their marks. -/
import Derived.Test.YtglilhnmgfkfhaaSS2
import Derived.RangeFuncBox
namespace Go.Proofs.Ytglilhnmgfkfhaa
open Go.RowKit
set_option linter.unusedVariables false

/-- A state in memory: its number of pegs, its list (n elements, capacity c), the capacity d of the list's block, what the list reads as. -/
structure Sw where
  q : Int
  A : Option Addr
  n : Nat
  c : Nat
  d : Nat
  L : List Int
def Sw.vs (r : Sw) : List Value := [.int .i64 r.q, .slice r.A r.n r.c]
/-- The cells of a list of states. -/
def stCells (rs : List Sw) : List Value := rs.flatMap Sw.vs
theorem stCells_cons (r : Sw) (t : List Sw) : stCells (r :: t) = .int .i64 r.q :: .slice r.A r.n r.c :: stCells t := rfl
theorem stCells_len : ∀ rs : List Sw, (stCells rs).length = rs.length * 2
  | [] => rfl
  | r :: t => by rw [stCells_cons, List.length_cons, List.length_cons, List.length_cons, stCells_len t]; omega
theorem stCells_append (a b : List Sw) : stCells (a ++ b) = stCells a ++ stCells b := by simp [stCells]
theorem stCells_at : ∀ (rs : List Sw) (k : Nat) (r : Sw), rs[k]? = some r → (stCells rs)[k * 2]? = some (.int .i64 r.q) ∧ (stCells rs)[k * 2 + 1]? = some (.slice r.A r.n r.c)
  | [], k, r, h => by simp at h
  | s :: t, 0, r, h => by
    simp at h
    subst h
    simp [stCells_cons]
  | s :: t, k + 1, r, h => by
    have ih := stCells_at t k r (by simpa using h)
    rw [stCells_cons]
    refine ⟨?_, ?_⟩
    · rw [show (k + 1) * 2 = k * 2 + 2 by omega]; simpa using ih.1
    · rw [show (k + 1) * 2 + 1 = k * 2 + 1 + 2 by omega]; simpa using ih.2
theorem stCells_set : ∀ (rs : List Sw) (i : Nat) (r : Sw) (q : Int) (L : List Int), rs[i]? = some r → stCells (rs.set i { r with q := q, L := L }) = (stCells rs).set (i * 2) (.int .i64 q)
  | [], i, r, q, L, h => by simp at h
  | s :: t, 0, r, q, L, h => by
    simp at h
    subst h
    simp [stCells_cons]
  | s :: t, i + 1, r, q, L, h => by
    have ih := stCells_set t i r q L (by simpa using h)
    rw [List.set_cons_succ, stCells_cons, ih, stCells_cons, show (i + 1) * 2 = i * 2 + 2 by omega]
    rfl
/-- The states can be read. -/
def IntsSt (w : World) (A : Option Addr) (rs : List Sw) : Prop :=
  ∀ k r, rs[k]? = some r → ∃ g, A = some ⟨g, 0, none⟩ ∧ g < w.heap.size ∧ w.cell? ⟨g, k * 2, none⟩ = some (.int .i64 r.q) ∧ w.cell? ⟨g, k * 2 + 1, none⟩ = some (.slice r.A r.n r.c) ∧ r.L.length = r.n ∧ Ints w r.A r.L
/-- No two of the lists lie in one block. -/
def DistinctT (rs : List Sw) : Prop := rs.Pairwise (fun r s => ∀ g, r.A = some ⟨g, 0, none⟩ → s.A ≠ some ⟨g, 0, none⟩)
/-- The list of states is the call's own, from block B on. -/
def OwnSt (B : Nat) (w : World) (A : Option Addr) (n c : Nat) (rs : List Sw) : Prop :=
  OwnG 33 2 B w A n c (stCells rs) ∧ (∀ r ∈ rs, Own B w r.A r.n r.d r.L) ∧ DistinctT rs
def totT (rs : List Sw) : Nat := (rs.map (fun r => r.n + 1)).sum
def QLof (rs : List Sw) : List (Int × List Int) := rs.map (fun r => (r.q, r.L))

section
variable {B : Nat} {w w' : World} {A : Option Addr} {n c : Nat} {rs : List Sw}
theorem IntsSt.below (h : IntsSt w A rs) (hb : Below w.heap.size w w') : IntsSt w' A rs := by
  intro k r hr
  obtain ⟨g, h1, h2, h3, h4, h5, h6⟩ := h k r hr
  exact ⟨g, h1, Nat.lt_of_lt_of_le h2 hb.size, (hb.cell (p := ⟨g, k * 2, none⟩) h2).trans h3, (hb.cell (p := ⟨g, k * 2 + 1, none⟩) h2).trans h4, h5, h6.below hb⟩
theorem OwnSt.len (h : OwnSt B w A n c rs) : rs.length = n := by have := h.1.len; rw [stCells_len] at this; omega
theorem OwnSt.ints (h : OwnSt B w A n c rs) : IntsSt w A rs := by
  intro k r hr
  have hk := (List.getElem?_eq_some_iff.1 hr).1
  have hl := h.len
  obtain ⟨g, h1, _, h2, h3⟩ := h.1.cell (k * 2) (by omega)
  obtain ⟨g', h1', _, _, h3'⟩ := h.1.cell (k * 2 + 1) (by omega)
  subst h1
  cases h1'
  have ho := h.2.1 r (List.mem_of_getElem? hr)
  obtain ⟨e1, e2⟩ := stCells_at rs k r hr
  exact ⟨_, rfl, h2, h3.trans e1, h3'.trans e2, ho.len, ho.ints⟩
theorem OwnSt.below (h : OwnSt B w A n c rs) (hb : Below w.heap.size w w') : OwnSt B w' A n c rs :=
  ⟨h.1.below hb, fun r hr => (h.2.1 r hr).below hb, h.2.2⟩
theorem OwnSt.mono {B' : Nat} (h : OwnSt B w A n c rs) (hB : B' ≤ B) : OwnSt B' w A n c rs :=
  ⟨h.1.mono hB, fun r hr => (h.2.1 r hr).mono hB, h.2.2⟩
/-- Whatever writes to none of its blocks keeps it. -/
theorem OwnSt.keptRow {row : Option Nat} (h : OwnSt B w A n c rs) (hg : w.grownBy w' row) (h0 : ∀ g, A = some ⟨g, 0, none⟩ → row ≠ some g) (h1 : ∀ r ∈ rs, ∀ g, r.A = some ⟨g, 0, none⟩ → row ≠ some g) : OwnSt B w' A n c rs :=
  ⟨h.1.kept hg h0, fun r hr => (h.2.1 r hr).kept hg (h1 r hr), h.2.2⟩
/-- A block below B is written to. -/
theorem OwnSt.keptBelow {row : Option Nat} (h : OwnSt B w A n c rs) (hg : w.grownBy w' row) (hr : ∀ g, row = some g → g < B) : OwnSt B w' A n c rs := by
  have key : ∀ {e s n' c' : Nat} {A' : Option Addr} {xs : List Value}, OwnG e s B w A' n' c' xs → ∀ g, A' = some ⟨g, 0, none⟩ → row ≠ some g := by
    intro e s n' c' A' xs ho g hA e
    rcases ho.form with ⟨h1, _⟩ | ⟨g', h1, hB, _⟩
    · rw [h1] at hA; cases hA
    · rw [h1] at hA
      injection hA with hA
      injection hA with hA
      have := hr _ e
      omega
  exact h.keptRow hg (key h.1) (fun r hr' => key (h.2.1 r hr'))
theorem OwnSt.nilS (B : Nat) (w : World) : OwnSt B w none 0 0 [] := ⟨OwnG.nilS _ _ _ _, fun r hr => by simp at hr, List.Pairwise.nil⟩
/-- An address of the outer list is none of an inner one. -/
theorem OwnSt.apart (h : OwnSt B w A n c rs) {r : Sw} (hr : r ∈ rs) {g : Nat} (hA : A = some ⟨g, 0, none⟩) : r.A ≠ some ⟨g, 0, none⟩ := by
  intro e
  have h1 := h.2.1 r hr
  have h2 := h.1
  rw [e] at h1
  rw [hA] at h2
  exact absurd (OwnG.two_types h1 h2) (by decide)
theorem distinctT_set {i : Nat} {r s : Sw} (h : DistinctT rs) (hi : rs[i]? = some r) (hA : s.A = r.A) : DistinctT (rs.set i s) := by
  obtain ⟨hil, hir⟩ := List.getElem?_eq_some_iff.1 hi
  unfold DistinctT
  rw [List.pairwise_iff_getElem]
  intro p q hp hq hpq g hA1
  have hA' : ∀ (j : Nat) (hj : j < (rs.set i s).length), ((rs.set i s)[j]'hj).A = (rs[j]'(by simpa using hj)).A := by
    intro j hj
    rw [List.getElem_set]
    by_cases hij : i = j
    · subst hij; rw [if_pos rfl, hir]; exact hA
    · rw [if_neg hij]
  rw [hA'] at hA1
  rw [hA']
  exact List.pairwise_iff_getElem.1 h p q (by simpa using hp) (by simpa using hq) hpq g hA1
/-- A state's number of pegs is written. -/
theorem OwnSt.setq {i gA : Nat} {r : Sw} (h : OwnSt B w (some ⟨gA, 0, none⟩) n c rs) (hi : rs[i]? = some r) (q : Int) :
    OwnSt B (w.setCell ⟨gA, i * 2, none⟩ (.int .i64 q)) (some ⟨gA, 0, none⟩) n c (rs.set i { r with q := q }) ∧ w.grownBy (w.setCell ⟨gA, i * 2, none⟩ (.int .i64 q)) (some gA) := by
  obtain ⟨s1, s2⟩ := World.ownsRow.stored h.1 (i * 2) (.int .i64 q)
  have hrow := h.2.1 r (List.mem_of_getElem? hi)
  refine ⟨⟨?_, ?_, distinctT_set h.2.2 hi rfl⟩, s2⟩
  · have := stCells_set rs i r q r.L hi
    rw [this]
    exact s1
  · intro s hs
    obtain ⟨k, hk⟩ := List.getElem?_of_mem hs
    rw [List.getElem?_set] at hk
    have keep : ∀ {s' : Sw}, s' ∈ rs → Own B (w.setCell ⟨gA, i * 2, none⟩ (.int .i64 q)) s'.A s'.n s'.d s'.L := by
      intro s' hs'
      refine Own.kept (h.2.1 s' hs') s2 ?_
      intro g hA e
      injection e with e
      subst e
      exact h.apart hs' rfl hA
    by_cases hki : i = k
    · subst hki
      rw [if_pos rfl, if_pos (List.getElem?_eq_some_iff.1 hi).1] at hk
      injection hk with hk
      subst hk
      exact keep (s' := r) (List.mem_of_getElem? hi)
    · rw [if_neg hki] at hk
      exact keep (List.mem_of_getElem? hk)
/-- One of the lists is written to. -/
theorem OwnSt.row {i : Nat} {r : Sw} {L' : List Int} (h : OwnSt B w A n c rs) (hi : rs[i]? = some r) (hO : Own B w' r.A r.n r.d L') (hg : w.grownBy w' (Value.slice r.A r.n r.d).ownBlock) :
    OwnSt B w' A n c (rs.set i { r with L := L' }) := by
  obtain ⟨hil, hir⟩ := List.getElem?_eq_some_iff.1 hi
  have hmem := List.mem_of_getElem? hi
  have hrow := h.2.1 r hmem
  refine ⟨?_, ?_, distinctT_set h.2.2 hi rfl⟩
  · have e : stCells (rs.set i { r with L := L' }) = stCells rs := by
      have h1 := stCells_set rs i r r.q L' hi
      have h2 := (stCells_at rs i r hi).1
      obtain ⟨h3, h4⟩ := List.getElem?_eq_some_iff.1 h2
      have h5 : (stCells rs).set (i * 2) (.int .i64 r.q) = stCells rs := by rw [← h4]; exact List.set_getElem_self _
      exact h1.trans h5
    rw [e]
    refine h.1.kept hg ?_
    intro g hA e2
    have h1 := block_of_own hrow e2
    exact h.apart hmem hA h1
  · intro s hs
    obtain ⟨k, hk⟩ := List.getElem?_of_mem hs
    rw [List.getElem?_set] at hk
    by_cases hki : i = k
    · subst hki
      rw [if_pos rfl, if_pos hil] at hk
      injection hk with hk
      subst hk
      exact hO
    · rw [if_neg hki] at hk
      have ho := h.2.1 s (List.mem_of_getElem? hk)
      refine ho.kept hg ?_
      intro g hA e2
      obtain ⟨hkl, hkr⟩ := List.getElem?_eq_some_iff.1 hk
      have h1 := block_of_own hrow e2
      rcases Nat.lt_or_gt_of_ne hki with hlt | hlt
      · have := List.pairwise_iff_getElem.1 h.2.2 i k hil hkl hlt g (by rw [hir]; exact h1)
        rw [hkr] at this
        exact this hA
      · have := List.pairwise_iff_getElem.1 h.2.2 k i hkl hil hlt g (by rw [hkr]; exact hA)
        rw [hir] at this
        exact this h1
/-- A state is put at the end. The world behind the append is w1; the new state's list lay in blocks from b on, the others' blocks lie below b. -/
theorem OwnSt.snoc {w1 : World} {o : Obj} {A' : Option Addr} {c' b : Nat} {r : Sw} (h : OwnSt B w A n c rs) (hr : Own B w r.A r.n r.d r.L) (hb : ∀ g, r.A = some ⟨g, 0, none⟩ → b ≤ g) (hold : ∀ s ∈ rs, ∀ g, s.A = some ⟨g, 0, none⟩ → g < b)
    (hown : OwnG 33 2 B w1 A' (n + 1) c' (stCells rs ++ [.int .i64 r.q, .slice r.A r.n r.c])) (hg : (w.alloc o).grownBy w1 (Value.slice A n c).ownBlock) : OwnSt B w1 A' (n + 1) c' (rs ++ [r]) := by
  have key : ∀ {A2 : Option Addr} {n2 d2 : Nat} {L2 : List Int}, Own B w A2 n2 d2 L2 → Own B w1 A2 n2 d2 L2 := by
    intro A2 n2 d2 L2 ho
    refine Own.kept (w := w.alloc o) (OwnG.alloc ho o) hg ?_
    intro g hA e
    have h1 := block_of_own h.1 e
    have h2 := h.1
    rw [h1] at h2
    subst hA
    exact absurd (OwnG.two_types ho h2) (by decide)
  refine ⟨by rw [stCells_append]; exact hown, ?_, ?_⟩
  · intro s hs
    rcases List.mem_append.1 hs with hs | hs
    · exact key (h.2.1 s hs)
    · rw [List.mem_singleton] at hs
      subst hs
      exact key hr
  · unfold DistinctT
    rw [List.pairwise_append]
    refine ⟨h.2.2, List.pairwise_singleton _ _, ?_⟩
    intro s hs t ht g hA hT
    rw [List.mem_singleton] at ht
    subst ht
    have h1 := hold s hs g hA
    have h2 := hb g hT
    omega
theorem OwnSt.rows_lt (h : OwnSt B w A n c rs) : ∀ s ∈ rs, ∀ g, s.A = some ⟨g, 0, none⟩ → g < w.heap.size := by
  intro s hs g hA
  have := h.2.1 s hs
  rw [hA] at this
  exact (ownG_lt this).2
end

/-- The states with their marks. -/
def mkSt : Int → List Sw → List Sw
  | _, [] => []
  | k, r :: t => { r with q := k, L := iotaL (k + 1) r.n } :: mkSt (k + 1 + r.n) t
theorem mkSt_len : ∀ (k : Int) (rs : List Sw), (mkSt k rs).length = rs.length
  | _, [] => rfl
  | k, r :: t => by simp [mkSt, mkSt_len (k + 1 + r.n) t]
theorem totT_cons (r : Sw) (t : List Sw) : totT (r :: t) = r.n + 1 + totT t := by simp [totT]
theorem rowsT_small {rs : List Sw} {b : Nat} (h : totT rs ≤ b) : ∀ r ∈ rs, r.n ≤ b := by
  induction rs with
  | nil => intro r hr; simp at hr
  | cons s t ih =>
    intro r hr
    rw [totT_cons] at h
    rcases List.mem_cons.1 hr with rfl | hr
    · omega
    · exact ih (by omega) r hr
theorem totT_take_succ {rs : List Sw} {i : Nat} {r : Sw} (h : rs[i]? = some r) : totT (rs.take (i + 1)) = totT (rs.take i) + (r.n + 1) := by
  obtain ⟨hi, he⟩ := List.getElem?_eq_some_iff.1 h
  unfold totT
  rw [List.take_succ_eq_append_getElem hi, he]
  simp
theorem totT_take_le (rs : List Sw) (i : Nat) : totT (rs.take i) ≤ totT rs := by
  have e : totT rs = totT (rs.take i) + totT (rs.drop i) := by
    unfold totT
    rw [← List.sum_append, ← List.map_append, List.take_append_drop]
  omega
theorem mkSt_get : ∀ (k : Int) (rs : List Sw) (i : Nat) (r : Sw), rs[i]? = some r → (mkSt k rs)[i]? = some { r with q := k + totT (rs.take i), L := iotaL (k + totT (rs.take i) + 1) r.n }
  | k, [], i, r, h => by simp at h
  | k, s :: t, 0, r, h => by
    simp at h
    subst h
    simp [mkSt, totT]
  | k, s :: t, i + 1, r, h => by
    have := mkSt_get (k + 1 + s.n) t i r (by simpa using h)
    have e : k + 1 + (s.n : Int) + (totT (t.take i) : Int) = k + ((s.n + 1 + totT (t.take i) : Nat) : Int) := by omega
    rw [mkSt, List.getElem?_cons_succ, this, List.take_succ_cons, totT_cons, e]
/-- The first i are marked. -/
def mixSt (k : Int) (rs : List Sw) (i : Nat) : List Sw := mkSt k (rs.take i) ++ rs.drop i
theorem mixSt_zero (k : Int) (rs : List Sw) : mixSt k rs 0 = rs := by simp [mixSt, mkSt]
theorem mixSt_all (k : Int) (rs : List Sw) : mixSt k rs rs.length = mkSt k rs := by simp [mixSt]
theorem mkSt_append : ∀ (k : Int) (a b : List Sw), mkSt k (a ++ b) = mkSt k a ++ mkSt (k + totT a) b
  | k, [], b => by simp [mkSt, totT]
  | k, r :: t, b => by
    have e : k + 1 + (r.n : Int) + (totT t : Int) = k + ((r.n + 1 + totT t : Nat) : Int) := by omega
    rw [List.cons_append, mkSt, mkSt, mkSt_append (k + 1 + r.n) t b, totT_cons, List.cons_append, e]
theorem mixSt_get {k : Int} {rs : List Sw} {i : Nat} {r : Sw} (h : rs[i]? = some r) : (mixSt k rs i)[i]? = some r := by
  have hi := (List.getElem?_eq_some_iff.1 h).1
  unfold mixSt
  rw [List.getElem?_append_right (by rw [mkSt_len, List.length_take]; omega), mkSt_len, List.getElem?_drop]
  have e : i + (i - (rs.take i).length) = i := by simp; omega
  rw [e]
  exact h
theorem mixSt_step {k : Int} {rs : List Sw} {i : Nat} {r : Sw} (h : rs[i]? = some r) : (mixSt k rs i).set i { r with q := k + totT (rs.take i), L := iotaL (k + totT (rs.take i) + 1) r.n } = mixSt k rs (i + 1) := by
  obtain ⟨hi, he⟩ := List.getElem?_eq_some_iff.1 h
  unfold mixSt
  have hl : (mkSt k (rs.take i)).length = i := by rw [mkSt_len]; simp; omega
  rw [List.set_append_right _ _ (by omega), hl, Nat.sub_self, List.drop_eq_getElem_cons hi, he, List.set_cons_zero, List.take_succ_eq_append_getElem hi, he, mkSt_append]
  simp [mkSt]

/-- A list of states and a code are the answer. -/
def RetSt (w : World) (QL : List (Int × List Int)) (E : Int) (e : Ending) (w' : World) : Prop :=
  ∃ A n c rs, e = .returned (.tuple #[.slice A n c, .int .i64 E]) ∧ OwnSt w.heap.size w' A n c rs ∧ QLof rs = QL ∧ Below w.heap.size w w'
theorem retSt_zero {w w' : World} {e : Ending} {E : Int} (he : e = .returned (.tuple #[.slice none 0 0, .int .i64 E])) (hb : Below w.heap.size w w') : RetSt w [] E e w' :=
  ⟨none, 0, 0, [], he, OwnSt.nilS _ _, rfl, hb⟩
theorem QL_at {rs : List Sw} {k : Nat} {r : Sw} (h : rs[k]? = some r) : (QLof rs)[k]? = some (r.q, r.L) := by unfold QLof; rw [List.getElem?_map, h]; rfl
theorem QL_len (rs : List Sw) : (QLof rs).length = rs.length := by simp [QLof]
theorem getT_of_lt {rs : List Sw} {k : Nat} (h : k < rs.length) : ∃ r, rs[k]? = some r := ⟨_, List.getElem?_eq_getElem h⟩
theorem totT_QL {B : Nat} {w : World} {A : Option Addr} {n c : Nat} {rs : List Sw} (h : OwnSt B w A n c rs) : totT rs = ((QLof rs).map (fun x => x.2.length + 1)).sum := by
  unfold totT QLof
  rw [List.map_map]
  congr 1
  apply List.map_congr_left
  intro r hr
  simp only [Function.comp_apply]
  rw [(h.2.1 r hr).len]
theorem totT_len (rs : List Sw) : rs.length ≤ totT rs := by
  induction rs with
  | nil => simp
  | cons r t ih => rw [totT_cons, List.length_cons]; omega

/-- A block that is no cells is none of a slice's own. -/
theorem ownG_far {e s B : Nat} {w : World} {A : Option Addr} {n c : Nat} {xs : List Value} {row : Option Nat} (h : OwnG e s B w A n c xs) (hrow : ∀ r, row = some r → ∃ o : Obj, w.heap[r]? = some o ∧ o.isCells = false) : ∀ g, A = some ⟨g, 0, none⟩ → row ≠ some g := by
  intro g hA he
  obtain ⟨o, ho, hc⟩ := hrow g he
  rcases h.2 with ⟨hv, _⟩ | ⟨g', cap, cur, hv, _, hh, _⟩
  · injection hv with h1 h2 h3
    rw [hA] at h1
    cases h1
  · injection hv with h1 h2 h3
    rw [hA] at h1
    injection h1 with h1
    injection h1 with h1
    subst h1
    rw [hh] at ho
    cases ho
    cases hc
/-- A boxed list of states, through the iterator's own steps. -/
theorem stRow_own {β : Type} (n₀ nB t : Nat) (k : β → Nat) (f : β → List (Int × List Int)) :
    Go.Own (fun (s : β) W => ∃ A c rs, Boxed W nB t (.slice A (k s) c) ∧ OwnSt n₀ W A (k s) c rs ∧ QLof rs = f s) := by
  rintro s X Y row ⟨A, c, rs, hv, ho, hq⟩ hg hrow
  refine ⟨A, c, rs, hv.kept hg (fun e' => ?_), ho.keptRow hg (ownG_far ho.1 hrow) (fun r hr => ownG_far (ho.2.1 r hr) hrow), hq⟩
  obtain ⟨o, h1, hc⟩ := hrow nB e'.symm
  rw [show X.heap[nB]? = _ from hv] at h1; cases h1; cases hc

end Go.Proofs.Ytglilhnmgfkfhaa
