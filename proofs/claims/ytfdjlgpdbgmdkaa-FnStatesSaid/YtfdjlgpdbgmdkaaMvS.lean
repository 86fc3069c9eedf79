/- Lists of moves in memory: words, and the law's comparisons and marks. -/
import Derived.Test.YtfdjlgpdbgmdkaaOwnG
import Derived.Test.YtfdjlgpdbgmdkaaMark
import Derived.Test.YtfdjlgpdbgmdkaaMovesL
import Derived.StillTailTactics
namespace Go.Proofs.Ytfdjlgpdbgmdkaa
open Go.RowKit
set_option linter.unusedVariables false

theorem Try.infoM : (Try.prog.info? 74).map (fun i => (i.zero, i.size, i.bytes)) = some (some (.agg #[.int .i64 0, .int .i64 0, .int .i64 0]), 3, 24) := by kernel_rfl

/-- The cells of a list of moves. -/
def mvF (M : List Mv) : List Int := M.flatMap (fun m => [m.1, m.2.1, m.2.2])
def mvCells (M : List Mv) : List Value := (mvF M).map (Value.int .i64)
theorem mvF_len (M : List Mv) : (mvF M).length = M.length * 3 := by
  induction M with
  | nil => rfl
  | cons m M ih => simp only [mvF, List.flatMap_cons, List.length_append, List.length_cons, List.length_nil] at ih ⊢; omega
theorem mvF_cons (m : Mv) (M : List Mv) : mvF (m :: M) = m.1 :: m.2.1 :: m.2.2 :: mvF M := rfl
theorem mvCells_snoc (M : List Mv) (m : Mv) : mvCells (M ++ [m]) = mvCells M ++ [.int .i64 m.1, .int .i64 m.2.1, .int .i64 m.2.2] := by simp [mvCells, mvF]
theorem mvCells_len (M : List Mv) : (mvCells M).length = M.length * 3 := by unfold mvCells; rw [List.length_map, mvF_len]
theorem mvF_at : ∀ (M : List Mv) (k : Nat), k < M.length → (mvF M)[k * 3]? = some (M[k]?.getD (0, 0, 0)).1 ∧ (mvF M)[k * 3 + 1]? = some (M[k]?.getD (0, 0, 0)).2.1 ∧ (mvF M)[k * 3 + 2]? = some (M[k]?.getD (0, 0, 0)).2.2
  | [], k, h => by simp at h
  | m :: M, 0, _ => by simp [mvF_cons]
  | m :: M, k + 1, h => by
    have ih := mvF_at M k (by simpa using h)
    rw [mvF_cons]
    refine ⟨?_, ?_, ?_⟩
    · rw [show (k + 1) * 3 = k * 3 + 3 by omega]; simpa using ih.1
    · rw [show (k + 1) * 3 + 1 = k * 3 + 1 + 3 by omega]; simpa using ih.2.1
    · rw [show (k + 1) * 3 + 2 = k * 3 + 2 + 3 by omega]; simpa using ih.2.2
theorem mvF_inj : ∀ (M M' : List Mv), mvF M = mvF M' → M = M'
  | [], [], _ => rfl
  | [], m :: M, h => by rw [mvF_cons] at h; cases h
  | m :: M, [], h => by rw [mvF_cons] at h; cases h
  | (a, b, c) :: M, (a', b', c') :: M', h => by
    rw [mvF_cons, mvF_cons] at h
    injection h with h1 h
    injection h with h2 h
    injection h with h3 h
    simp only at h1 h2 h3
    rw [h1, h2, h3, mvF_inj M M' h]
/-- A list of moves that is read. -/
def Mvs (w : World) (A : Option Addr) (M : List Mv) : Prop :=
  ∀ k, k < M.length → ∃ g, A = some ⟨g, 0, none⟩ ∧ g < w.heap.size ∧ w.cell? ⟨g, k * 3, none⟩ = some (.int .i64 (M[k]?.getD (0, 0, 0)).1) ∧ w.cell? ⟨g, k * 3 + 1, none⟩ = some (.int .i64 (M[k]?.getD (0, 0, 0)).2.1) ∧ w.cell? ⟨g, k * 3 + 2, none⟩ = some (.int .i64 (M[k]?.getD (0, 0, 0)).2.2)
theorem Mvs.below {w w' : World} {A : Option Addr} {M : List Mv} (h : Mvs w A M) (hb : Below w.heap.size w w') : Mvs w' A M := by
  intro k hk
  obtain ⟨g, rfl, hg, h1, h2, h3⟩ := h k hk
  exact ⟨g, rfl, Nat.lt_of_lt_of_le hg hb.size, (hb.cell (p := ⟨g, k * 3, none⟩) hg).trans h1, (hb.cell (p := ⟨g, k * 3 + 1, none⟩) hg).trans h2, (hb.cell (p := ⟨g, k * 3 + 2, none⟩) hg).trans h3⟩
/-- A list of moves in the call's own memory. -/
abbrev OwnM (B : Nat) (w : World) (A : Option Addr) (n c : Nat) (M : List Mv) : Prop := OwnG 74 3 B w A n c (mvCells M)
theorem OwnM.len {B : Nat} {w : World} {A : Option Addr} {n c : Nat} {M : List Mv} (h : OwnM B w A n c M) : M.length = n := by
  have := OwnG.len h
  rw [mvCells_len] at this
  omega
theorem OwnM.mvs {B : Nat} {w : World} {A : Option Addr} {n c : Nat} {M : List Mv} (h : OwnM B w A n c M) : Mvs w A M := by
  intro k hk
  have hl := OwnM.len h
  obtain ⟨e1, e2, e3⟩ := mvF_at M k hk
  obtain ⟨g, hA, _, hg, c1⟩ := OwnG.cell h (k * 3) (by omega)
  obtain ⟨g2, hA2, _, _, c2⟩ := OwnG.cell h (k * 3 + 1) (by omega)
  obtain ⟨g3, hA3, _, _, c3⟩ := OwnG.cell h (k * 3 + 2) (by omega)
  subst hA
  cases hA2
  cases hA3
  exact ⟨g, rfl, hg, by rw [c1]; simp [mvCells, e1], by rw [c2]; simp [mvCells, e2], by rw [c3]; simp [mvCells, e3]⟩

/-- Two slices of which the one came later (of whatever element types). -/
theorem ows_form {B e s n c : Nat} {w : World} {A : Option Addr} {xs : List Value} (h : w.ownsRow B e s (.slice A n c) n xs) : (A = none ∧ n = 0 ∧ c = 0) ∨ ∃ g, A = some ⟨g, 0, none⟩ ∧ B ≤ g ∧ g < w.heap.size := OwnG.form h
theorem ows_bk {B e s n c : Nat} {w : World} {A : Option Addr} {xs : List Value} (h : w.ownsRow B e s (.slice A n c) n xs) : ∀ k, (Value.slice A n c).ownBlock = some k → B ≤ k := by
  intro k hk
  rcases ows_form h with ⟨rfl, rfl, rfl⟩ | ⟨g, rfl, hB, _⟩
  · simp [Value.ownBlock] at hk
  · simp only [Value.ownBlock, Option.some.injEq] at hk
    omega
theorem ows_apart {B B' e s e' s' n c n' c' : Nat} {w w' : World} {A A' : Option Addr} {xs xs' : List Value} (h : w.ownsRow B e s (.slice A n c) n xs) (h' : w'.ownsRow B' e' s' (.slice A' n' c') n' xs') (hB : w.heap.size ≤ B') :
    ∀ g, A = some ⟨g, 0, none⟩ → (Value.slice A' n' c').ownBlock ≠ some g := by
  intro g hg e
  subst hg
  rcases ows_form h with ⟨h1, _⟩ | ⟨g1, h1, _, hlt⟩
  · cases h1
  · injection h1 with h1
    injection h1 with h1
    subst h1
    have := ows_bk h' _ e
    omega
theorem ows_apart_back {B B' e s e' s' n c n' c' : Nat} {w w' : World} {A A' : Option Addr} {xs xs' : List Value} (h : w.ownsRow B e s (.slice A n c) n xs) (h' : w'.ownsRow B' e' s' (.slice A' n' c') n' xs') (hB : w.heap.size ≤ B') :
    ∀ g, A' = some ⟨g, 0, none⟩ → (Value.slice A n c).ownBlock ≠ some g := by
  intro g hg e
  subst hg
  rcases ows_form h' with ⟨h1, _⟩ | ⟨g1, h1, hB1, _⟩
  · cases h1
  · injection h1 with h1
    injection h1 with h1
    subst h1
    rcases ows_form h with ⟨rfl, rfl, rfl⟩ | ⟨g2, rfl, _, hlt⟩
    · simp [Value.ownBlock] at e
    · simp only [Value.ownBlock, Option.some.injEq] at e
      omega

/-- Whether two moves are equal. -/
def mvEqB (m m' : Mv) : Bool := decide (m.1 = m'.1 ∧ m.2.1 = m'.2.1 ∧ m.2.2 = m'.2.2)
theorem ret_mvEq {a b d a' b' d' : Int} {x : Bool} (h : decide (a = a' ∧ b = b' ∧ d = d') = x) : Ending.returned (.bool x) = .returned (.bool (mvEqB (a, b, d) (a', b', d'))) := by rw [← h]; rfl

theorem mvs_ext {M M' : List Mv} {n : Nat} (h : M.length = n) (h' : M'.length = n) (hs : ∀ j, j < n → M[j]?.getD (0, 0, 0) = M'[j]?.getD (0, 0, 0)) : M = M' := by
  apply List.ext_getElem (by omega)
  intro i h1 h2
  have := hs i (by omega)
  rwa [List.getElem?_eq_getElem h1, List.getElem?_eq_getElem h2] at this
theorem mv_eq {x y : Mv} (h : x.1 = y.1 ∧ x.2.1 = y.2.1 ∧ x.2.2 = y.2.2) : x = y := by
  obtain ⟨a, b, c⟩ := x
  obtain ⟨a', b', c'⟩ := y
  simp only at h
  rw [h.1, h.2.1, h.2.2]

/-- A list of moves and a code are the answer; the list lies in the call's own memory. -/
def RetMvs (w : World) (n : Nat) (M : List Mv) (E : Int) (e : Ending) (w' : World) : Prop :=
  ∃ A c, e = .returned (.tuple #[.slice A n c, .int .i64 E]) ∧ OwnM w.heap.size w' A n c M ∧ Below w.heap.size w w'
theorem retMvs_zero {w w' : World} {e : Ending} {E : Int} (he : e = .returned (.tuple #[.slice none 0 0, .int .i64 E])) (hb : Below w.heap.size w w') : RetMvs w ([] : List Mv).length [] E e w' :=
  ⟨none, 0, he, OwnG.nilS _ _ _ _, hb⟩

end Go.Proofs.Ytfdjlgpdbgmdkaa
