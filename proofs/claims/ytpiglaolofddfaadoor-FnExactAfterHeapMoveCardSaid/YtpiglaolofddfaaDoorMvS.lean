/- Lists of moves in memory: words, and the law's comparisons and marks. -/
import Derived.Test.YtpiglaolofddfaaDoorOwnG
import Derived.Test.YtpiglaolofddfaaDoorMark
import Derived.Test.YtpiglaolofddfaaDoorMovesL
import Derived.StillTailTactics
namespace Go.Proofs.YtpiglaolofddfaaDoor
open Go.RowKit
set_option linter.unusedVariables false

theorem Tryd.infoM : (Tryd.prog.info? 40).map (fun i => (i.zero, i.size, i.bytes)) = some (some (.agg #[.int .i64 0, .int .i64 0, .int .i64 0]), 3, 24) := by kernel_rfl

/-- The cells of a list of moves. -/
def mvF (M : List Mv) : List Int := M.flatMap (fun m => [m.1, m.2.1, m.2.2])
def mvCells (M : List Mv) : List Value := (mvF M).map (Value.int .i64)
theorem mvF_len (M : List Mv) : (mvF M).length = M.length * 3 := by
  induction M with
  | nil => rfl
  | cons m M ih => simp only [mvF, List.flatMap_cons, List.length_append, List.length_cons, List.length_nil] at ih ⊢; omega
theorem mvF_cons (m : Mv) (M : List Mv) : mvF (m :: M) = m.1 :: m.2.1 :: m.2.2 :: mvF M := rfl
theorem mvCells_snoc (M : List Mv) (m : Mv) : mvCells (M ++ [m]) = mvCells M ++ [.int .i64 m.1, .int .i64 m.2.1, .int .i64 m.2.2] := by simp [mvCells, mvF]
theorem mvCells_len (M : List Mv) : (mvCells M).length = M.length * 3 := by unfold mvCells; rw [List.length_map, mvF_len]
theorem mvF_at : ∀ (M : List Mv) (k : Nat), k < M.length → (mvF M)[k * 3]? = some (M[k]?.getD (0, 0, 0)).1 ∧ (mvF M)[k * 3 + 1]? = some (M[k]?.getD (0, 0, 0)).2.1 ∧ (mvF M)[k * 3 + 2]? = some (M[k]?.getD (0, 0, 0)).2.2
  | [], k, h => by simp at h
  | m :: M, 0, _ => by simp [mvF_cons]
  | m :: M, k + 1, h => by
    have ih := mvF_at M k (by simpa using h)
    rw [mvF_cons]
    refine ⟨?_, ?_, ?_⟩
    · rw [show (k + 1) * 3 = k * 3 + 3 by omega]; simpa using ih.1
    · rw [show (k + 1) * 3 + 1 = k * 3 + 1 + 3 by omega]; simpa using ih.2.1
    · rw [show (k + 1) * 3 + 2 = k * 3 + 2 + 3 by omega]; simpa using ih.2.2
theorem mvF_inj : ∀ (M M' : List Mv), mvF M = mvF M' → M = M'
  | [], [], _ => rfl
  | [], m :: M, h => by rw [mvF_cons] at h; cases h
  | m :: M, [], h => by rw [mvF_cons] at h; cases h
  | (a, b, c) :: M, (a', b', c') :: M', h => by
    rw [mvF_cons, mvF_cons] at h
    injection h with h1 h
    injection h with h2 h
    injection h with h3 h
    simp only at h1 h2 h3
    rw [h1, h2, h3, mvF_inj M M' h]
/-- A list of moves that is read. -/
def Mvs (w : World) (A : Option Addr) (M : List Mv) : Prop :=
  ∀ k, k < M.length → ∃ g, A = some ⟨g, 0, none⟩ ∧ g < w.heap.size ∧ w.cell? ⟨g, k * 3, none⟩ = some (.int .i64 (M[k]?.getD (0, 0, 0)).1) ∧ w.cell? ⟨g, k * 3 + 1, none⟩ = some (.int .i64 (M[k]?.getD (0, 0, 0)).2.1) ∧ w.cell? ⟨g, k * 3 + 2, none⟩ = some (.int .i64 (M[k]?.getD (0, 0, 0)).2.2)
theorem Mvs.below {w w' : World} {A : Option Addr} {M : List Mv} (h : Mvs w A M) (hb : Below w.heap.size w w') : Mvs w' A M := by
  intro k hk
  obtain ⟨g, rfl, hg, h1, h2, h3⟩ := h k hk
  exact ⟨g, rfl, Nat.lt_of_lt_of_le hg hb.size, (hb.cell (p := ⟨g, k * 3, none⟩) hg).trans h1, (hb.cell (p := ⟨g, k * 3 + 1, none⟩) hg).trans h2, (hb.cell (p := ⟨g, k * 3 + 2, none⟩) hg).trans h3⟩
/-- A list of moves in the call's own memory. -/
abbrev OwnM (B : Nat) (w : World) (A : Option Addr) (n c : Nat) (M : List Mv) : Prop := OwnG 40 3 B w A n c (mvCells M)
theorem OwnM.len {B : Nat} {w : World} {A : Option Addr} {n c : Nat} {M : List Mv} (h : OwnM B w A n c M) : M.length = n := by
  have := OwnG.len h
  rw [mvCells_len] at this
  omega
theorem OwnM.mvs {B : Nat} {w : World} {A : Option Addr} {n c : Nat} {M : List Mv} (h : OwnM B w A n c M) : Mvs w A M := by
  intro k hk
  have hl := OwnM.len h
  obtain ⟨e1, e2, e3⟩ := mvF_at M k hk
  obtain ⟨g, hA, _, hg, c1⟩ := OwnG.cell h (k * 3) (by omega)
  obtain ⟨g2, hA2, _, _, c2⟩ := OwnG.cell h (k * 3 + 1) (by omega)
  obtain ⟨g3, hA3, _, _, c3⟩ := OwnG.cell h (k * 3 + 2) (by omega)
  subst hA
  cases hA2
  cases hA3
  exact ⟨g, rfl, hg, by rw [c1]; simp [mvCells, e1], by rw [c2]; simp [mvCells, e2], by rw [c3]; simp [mvCells, e3]⟩

/-- Two slices of which the one came later (of whatever element types). -/
theorem ows_form {B e s n c : Nat} {w : World} {A : Option Addr} {xs : List Value} (h : w.ownsRow B e s (.slice A n c) n xs) : (A = none ∧ n = 0 ∧ c = 0) ∨ ∃ g, A = some ⟨g, 0, none⟩ ∧ B ≤ g ∧ g < w.heap.size := OwnG.form h
theorem ows_bk {B e s n c : Nat} {w : World} {A : Option Addr} {xs : List Value} (h : w.ownsRow B e s (.slice A n c) n xs) : ∀ k, (Value.slice A n c).ownBlock = some k → B ≤ k := by
  intro k hk
  rcases ows_form h with ⟨rfl, rfl, rfl⟩ | ⟨g, rfl, hB, _⟩
  · simp [Value.ownBlock] at hk
  · simp only [Value.ownBlock, Option.some.injEq] at hk
    omega
theorem ows_apart {B B' e s e' s' n c n' c' : Nat} {w w' : World} {A A' : Option Addr} {xs xs' : List Value} (h : w.ownsRow B e s (.slice A n c) n xs) (h' : w'.ownsRow B' e' s' (.slice A' n' c') n' xs') (hB : w.heap.size ≤ B') :
    ∀ g, A = some ⟨g, 0, none⟩ → (Value.slice A' n' c').ownBlock ≠ some g := by
  intro g hg e
  subst hg
  rcases ows_form h with ⟨h1, _⟩ | ⟨g1, h1, _, hlt⟩
  · cases h1
  · injection h1 with h1
    injection h1 with h1
    subst h1
    have := ows_bk h' _ e
    omega
theorem ows_apart_back {B B' e s e' s' n c n' c' : Nat} {w w' : World} {A A' : Option Addr} {xs xs' : List Value} (h : w.ownsRow B e s (.slice A n c) n xs) (h' : w'.ownsRow B' e' s' (.slice A' n' c') n' xs') (hB : w.heap.size ≤ B') :
    ∀ g, A' = some ⟨g, 0, none⟩ → (Value.slice A n c).ownBlock ≠ some g := by
  intro g hg e
  subst hg
  rcases ows_form h' with ⟨h1, _⟩ | ⟨g1, h1, hB1, _⟩
  · cases h1
  · injection h1 with h1
    injection h1 with h1
    subst h1
    rcases ows_form h with ⟨rfl, rfl, rfl⟩ | ⟨g2, rfl, _, hlt⟩
    · simp [Value.ownBlock] at e
    · simp only [Value.ownBlock, Option.some.injEq] at e
      omega

/-- Whether two moves are equal. -/
def mvEqB (m m' : Mv) : Bool := decide (m.1 = m'.1 ∧ m.2.1 = m'.2.1 ∧ m.2.2 = m'.2.2)
theorem ret_mvEq {a b d a' b' d' : Int} {x : Bool} (h : decide (a = a' ∧ b = b' ∧ d = d') = x) : Ending.returned (.bool x) = .returned (.bool (mvEqB (a, b, d) (a', b', d'))) := by rw [← h]; rfl

set_option maxHeartbeats 400000 in
theorem eqMove_calls (a b d a' b' d' : Int) (w : World) :
    Calls Tryd.prog 24 #[.agg #[.int .i64 a, .int .i64 b, .int .i64 d], .agg #[.int .i64 a', .int .i64 b', .int .i64 d']] w fun e w' => e = .returned (.bool (mvEqB (a, b, d) (a', b', d'))) ∧ Below w.heap.size w w' := by
  have hb0 : Below w.heap.size w ((w.alloc (.cells #[.int .i64 a, .int .i64 b, .int .i64 d] 40)).alloc (.cells #[.int .i64 a', .int .i64 b', .int .i64 d'] 40)) := ((Below.refl _ _).alloc (Nat.le_refl _) _).alloc (by simp) _
  have HB := Lib.hid hb0
  clear hb0
  by_cases h1 : a = a'
  · have e1 : (a != a') = false := by simpa using h1
    by_cases h2 : b = b'
    · have e2 : (b != b') = false := by simpa using h2
      by_cases h3 : d = d'
      · have e3 : (d != d') = false := by simpa using h3
        have H1 := Lib.hid h1
        have H2 := Lib.hid h2
        have H3 := Lib.hid h3
        clear h1 h2 h3
        go_enter Tryd.func24, Tryd.ntmps24
        go_wp2
        go_ret
        exact ⟨ret_mvEq (by rw [decide_eq_true_iff]; exact ⟨H1.out, H2.out, H3.out⟩), HB.out⟩
      · have e3 : (d != d') = true := by simpa using h3
        have H3 := Lib.hid h3
        clear h1 h2 h3
        go_enter Tryd.func24, Tryd.ntmps24
        go_wp2
        go_ret
        exact ⟨ret_mvEq (by rw [decide_eq_false_iff_not]; rintro ⟨_, _, h⟩; exact H3.out h), HB.out⟩
    · have e2 : (b != b') = true := by simpa using h2
      have H2 := Lib.hid h2
      clear h1 h2
      go_enter Tryd.func24, Tryd.ntmps24
      go_wp2
      go_ret
      exact ⟨ret_mvEq (by rw [decide_eq_false_iff_not]; rintro ⟨_, h, _⟩; exact H2.out h), HB.out⟩
  · have e1 : (a != a') = true := by simpa using h1
    have H1 := Lib.hid h1
    clear h1
    go_enter Tryd.func24, Tryd.ntmps24
    go_wp2
    go_ret
    exact ⟨ret_mvEq (by rw [decide_eq_false_iff_not]; rintro ⟨h, _, _⟩; exact H1.out h), HB.out⟩

theorem mvs_ext {M M' : List Mv} {n : Nat} (h : M.length = n) (h' : M'.length = n) (hs : ∀ j, j < n → M[j]?.getD (0, 0, 0) = M'[j]?.getD (0, 0, 0)) : M = M' := by
  apply List.ext_getElem (by omega)
  intro i h1 h2
  have := hs i (by omega)
  rwa [List.getElem?_eq_getElem h1, List.getElem?_eq_getElem h2] at this
theorem mv_eq {x y : Mv} (h : x.1 = y.1 ∧ x.2.1 = y.2.1 ∧ x.2.2 = y.2.2) : x = y := by
  obtain ⟨a, b, c⟩ := x
  obtain ⟨a', b', c'⟩ := y
  simp only at h
  rw [h.1, h.2.1, h.2.2]

set_option maxHeartbeats 1000000 in
theorem eqMoveS_calls (A A' : Option Addr) (n c n' c' : Nat) (M M' : List Mv) (w : World) (hL : M.length = n) (hL' : M'.length = n') (hn : n ≤ 1048576) (hn' : n' ≤ 1048576) (hI : Mvs w A M) (hI' : Mvs w A' M') :
    Calls Tryd.prog 9 #[.slice A n c, .slice A' n' c'] w fun e w' => e = .returned (.bool (decide (M = M'))) ∧ Below w.heap.size w w' := by
  have HL : Hid (M.length = n) := hL
  have HL' : Hid (M'.length = n') := hL'
  clear hL hL'
  by_cases hne : n = n'
  · subst hne
    go_enter Tryd.func9, Tryd.ntmps9
    go_wp2
    go_loopw [5] (fun i wr => ∃ k : Nat, k ≤ n ∧ i = .int .i64 k ∧ (∀ j, j < k → M[j]?.getD (0, 0, 0) = M'[j]?.getD (0, 0, 0)) ∧ Below w.heap.size w wr) (fun i _ => n - (intOf i).toNat)
    case atStart => exact ⟨0, Nat.zero_le _, rfl, fun j hj => absurd hj (by omega), Below.refl _ _⟩
    case round =>
      obtain ⟨k, hk, rfl, hsame, hb⟩ := hrel
      have HS := Lib.hid hsame
      clear hsame
      by_cases hlt : k < n
      · obtain ⟨g, rfl, hg, c0, c1, c2⟩ := (hI.below hb) k (by rw [HL.out]; exact hlt)
        obtain ⟨g', rfl, hg', d0, d1, d2⟩ := (hI'.below hb) k (by rw [HL'.out]; exact hlt)
        have HB := Lib.hid hb
        clear hb
        generalize hm : M[k]?.getD (0, 0, 0) = m at *
        generalize hm' : M'[k]?.getD (0, 0, 0) = m' at *
        have HM := Lib.hid hm
        have HM' := Lib.hid hm'
        clear hm hm'
        go_wp2_with fail
        go_still_tail 8, (by kernel_rfl)
        change wpList _ _ _ _ _ wr.drew
        go_wp2_with fail
        refine (eqMove_calls m.1 m.2.1 m.2.2 m'.1 m'.2.1 m'.2.2 _).mono ?_
        rintro e w1 ⟨rfl, hb1⟩
        have HB1 := Lib.hid (HB.out.drew.trans (hb1.mono HB.out.size))
        clear hb1
        go_wp2
        · have ht : (!mvEqB (m.1, m.2.1, m.2.2) (m'.1, m'.2.1, m'.2.2)) = true := by assumption
          go_ret
          refine ⟨ret_bool ?_, HB1.out⟩
          symm
          rw [decide_eq_false_iff_not]
          rintro rfl
          have := HM.out.symm.trans HM'.out
          subst this
          simp [mvEqB] at ht
        · have ht : (!mvEqB (m.1, m.2.1, m.2.2) (m'.1, m'.2.1, m'.2.2)) = false := by assumption
          have hmm := Lib.hid (mv_eq (x := m) (y := m') (by simpa [mvEqB] using ht))
          go_roundw
          case rel => exact ⟨k + 1, by omega, by go_num, fun j hj => by
            by_cases hjk : j = k
            · subst hjk; rw [HM.out, HM'.out]; exact hmm.out
            · exact HS.out j (by omega), HB1.out⟩
          case measure => simp [intOf]; omega
      · obtain rfl : k = n := by omega
        go_wp2
        go_ret
        exact ⟨ret_bool (by
          symm
          rw [decide_eq_true_iff]
          exact mvs_ext HL.out HL'.out HS.out), hb⟩
  · have hd : ((n : Int) != (n' : Int)) = true := by simp; omega
    go_enter Tryd.func9, Tryd.ntmps9
    go_wp2
    go_ret
    exact ⟨ret_bool (by symm; rw [decide_eq_false_iff_not]; rintro rfl; exact hne (HL.out.symm.trans HL'.out)), Below.refl _ _⟩

set_option maxHeartbeats 1000000 in
theorem markMoveS_calls (B : Nat) (A : Option Addr) (n c : Nat) (L : List Int) (k : Int) (w : World) (hO : OwnG 40 3 B w A n c (L.map (Value.int .i64))) (hn : n ≤ 1048576) (hk0 : 0 ≤ k) (hk1 : k ≤ 1000000000000) :
    Calls Tryd.prog 12 #[.slice A n c, .int .i64 k] w fun e w' => e = .returned (.int .i64 (k + ((n * 3 : Nat) : Int))) ∧ OwnG 40 3 B w' A n c ((iotaL k (n * 3)).map (Value.int .i64)) ∧ w.grownBy w' (Value.slice A n c).ownBlock := by
  have hlen : L.length = n * 3 := by have := hO.len; simpa using this
  have HL := Lib.hid hlen
  clear hlen
  rcases hO.form with ⟨rfl, rfl, rfl⟩ | ⟨g, rfl, hB, hg⟩
  · go_enter Tryd.func12, Tryd.ntmps12
    go_wp2
    refine wp_loop_rounds 1 ?_
    rw [rounds_succ]
    go_wp2
    go_ret
    have e : L = [] := List.eq_nil_of_length_eq_zero HL.out
    subst e
    exact ⟨ret_int (by omega), hO, grown_refl _ _⟩
  · have HO := Lib.hid hO
    clear hO
    go_enter Tryd.func12, Tryd.ntmps12
    go_wp2
    go_loopw [1, 5] (fun m i wr => ∃ j : Nat, j ≤ n ∧ i = .int .i64 j ∧ m = .int .i64 (k + ((j * 3 : Nat) : Int)) ∧ OwnG 40 3 B wr (some ⟨g, 0, none⟩) n c ((mixL k L (j * 3)).map (Value.int .i64)) ∧ w.grownBy wr (some g)) (fun _ i _ => n - (intOf i).toNat)
    case atStart => exact ⟨0, Nat.zero_le _, rfl, by simp, by rw [Nat.zero_mul, mixL_zero]; exact HO.out, grown_refl _ _⟩
    case round =>
      obtain ⟨j, hj, rfl, rfl, hown, hgr⟩ := hrel
      by_cases hlt : j < n
      · have hcell : ∀ i, i < n * 3 → ∃ u, wr.cell? ⟨g, i, none⟩ = some u := fun i hi => ⟨_, by rw [World.ownsRow.cellAt hown i hi, List.getElem?_eq_getElem (by simp [mixL_len _ _ _ (show j * 3 ≤ L.length by rw [HL.out]; omega), HL.out]; exact hi)]⟩
        obtain ⟨u0, h0⟩ := hcell (j * 3) (by omega)
        obtain ⟨u1, h1⟩ := hcell (j * 3 + 1) (by omega)
        obtain ⟨u2, h2⟩ := hcell (j * 3 + 2) (by omega)
        have f0 := World.ownsRow.frozenAt hown (j * 3)
        have f1 := World.ownsRow.frozenAt hown (j * 3 + 1)
        have f2 := World.ownsRow.frozenAt hown (j * 3 + 2)
        have HOW := Lib.hid hown
        clear hown hcell
        go_wp2
        go_roundw
        case rel =>
          obtain ⟨s1, t1⟩ := World.ownsRow.stored HOW.out (j * 3) (.int .i64 (k + ((j * 3 : Nat) : Int)))
          rw [mixL_step k L (by rw [HL.out]; omega)] at s1
          obtain ⟨s2, t2⟩ := World.ownsRow.stored s1 (j * 3 + 1) (.int .i64 (k + ((j * 3 + 1 : Nat) : Int)))
          rw [mixL_step k L (by rw [HL.out]; omega)] at s2
          obtain ⟨s3, t3⟩ := World.ownsRow.stored s2 (j * 3 + 1 + 1) (.int .i64 (k + ((j * 3 + 1 + 1 : Nat) : Int)))
          rw [mixL_step k L (by rw [HL.out]; omega)] at s3
          have e1 : k + ((j * 3 : Nat) : Int) = k + (j : Int) * 3 := by omega
          have e2 : k + ((j * 3 + 1 : Nat) : Int) = k + (j : Int) * 3 + 1 := by omega
          have e3 : k + ((j * 3 + 1 + 1 : Nat) : Int) = k + (j : Int) * 3 + 1 + 1 := by omega
          rw [e1, e2, e3] at s3 t3
          rw [e1, e2] at t2
          rw [e1] at t1
          exact ⟨j + 1, by omega, by go_num, by congr 1; omega, by rw [show (j + 1) * 3 = j * 3 + 1 + 1 + 1 by omega]; exact s3, grown_trans (grown_trans (grown_trans hgr t1) t2) t3⟩
        case measure => simp [intOf]; omega
      · obtain rfl : j = n := by omega
        go_wp2
        go_ret
        refine ⟨rfl, ?_, hgr⟩
        have := mixL_all k L
        rw [HL.out] at this
        rwa [this] at hown

set_option maxHeartbeats 1000000 in
theorem heldMoveS_calls (B : Nat) (A : Option Addr) (n c : Nat) (k : Int) (w : World) (hO : OwnG 40 3 B w A n c ((iotaL k (n * 3)).map (Value.int .i64))) (hn : n ≤ 1048576) (hk0 : 0 ≤ k) (hk1 : k ≤ 1000000000000) :
    Calls Tryd.prog 13 #[.slice A n c, .int .i64 k] w fun e w' => e = .returned (.int .i64 (k + ((n * 3 : Nat) : Int))) ∧ Below w.heap.size w w' := by
  have HO := Lib.hid hO
  clear hO
  go_enter Tryd.func13, Tryd.ntmps13
  go_wp2
  go_loopw [1, 5] (fun m i wr => ∃ j : Nat, j ≤ n ∧ i = .int .i64 j ∧ m = .int .i64 (k + ((j * 3 : Nat) : Int)) ∧ Below w.heap.size w wr) (fun _ i _ => n - (intOf i).toNat)
  case atStart => exact ⟨0, Nat.zero_le _, rfl, by simp, Below.refl _ _⟩
  case round =>
    obtain ⟨j, hj, rfl, rfl, hb⟩ := hrel
    by_cases hlt : j < n
    · have HOW := HO.out.below hb
      obtain ⟨g, rfl, _, hg, h0⟩ := HOW.cell (j * 3) (by omega)
      obtain ⟨g1, hg1, _, _, h1⟩ := HOW.cell (j * 3 + 1) (by omega)
      obtain ⟨g2, hg2, _, _, h2⟩ := HOW.cell (j * 3 + 2) (by omega)
      cases hg1
      cases hg2
      have hat : ∀ i, i < n * 3 → ((iotaL k (n * 3)).map (Value.int .i64))[i]? = some (.int .i64 (k + i)) := fun i hi => by simp [iotaL, hi]
      rw [hat _ (by omega)] at h0 h1 h2
      have e1 : k + ((j * 3 : Nat) : Int) = k + (j : Int) * 3 := by omega
      have e2 : k + ((j * 3 + 1 : Nat) : Int) = k + (j : Int) * 3 + 1 := by omega
      have e3 : k + ((j * 3 + 2 : Nat) : Int) = k + (j : Int) * 3 + 1 + 1 := by omega
      rw [e1] at h0
      rw [e2] at h1
      rw [e3] at h2
      rw [e1]
      have q1 : (k + (j : Int) * 3 != k + (j : Int) * 3) = false := by simp
      have q2 : (k + (j : Int) * 3 + 1 != k + (j : Int) * 3 + 1) = false := by simp
      have q3 : (k + (j : Int) * 3 + 1 + 1 != k + (j : Int) * 3 + 1 + 1) = false := by simp
      have HB := Lib.hid hb
      clear HOW hat hb e1 e2 e3
      go_wp2
      go_roundw
      case rel => exact ⟨j + 1, by omega, by go_num, by congr 1; omega, HB.out⟩
      case measure => simp [intOf]; omega
    · obtain rfl : j = n := by omega
      go_wp2
      go_ret
      exact ⟨rfl, hb⟩

/-- A list of moves and a code are the answer; the list lies in the call's own memory. -/
def RetMvs (w : World) (n : Nat) (M : List Mv) (E : Int) (e : Ending) (w' : World) : Prop :=
  ∃ A c, e = .returned (.tuple #[.slice A n c, .int .i64 E]) ∧ OwnM w.heap.size w' A n c M ∧ Below w.heap.size w w'
theorem retMvs_zero {w w' : World} {e : Ending} {E : Int} (he : e = .returned (.tuple #[.slice none 0 0, .int .i64 E])) (hb : Below w.heap.size w w') : RetMvs w ([] : List Mv).length [] E e w' :=
  ⟨none, 0, he, OwnG.nilS _ _ _ _, hb⟩

end Go.Proofs.YtpiglaolofddfaaDoor
