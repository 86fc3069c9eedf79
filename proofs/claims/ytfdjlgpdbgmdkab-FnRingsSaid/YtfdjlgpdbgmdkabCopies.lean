/- Contracts: copies of words of rings, one behind the other in one list. -/
import Derived.Test.YtfdjlgpdbgmdkabConcat
namespace Go.Proofs.Ytfdjlgpdbgmdkab
open Go.RowKit
set_option linter.unusedVariables false

theorem Try.infoRg : (Try.prog.info? 72).map (fun i => (i.zero, i.size, i.bytes)) = some (some (.slice none 0 0), 1, 24) := by kernel_rfl

/-- The copies' values: each lies in the list A from its start on. -/
def CopyV (A : Option Addr) (ws : List Wd) (vs : List Value) : Prop :=
  ∀ (j : Nat) (x : Wd), ws[j]? = some x → ∃ A', vs[j]? = some (.slice A' x.n x.n) ∧ (0 < x.n → ∃ R, A = some ⟨R, 0, none⟩ ∧ A' = some ⟨R, (catL (ws.take j)).length, none⟩)

theorem copyV_step {A A' : Option Addr} {ws : List Wd} {j : Nat} {ad : Addr} {n c : Nat} {L : List Int} {vs : List Value} (hw : ws[j]? = some ⟨ad, n, c, L⟩) (hV : CopyV A (ws.take j) vs) (hl : vs.length = j)
    (h : 0 < n → ∃ R, A = some ⟨R, 0, none⟩ ∧ A' = some ⟨R, (catL (ws.take j)).length, none⟩) : CopyV A (ws.take (j + 1)) (vs ++ [.slice A' n n]) := by
  intro i x hx
  have hj := (List.getElem?_eq_some_iff.1 hw).1
  by_cases hi : i < j
  · rw [List.getElem?_take, if_pos (by omega)] at hx
    obtain ⟨A2, h1, h2⟩ := hV i x (by rw [List.getElem?_take, if_pos hi]; exact hx)
    refine ⟨A2, by rw [List.getElem?_append_left (by omega)]; exact h1, ?_⟩
    rw [List.take_take] at h2 ⊢
    rw [Nat.min_eq_left (by omega)] at h2 ⊢
    exact h2
  · have hij : i = j := by
      have := (List.getElem?_eq_some_iff.1 hx).1
      simp at this
      omega
    subst hij
    rw [List.getElem?_take, if_pos (by omega), hw] at hx
    injection hx with hx
    subst hx
    refine ⟨A', by rw [List.getElem?_append_right (by omega), hl]; simp, ?_⟩
    rw [List.take_take, Nat.min_eq_left (by omega)]
    exact h
/-- A row of another element type is as it was behind the append. -/
theorem OwnG.grown_other {e e' size size' B B' : Nat} {w w1 : World} {o : Obj} {A A' : Option Addr} {n c n' c' : Nat} {xs xs' : List Value} (h : OwnG e size B w A n c xs) (h' : OwnG e' size' B' w A' n' c' xs') (hg : (w.alloc o).grownBy w1 (Value.slice A' n' c').ownBlock) (ht : e ≠ e') : OwnG e size B w1 A n c xs := by
  refine (h.alloc o).kept hg ?_
  rintro g rfl hr
  rcases h'.form with ⟨rfl, rfl, rfl⟩ | ⟨g', rfl, _, _⟩
  · simp [Value.ownBlock] at hr
  · simp only [Value.ownBlock, Option.some.injEq] at hr
    subst hr
    rcases h.2 with ⟨hv, _⟩ | ⟨g1, cap, cur, hv, _, hh, _⟩
    · simp at hv
    · injection hv with h1
      injection h1 with h1
      injection h1 with h1
      subst h1
      rcases h'.2 with ⟨hv2, _⟩ | ⟨g2, cap2, cur2, hv2, _, hh2, _⟩
      · simp at hv2
      · injection hv2 with h2
        injection h2 with h2
        injection h2 with h2
        subst h2
        rw [hh] at hh2
        injection hh2 with hh2
        injection hh2 with _ h3
        exact ht h3

set_option maxHeartbeats 2000000 in
theorem copiesOf_calls (g c0 : Nat) (ws : List Wd) (q : Nat) (w : World) (hq : ws.length = q) (hq4 : q ≤ 4) (hx : WdsAt w g ws) :
    Calls Try.prog 55 #[.slice (some ⟨g, 0, none⟩) q c0] w fun e w' => ∃ C cc A c vs, e = .returned (.slice C q cc) ∧ OwnG 72 1 w.heap.size w' C q cc vs ∧ CopyV A ws vs ∧ OwnG 2 1 w.heap.size w' A (catL ws).length c ((catL ws).map (Value.int .i64)) ∧ Below w.heap.size w w' := by
  obtain ⟨i0, hi, hz0, hz1, hz2⟩ := info_parts Try.infoRg
  have HQ := Lib.hid hq
  have HX := Lib.hid hx
  have hlen := catL_len hx.2
  rw [hq] at hlen
  have hg := hx.1.lt
  clear hq hx
  go_enter Try.func55, Try.ntmps55
  go_wp2_with fail
  refine (concat_calls g c0 ws q _ HQ.out hq4 HX.out).mono ?_
  rintro e w1 ⟨A, c, rfl, hO, hb⟩
  have HO := Lib.hid hO
  have HB := Lib.hid hb
  have HXr := Lib.hid (HX.out.below hb)
  have hcap := hO.cap
  have hform := hO.form
  have hsz1 := hb.size
  have hcx := hcap.2
  unfold maxLen at hcx
  have HT : Hid (∀ j, (catL (ws.take j)).length ≤ (catL ws).length) := by
    intro j
    have e : catL ws = catL (ws.take j) ++ catL (ws.drop j) := by
      unfold catL
      rw [← List.flatten_append, ← List.map_append, List.take_append_drop]
    rw [e, List.length_append]
    omega
  have HF := Lib.hid hform
  clear hO hb hform HXr
  obtain ⟨T, hT⟩ : ∃ T, (catL ws).length = T := ⟨_, rfl⟩
  have HTT := Lib.hid hT
  rw [hT] at hcap hlen HO HT HF
  rw [hT]
  clear hT
  go_wp2
  go_loopw [4, 5, 7, 8, 13] (fun v s _ _ i wr => ∃ j k : Nat, j ≤ q ∧ i = .int .i64 j ∧ s = .int .i64 k ∧ Hid (k = (catL (ws.take j)).length) ∧ (∃ C cc vs, v = .slice C j cc ∧ OwnG 72 1 w.heap.size wr C j cc vs ∧ CopyV A (ws.take j) vs) ∧ OwnG 2 1 w.heap.size wr A T c ((catL ws).map (Value.int .i64)) ∧ Below w.heap.size w wr) (fun _ _ _ _ i _ => q - (intOf i).toNat)
  case atStart => exact ⟨0, 0, Nat.zero_le _, rfl, rfl, by unfold Hid catL; simp, ⟨_, _, [], rfl, OwnG.nilS _ _ _ _, fun j x hx => by simp at hx⟩, HO.out, HB.out⟩
  case round =>
    obtain ⟨j, k, hj, rfl, rfl, hk, ⟨C, cc, vs, rfl, hC, hV⟩, hO, hb⟩ := hrel
    have HC := Lib.hid hC
    have HV := Lib.hid hV
    have HO2 := Lib.hid hO
    have HB2 := Lib.hid hb
    have hsz := hb.size
    clear hC hV hO hb
    by_cases hlt : j < q
    · obtain ⟨ad, n, c2, L, hw, hL, hn, hI, hc⟩ := (HX.out.below HB2.out).get (j := j) (by rw [HQ.out]; exact hlt)
      have hS := Lib.hid (catL_succ hw)
      have hHL := Lib.hid hL
      have HW := Lib.hid hw
      have hk1 : k + n ≤ T := by
        have := HT.out (j + 1)
        rw [hS.out, List.length_append, ← hk.out, hL] at this
        exact this
      clear hI hL hw
      rcases HF.out with ⟨rfl, hT0, rfl⟩ | ⟨R, rfl, _, hR⟩
      · obtain rfl : n = 0 := by omega
        have hk0 : k ≤ 0 := by omega
        clear hT0
        go_wp2_with (at_builtin; refine wpList_append_own _ rfl _ _ 73 rfl w.heap.size 72 i0 (.slice none 0 0) 1 24 Try.underlying73 hi hz0 hz1 hz2 rfl (by decide) _ _ _ rfl (HC.out.alloc _) ⟨wr.heap.size, 0, none⟩ 1 1 [.slice none 0 0] rfl rfl (cell_one_new _ _ _) (by simp [Value.oneCell']) (by unfold maxLen; omega) (by omega) (by simp; omega) ?_; intro v' w4 hown' hgrow _; obtain ⟨A4, c4, rfl⟩ := ownG_shape hown'; have HC4 := Lib.hid hown'; have HO4 := Lib.hid (HO2.out.grown_other HC.out hgrow (by decide)); have HB4 := Lib.hid (HB2.out.trans (OwnG.grown_below HC.out hgrow (Nat.le_refl _) hsz)); clear hown' hgrow)
        go_roundw
        case rel => exact ⟨j + 1, k + 0, by omega, by go_num, by go_num, by unfold Hid; rw [hS.out, List.length_append, ← hk.out, hHL.out], ⟨A4, c4, _, rfl, HC4.out, copyV_step HW.out HV.out (by have := HC.out.len; omega) (fun h => absurd h (by simp))⟩, HO4.out, HB4.out⟩
        case measure => simp [intOf]; omega
      · by_cases hn0 : n = 0
        · subst hn0
          go_wp2_with (at_builtin; refine wpList_append_own _ rfl _ _ 73 rfl w.heap.size 72 i0 (.slice none 0 0) 1 24 Try.underlying73 hi hz0 hz1 hz2 rfl (by decide) _ _ _ rfl (HC.out.alloc _) ⟨wr.heap.size, 0, none⟩ 1 1 [.slice (some ⟨R, 0, none⟩) 0 0] rfl rfl (cell_one_new _ _ _) (by simp [Value.oneCell']) (by unfold maxLen; omega) (by omega) (by simp; omega) ?_; intro v' w4 hown' hgrow _; obtain ⟨A4, c4, rfl⟩ := ownG_shape hown'; have HC4 := Lib.hid hown'; have HO4 := Lib.hid (HO2.out.grown_other HC.out hgrow (by decide)); have HB4 := Lib.hid (HB2.out.trans (OwnG.grown_below HC.out hgrow (Nat.le_refl _) hsz)); clear hown' hgrow)
          go_roundw
          case rel => exact ⟨j + 1, k + 0, by omega, by go_num, by go_num, by unfold Hid; rw [hS.out, List.length_append, ← hk.out, hHL.out], ⟨A4, c4, _, rfl, HC4.out, copyV_step HW.out HV.out (by have := HC.out.len; omega) (fun h => absurd h (by simp))⟩, HO4.out, HB4.out⟩
          case measure => simp [intOf]; omega
        · have hn1 : 0 < n := by omega
          have hkc : ¬ (c : Int) = (k : Int) := by omega
          clear hn0
          go_wp2_with (at_builtin; refine wpList_append_own _ rfl _ _ 73 rfl w.heap.size 72 i0 (.slice none 0 0) 1 24 Try.underlying73 hi hz0 hz1 hz2 rfl (by decide) _ _ _ rfl (HC.out.alloc _) ⟨wr.heap.size, 0, none⟩ 1 1 [.slice (some ⟨R, k, none⟩) n n] rfl rfl (cell_one_new _ _ _) (by simp [Value.oneCell']) (by unfold maxLen; omega) (by omega) (by simp; omega) ?_; intro v' w4 hown' hgrow _; obtain ⟨A4, c4, rfl⟩ := ownG_shape hown'; have HC4 := Lib.hid hown'; have HO4 := Lib.hid (HO2.out.grown_other HC.out hgrow (by decide)); have HB4 := Lib.hid (HB2.out.trans (OwnG.grown_below HC.out hgrow (Nat.le_refl _) hsz)); clear hown' hgrow)
          go_roundw
          case rel => exact ⟨j + 1, k + n, by omega, by go_num, by go_num, by unfold Hid; rw [hS.out, List.length_append, ← hk.out, hHL.out], ⟨A4, c4, _, rfl, HC4.out, copyV_step HW.out HV.out (by have := HC.out.len; omega) (fun _ => ⟨R, rfl, by rw [hk.out]⟩)⟩, HO4.out, HB4.out⟩
          case measure => simp [intOf]; omega
    · obtain rfl : j = q := by omega
      have ht : Hid (ws.take j = ws) := by unfold Hid; rw [List.take_of_length_le (by rw [HQ.out]; exact Nat.le_refl _)]
      go_wp2
      go_ret
      refine ⟨C, cc, A, c, vs, rfl, HC.out, ?_, by rw [HTT.out]; exact HO2.out, HB2.out⟩
      have := HV.out
      rw [ht.out] at this
      exact this

end Go.Proofs.Ytfdjlgpdbgmdkab
