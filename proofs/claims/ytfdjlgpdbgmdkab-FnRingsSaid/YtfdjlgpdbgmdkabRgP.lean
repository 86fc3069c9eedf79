/- Words of rings: what the functions' answers have to do with each other (pure facts). -/
import Derived.Test.YtfdjlgpdbgmdkabOpp
import Derived.Test.YtfdjlgpdbgmdkabRtcS
import Derived.Test.YtfdjlgpdbgmdkabChange
import Derived.Test.YtfdjlgpdbgmdkabRgOf
import Derived.Test.YtfdjlgpdbgmdkabRgText
import Derived.Test.YtfdjlgpdbgmdkabRgParse
namespace Go.Proofs.Ytfdjlgpdbgmdkab
open Go.RowKit
set_option linter.unusedVariables false

theorem rg_of {L : List Int} (h : ∀ x ∈ L, 0 ≤ x ∧ x ≤ 1) (hl : L.length ≤ 16) : rgB L = true := by
  unfold rgB
  rw [Bool.and_eq_true, List.all_eq_true]
  exact ⟨fun x hx => by have := h x hx; unfold inB; simp; omega, by simpa using hl⟩
theorem rgp_rank {L : List Int} (h : rgB L = true) : roL (L.length : Int) (rkL L) = L ∧ roE (L.length : Int) (rkL L) = 0 := by
  have hb := rk_bd L (rg_mem h)
  have hl := rgB_len h
  obtain ⟨r, hr⟩ := Int.eq_ofNat_of_zero_le hb.2.1
  have hlt : r < 2 ^ L.length := by
    have h1 := hb.2.2
    rw [hr] at h1
    have h2 : ((2 ^ L.length : Nat) : Int) = (2 : Int) ^ L.length := by simp
    omega
  have hw := rw_rk (rg_mem h)
  rw [hr] at hw ⊢
  rw [Int.toNat_natCast] at hw
  obtain ⟨e1, e2⟩ := ro_yes hl hlt
  rw [e1, e2, hw]
  exact ⟨rfl, rfl⟩
theorem opp_opp : ∀ L : List Int, oppL (oppL L) = L
  | [] => rfl
  | [x] => by simp [oppL]; omega
  | x :: y :: t => by
    rw [oppL]
    have h := opp_opp (y :: t)
    cases hq : oppL (y :: t) with
    | nil =>
      have := oppL_len (y :: t)
      rw [hq] at this
      simp at this
    | cons a b => rw [hq] at h; rw [oppL, h]
theorem rgp_opp {L : List Int} (h : rgB L = true) : rgB (oppL L) = true ∧ opV (oppL L) = L := by
  have h1 : rgB (oppL L) = true := rg_of (oppL_bits L (rg_mem h)) (by rw [oppL_len]; exact rgB_len h)
  exact ⟨h1, by rw [(op_yes h1).1, opp_opp]⟩
theorem turn_cons (x : Int) (t : List Int) (i : Nat) : turnL (x :: t) (i + 1) = x :: turnL t i := by simp [turnL]
theorem turn_bits {L : List Int} (h : ∀ x ∈ L, 0 ≤ x ∧ x ≤ 1) (i : Nat) (hi : i < L.length) : ∀ x ∈ turnL L i, 0 ≤ x ∧ x ≤ 1 := by
  intro x hx
  unfold turnL at hx
  rcases List.mem_or_eq_of_mem_set hx with h1 | h1
  · exact h x h1
  · rw [List.getElem?_eq_getElem hi] at h1
    have := h L[i] (List.getElem_mem hi)
    simp at h1
    omega
theorem turn_rank : ∀ L : List Int, (∀ x ∈ L, 0 ≤ x ∧ x ≤ 1) → ixN 1 L + 1 < L.length → (rbL L = 1 ∧ rbL (turnL L (ixN 1 L + 1)) = 0 ∧ rkL (turnL L (ixN 1 L + 1)) = rkL L + 1) ∨ (rbL L = 0 ∧ rbL (turnL L (ixN 1 L + 1)) = 1 ∧ rkL (turnL L (ixN 1 L + 1)) = rkL L - 1)
  | [], _, h => absurd h (by simp)
  | x :: t, hb, h => by
    have hx := hb x (by simp)
    have ht : ∀ y ∈ t, 0 ≤ y ∧ y ≤ 1 := fun y hy => hb y (by simp [hy])
    by_cases h1 : x = 1
    · subst h1
      have e : ixN 1 (1 :: t) = 0 := by simp [ixN]
      rw [e] at h ⊢
      cases t with
      | nil => simp at h
      | cons y u =>
        have hy := ht y (by simp)
        have hu := (rk_bd u (fun z hz => ht z (by simp [hz]))).1
        have e2 : turnL (1 :: y :: u) (0 + 1) = 1 :: (1 - y) :: u := by simp [turnL]
        rw [e2, rb_cons, rb_cons, rb_cons, rb_cons, rk_cons, rk_cons, rk_cons, rk_cons, rb_cons, rb_cons]
        omega
    · have e : ixN 1 (x :: t) = ixN 1 t + 1 := by simp [ixN, h1]
      have h0 : x = 0 := by omega
      subst h0
      rw [e] at h ⊢
      have hh := turn_rank t ht (by simpa using h)
      rw [turn_cons, rb_cons, rb_cons, rk_cons, rk_cons]
      omega
theorem turn_zero {x : Int} {t : List Int} (hx : 0 ≤ x ∧ x ≤ 1) (ht : ∀ y ∈ t, 0 ≤ y ∧ y ≤ 1) : rkL (turnL (x :: t) 0) = rkL (x :: t) + 1 ∨ rkL (turnL (x :: t) 0) = rkL (x :: t) - 1 := by
  have hu := (rk_bd t ht).1
  have e : turnL (x :: t) 0 = (1 - x) :: t := by simp [turnL]
  rw [e, rk_cons, rk_cons]
  omega
theorem rgp_change {L : List Int} (h : rgB L = true) {i : Int} (hi : i ∈ rtcL L) : ∃ M, chV L i = M ∧ chE L i = 0 ∧ M.length = L.length ∧ rgB M = true ∧ (rkL M = rkL L + 1 ∨ rkL M = rkL L - 1) := by
  have hb := rg_mem h
  have hl := rgB_len h
  unfold rtcL at hi
  rw [List.mem_append] at hi
  rcases hi with hi | hi
  · split at hi
    · next h0 =>
      rw [List.mem_singleton] at hi
      subst hi
      have hc : canB L 0 = true := by simp [canB]
      obtain ⟨e1, e2⟩ := ch_yes h h0 hc
      refine ⟨turnL L 0, e1, e2, turnL_len L 0, rg_of (turn_bits hb 0 h0) (by rw [turnL_len]; exact hl), ?_⟩
      cases L with
      | nil => simp at h0
      | cons x t => exact turn_zero (hb x (by simp)) (fun y hy => hb y (by simp [hy]))
    · simp at hi
  · split at hi
    · next h0 =>
      rw [List.mem_singleton] at hi
      subst hi
      have hc : canB L (ixN 1 L + 1) = true := by simp [canB]
      obtain ⟨e1, e2⟩ := ch_yes h h0 hc
      refine ⟨turnL L (ixN 1 L + 1), e1, e2, turnL_len L _, rg_of (turn_bits hb _ h0) (by rw [turnL_len]; exact hl), ?_⟩
      rcases turn_rank L hb h0 with ⟨_, _, h3⟩ | ⟨_, _, h3⟩
      · exact .inl h3
      · exact .inr h3
    · simp at hi
theorem dg_back {x : Int} (h : 0 ≤ x ∧ x ≤ 1) : ((dg x).toNat : Int) - 48 = x := by
  rcases (by omega : x = 0 ∨ x = 1) with rfl | rfl <;> decide
theorem rgp_text {L : List Int} (h : rgB L = true) : (rtV L).size ≤ 16 ∧ prL (rtV L) = L ∧ prE (rtV L) = 0 := by
  have hl := rgB_len h
  have e := (rt_yes h).1
  have hs : (rtV L).size = L.length := by rw [e]; show (rtB L L.length).toArray.size = _; simp [rtB_len]
  have hp : prsL (rtV L) (rtV L).size = L := by
    apply List.ext_getElem?
    intro j
    unfold prsL
    rw [List.getElem?_map]
    by_cases hj : j < L.length
    · rw [List.getElem?_range (by rw [hs]; exact hj), List.getElem?_eq_getElem hj]
      show some (dgt (rtV L) ((rtV L).size - 1 - j)) = _
      rw [hs]
      unfold dgt
      rw [e]
      show some (((((rtB L L.length).toArray.toList.getD (L.length - 1 - j) 0)).toNat : Int) - 48) = _
      have h2 : (rtB L L.length).toArray.toList.getD (L.length - 1 - j) 0 = dg (L.getD (L.length - 1 - (L.length - 1 - j)) 0) := by
        simp only [rtB, List.getD_eq_getElem?_getD, List.getElem?_map]
        rw [List.getElem?_range (by omega)]
        rfl
      rw [h2, show L.length - 1 - (L.length - 1 - j) = j by omega, List.getD_eq_getElem?_getD, List.getElem?_eq_getElem hj]
      show some (((dg L[j]).toNat : Int) - 48) = some L[j]
      rw [dg_back (rg_mem h _ (List.getElem_mem hj))]
    · rw [List.getElem?_eq_none (by simp [hs]; omega), List.getElem?_eq_none (by omega)]
      rfl
  have ho : okR (rtV L) = true := by unfold okR; rw [hp, hs]; simp [hl, h]
  obtain ⟨p1, p2⟩ := pr_yes ho
  exact ⟨by omega, by rw [p1, hp], p2⟩

end Go.Proofs.Ytfdjlgpdbgmdkab
