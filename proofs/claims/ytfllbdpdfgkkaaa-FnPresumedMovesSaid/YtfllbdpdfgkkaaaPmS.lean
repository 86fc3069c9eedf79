/- Contracts: the presumed lists by the specification's model. -/
import Derived.Test.YtfllbdpdfgkkaaaPm
import Derived.Test.YtfllbdpdfgkkaaaPnS
import Derived.Maps.AppendAt
namespace Go.Proofs.Ytfllbdpdfgkkaaa
open Go.RowKit
set_option linter.unusedVariables false

theorem own_X {B n c : Nat} {w : World} {A : Option Addr} {M : List Mv} (h : OwnM B w A n c M) : ∀ k, (Value.slice A n c).ownBlock = some k → XA A k := by
  intro k hk
  rcases OwnG.form h with ⟨rfl, rfl, rfl⟩ | ⟨g, rfl, _, _⟩
  · simp [Value.ownBlock] at hk
  · simp only [Value.ownBlock, Option.some.injEq] at hk
    subst hk
    rfl
theorem pegs_own {B s n c n2 c2 : Nat} {w w' : World} {A Ar : Option Addr} {M : List Mv} {D : List Int} (hr : Own s w' Ar n2 c2 D) (hO : OwnM B w A n c M) (hs : w.heap.size ≤ s) : PegsIn w' Ar D (XA A) := by
  refine ⟨hr.ints, fun ad hA => ?_⟩
  rcases hr.form with ⟨h1, _⟩ | ⟨g, h1, h2, h3⟩
  · rw [h1] at hA; cases hA
  · rw [h1] at hA
    cases hA
    refine ⟨h3, fun hx => ?_⟩
    rcases OwnG.form hO with ⟨h4, _⟩ | ⟨g', h4, _, h5⟩
    · unfold XA at hx; rw [h4] at hx; cases hx
    · unfold XA at hx
      rw [h4] at hx
      cases hx
      have : g < w.heap.size := h5
      have : s ≤ g := h2
      omega
theorem l08Splits_pm (p : Int) (q n : Nat) (w : World) (hp : p = (q : Int) + 4) (hq : q < 7) (h2 : 2 ≤ n) (hn : n ≤ 60) :
    Calls Try.prog 34 #[.int .i64 p, .int .i64 n] w fun e w' => ∃ A c, e = .returned (.slice A (spF q n).length c) ∧ OwnG 2 1 w.heap.size w' A (spF q n).length c ((spF q n).map (Value.int .i64)) ∧ Below w.heap.size w w' := by
  subst hp
  exact l08Splits_calls q n w hq h2 hn
theorem app_new {B n c n4 c4 s s0 : Nat} {w : World} {A A4 : Option Addr} {M : List Mv} (h : OwnM B w A n c M) (he : (Value.slice A4 n4 c4).ownBlock = (Value.slice A n c).ownBlock ∨ (Value.slice A4 n4 c4).ownBlock = some s) (hs : s0 ≤ s) : ∀ k, XA A4 k → XA A k ∨ s0 ≤ k := by
  intro k hk
  unfold XA at hk
  subst hk
  simp only [Value.ownBlock] at he
  rcases he with he | he
  · exact .inl (own_X h k he.symm)
  · injection he with he
    exact .inr (by omega)

theorem pm_three {f a m1 : Nat} {u v x : Int} {L D : List Int} (hm : 1 ≤ m1) (hf : m1 + 1 ≤ f + 1) (h3 : L.length = 3) (hmd : mdT L u v L.length = (x, D)) : pmL (f + 1) a (m1 + 1) u v L = pmL f a m1 u x L ++ [((a : Int) + m1, u, v)] ++ pmL f a m1 x v L := by
  obtain ⟨f, rfl⟩ : ∃ g, f = g + 1 := ⟨f - 1, by omega⟩
  have hk : kPm L.length (m1 + 1) = m1 := by unfold kPm; rw [if_pos h3]; omega
  rw [pmL_more (by omega), hmd, hk, show m1 + 1 - m1 = 1 by omega, pmL_one]
  simp
theorem pm_more {f a m1 q : Nat} {u v x : Int} {L D : List Int} (hm : 1 ≤ m1) (h3 : L.length = q + 4) (hmd : mdT L u v L.length = (x, D)) : pmL (f + 1) a (m1 + 1) u v L = pmL f a (hdF q (m1 + 1)) u x L ++ pmL f (a + hdF q (m1 + 1)) (m1 + 1 - hdF q (m1 + 1)) u v D ++ pmL f a (hdF q (m1 + 1)) x v L := by
  have hk : kPm L.length (m1 + 1) = hdF q (m1 + 1) := by unfold kPm; rw [if_neg (by omega), h3, show q + 4 - 4 = q by omega]
  rw [pmL_more (by omega), hmd, hk]

set_option maxRecDepth 100000 in
set_option maxHeartbeats 2000000 in
theorem l08Moves_calls (B : Nat) : ∀ f m, m ≤ f → m ≤ 8 → ∀ (a : Nat) (u v : Int) (L : List Int) (Pg : Option Addr) (pn pc : Nat), L.length = pn → okP L → a + m ≤ 50 → (pn ≤ 5 ∧ (2 ≤ m → 3 ≤ pn)) → ∀ (w : World) (A : Option Addr) (n c : Nat) (M : List Mv), OwnM B w A n c M → B ≤ w.heap.size → n + (pmL f a m u v L).length ≤ 20000 → PegsIn w Pg L (XA A) →
    Calls Try.prog 21 #[.slice A n c, .int .i64 a, .int .i64 m, .int .i64 u, .int .i64 v, .slice Pg pn pc] w fun e w' => ∃ A' c', e = .returned (.slice A' (n + (pmL f a m u v L).length) c') ∧ OwnM B w' A' (n + (pmL f a m u v L).length) c' (M ++ pmL f a m u v L) ∧ Kp (XA A) w w' ∧ (∀ k, XA A' k → XA A k ∨ w.heap.size ≤ k) := by
  intro f
  induction f with
  | zero =>
    intro m hm _ a u v L Pg pn pc _ _ _ _ w A n c M hO _ _ _
    obtain rfl : m = 0 := by omega
    have HO := Lib.hid hO
    clear hO
    go_enter Try.func21, Try.ntmps21
    go_wp2
    go_ret
    exact ⟨A, c, by simp [pmL], by simpa [pmL] using HO.out, Kp.refl _ _, fun k h => .inl h⟩
  | succ f ih =>
    intro m hmf hm8 a u v L Pg pn pc hPL hok ham hp5 w A n c M hO hB hlen hPG
    obtain ⟨i0, hi, hz0, hz1, hz2⟩ := info_parts Try.infoM
    obtain ⟨j0, hj0, hy0, hy1, hy2⟩ := info_parts Try.infoI
    have HIH := Lib.hid ih
    have HO := Lib.hid hO
    have HPG := Lib.hid hPG
    have HPL := Lib.hid hPL
    have HOK := Lib.hid hok
    have HLN := Lib.hid hlen
    clear ih hO hPG hPL hok hlen
    by_cases hm0 : m = 0
    · subst hm0
      have HV := Lib.hid (pmL_zero f a u v L)
      go_enter Try.func21, Try.ntmps21
      go_wp2
      go_ret
      exact ⟨A, c, by rw [HV.out]; rfl, by rw [HV.out, List.append_nil]; exact HO.out, Kp.refl _ _, fun k h => .inl h⟩
    · by_cases hm1 : m = 1
      · subst hm1
        have HV := Lib.hid (pmL_one f a u v L)
        have hn1 : n + 1 ≤ 20000 := by have := HLN.out; rw [HV.out] at this; simpa using this
        go_enter Try.func21, Try.ntmps21
        go_wp2_with (at_builtin; refine wpList_append_own_at _ rfl _ _ 26 rfl B 53 i0 (.agg #[.int .i64 0, .int .i64 0, .int .i64 0]) 3 24 Try.underlying26 hi hz0 hz1 hz2 rfl (by decide) _ _ _ rfl ((HO.out).alloc _) ⟨w.heap.size, 0, none⟩ 1 1 [.int .i64 a, .int .i64 u, .int .i64 v] rfl rfl (World.news_of_block (cs := #[.int .i64 a, .int .i64 u, .int .i64 v]) (t := 53) (fr := (0, 0)) (heap_alloc_new w _)) (by simp [Value.oneCell']) (by unfold maxLen; omega) (by omega) (by simp; omega) ?_; intro v' w4 hown' hgrow _ hnew; obtain ⟨A4, c4, rfl⟩ := ownG_shape hown'; have O4 := Lib.hid (show OwnM B w4 A4 (n + 1) c4 (M ++ [((a : Int), u, v)]) from by unfold OwnM; rw [mvCells_snoc]; exact hown'); have hk := Lib.hid (Kp.grown (X := XA A) hgrow (own_X HO.out)); have hn := Lib.hid (app_new HO.out hnew (show w.heap.size ≤ _ by simp)); clear hown' hgrow hnew)
        go_ret
        exact ⟨A4, c4, by rw [HV.out]; rfl, by rw [HV.out]; exact O4.out, hk.out, hn.out⟩
      · have hm2 : 2 ≤ m := by omega
        obtain ⟨m1, rfl⟩ : ∃ m1, m = m1 + 1 := ⟨m - 1, by omega⟩
        have hmb0 : (((m1 : Int) + 1) == 0) = false := by rw [beq_eq_false_iff_ne]; omega
        have hmb1 : (((m1 : Int) + 1) == 1) = false := by rw [beq_eq_false_iff_ne]; omega
        rw [show (((m1 + 1 : Nat)) : Int) = (m1 : Int) + 1 by omega]
        go_enter Try.func21, Try.ntmps21
        go_wp2
        go_loopw [13, 14, 15] (fun md o i wr => ∃ j : Nat, j ≤ pn ∧ i = .int .i64 j ∧ md = .int .i64 (mdT L u v j).1 ∧ ∃ Ar cr, o = .slice Ar (mdT L u v j).2.length cr ∧ Own w.heap.size wr Ar (mdT L u v j).2.length cr (mdT L u v j).2 ∧ (mdT L u v j).2.length ≤ j ∧ Below w.heap.size w wr) (fun _ _ i _ => pn - (intOf i).toNat)
        case atStart => exact ⟨0, by omega, rfl, rfl, _, _, rfl, Own.emptyAt (Box.new w 2 #[]) (Nat.le_refl _), by simp [mdT], (Below.refl _ _).alloc (Nat.le_refl _) _⟩
        case round =>
          obtain ⟨j, hj, rfl, rfl, Ar, cr, rfl, hOr, hrl, hb⟩ := hrel
          have HR := Lib.hid hOr
          have HB := Lib.hid hb
          have hsz := hb.size
          clear hOr hb
          by_cases hlt : j < pn
          · obtain ⟨ad, hadP, had, hc⟩ := HPG.out.1.below HB.out j (by rw [HPL.out]; exact hlt)
            subst hadP
            rw [List.getD_eq_getElem?_getD] at hc
            have HST := Lib.hid (show mdT L u v (j + 1) = if (mdT L u v j).1 < 0 ∧ L[j]?.getD 0 ≠ u ∧ L[j]?.getD 0 ≠ v then (L[j]?.getD 0, (mdT L u v j).2) else ((mdT L u v j).1, (mdT L u v j).2 ++ [L[j]?.getD 0]) from rfl)
            obtain ⟨x, ex⟩ : ∃ x, L[j]?.getD 0 = x := ⟨_, rfl⟩
            obtain ⟨mm, em⟩ : ∃ mm, (mdT L u v j).1 = mm := ⟨_, rfl⟩
            obtain ⟨D, eD⟩ : ∃ D, (mdT L u v j).2 = D := ⟨_, rfl⟩
            rw [ex] at hc HST
            rw [em, eD] at HST
            rw [eD] at HR hrl
            rw [em, eD]
            clear ex em eD
            have hjp : (j : Int) < (pn : Int) := by omega
            by_cases h1 : mm < 0
            · by_cases h2 : x = u
              · have HX2 := Lib.hid h2
                have hxu : (x != u) = false := by simpa using h2
                clear h2
                have HS2 := Lib.hid (show mdT L u v (j + 1) = (mm, D ++ [x]) by rw [HST.out, if_neg (fun h => h.2.1 HX2.out)])
                go_wp2_with (at_builtin; refine wpList_append_own _ rfl _ _ 31 rfl w.heap.size 2 j0 (.int .i64 0) 1 8 Try.underlying31 hj0 hy0 hy1 hy2 rfl (by decide) _ _ _ rfl (HR.out.alloc _) ⟨wr.heap.size, 0, none⟩ 1 1 [.int .i64 x] rfl rfl (cell_one_new _ _ _) (by simp [Value.oneCell']) (by unfold maxLen; omega) (by omega) (by simp; omega) ?_; intro v' w4 hown' hgrow _; obtain ⟨A4, c4, rfl⟩ := ownG_shape hown'; have HP := Lib.hid (Own.pushed HR.out hgrow hown'); clear hown' hgrow)
                go_roundw
                case rel => exact ⟨j + 1, by omega, by go_num, by rw [HS2.out], A4, c4, by rw [HS2.out]; simp, by rw [HS2.out, List.length_append]; exact HP.out.1, by rw [HS2.out]; simp; omega, HB.out.trans (HP.out.2.2.2 _ (Nat.le_refl _) hsz)⟩
                case measure => simp [intOf]; omega
              · have hxu : (x != u) = true := by simpa using h2
                by_cases h3 : x = v
                · have HX3 := Lib.hid h3
                  have hxv : (x != v) = false := by simpa using h3
                  clear h2 h3
                  have HS2 := Lib.hid (show mdT L u v (j + 1) = (mm, D ++ [x]) by rw [HST.out, if_neg (fun h => h.2.2 HX3.out)])
                  go_wp2_with (at_builtin; refine wpList_append_own _ rfl _ _ 31 rfl w.heap.size 2 j0 (.int .i64 0) 1 8 Try.underlying31 hj0 hy0 hy1 hy2 rfl (by decide) _ _ _ rfl (HR.out.alloc _) ⟨wr.heap.size, 0, none⟩ 1 1 [.int .i64 x] rfl rfl (cell_one_new _ _ _) (by simp [Value.oneCell']) (by unfold maxLen; omega) (by omega) (by simp; omega) ?_; intro v' w4 hown' hgrow _; obtain ⟨A4, c4, rfl⟩ := ownG_shape hown'; have HP := Lib.hid (Own.pushed HR.out hgrow hown'); clear hown' hgrow)
                  go_roundw
                  case rel => exact ⟨j + 1, by omega, by go_num, by rw [HS2.out], A4, c4, by rw [HS2.out]; simp, by rw [HS2.out, List.length_append]; exact HP.out.1, by rw [HS2.out]; simp; omega, HB.out.trans (HP.out.2.2.2 _ (Nat.le_refl _) hsz)⟩
                  case measure => simp [intOf]; omega
                · have hxv : (x != v) = true := by simpa using h3
                  have HS2 := Lib.hid (show mdT L u v (j + 1) = (x, D) by rw [HST.out, if_pos ⟨h1, h2, h3⟩])
                  clear h2 h3
                  go_wp2
                  go_roundw
                  case rel => exact ⟨j + 1, by omega, by go_num, by rw [HS2.out], Ar, cr, by rw [HS2.out], by rw [HS2.out]; exact HR.out, by rw [HS2.out]; simp; omega, HB.out⟩
                  case measure => simp [intOf]; omega
            · have HX1 := Lib.hid h1
              have HS2 := Lib.hid (show mdT L u v (j + 1) = (mm, D ++ [x]) by rw [HST.out, if_neg (fun h => HX1.out h.1)])
              go_wp2_with (at_builtin; refine wpList_append_own _ rfl _ _ 31 rfl w.heap.size 2 j0 (.int .i64 0) 1 8 Try.underlying31 hj0 hy0 hy1 hy2 rfl (by decide) _ _ _ rfl (HR.out.alloc _) ⟨wr.heap.size, 0, none⟩ 1 1 [.int .i64 x] rfl rfl (cell_one_new _ _ _) (by simp [Value.oneCell']) (by unfold maxLen; omega) (by omega) (by simp; omega) ?_; intro v' w4 hown' hgrow _; obtain ⟨A4, c4, rfl⟩ := ownG_shape hown'; have HP := Lib.hid (Own.pushed HR.out hgrow hown'); clear hown' hgrow)
              go_roundw
              case rel => exact ⟨j + 1, by omega, by go_num, by rw [HS2.out], A4, c4, by rw [HS2.out]; simp, by rw [HS2.out, List.length_append]; exact HP.out.1, by rw [HS2.out]; simp; omega, HB.out.trans (HP.out.2.2.2 _ (Nat.le_refl _) hsz)⟩
              case measure => simp [intOf]; omega
          · obtain rfl : j = pn := by omega
            obtain ⟨p, hp, hx0, hbef, hxu, hxv⟩ := okP_place HOK.out (by rw [HPL.out]; exact hp5.2 hm2) u v
            have hmd := mdT_all hp hx0 hbef hxu hxv
            obtain ⟨hokr, hlr⟩ := okP_rest HOK.out hp
            have HLE := HPL.out
            rw [HLE] at hmd hlr
            obtain ⟨x, ex⟩ : ∃ x, L[p]?.getD 0 = x := ⟨_, rfl⟩
            obtain ⟨D, eD⟩ : ∃ D, L.take p ++ L.drop (p + 1) = D := ⟨_, rfl⟩
            rw [ex, eD] at hmd
            rw [eD] at hokr hlr
            rw [hmd] at HR
            simp only at HR
            rw [hmd]
            simp only
            rw [hlr] at HR ⊢
            have HMD := Lib.hid hmd
            have HOKR := Lib.hid hokr
            have HLR := Lib.hid hlr
            have HX0 := Lib.hid (show 0 ≤ x by rw [← ex]; exact hx0)
            clear hmd hokr hlr ex eD hx0 hbef hxu hxv HLE hrl
            by_cases h3 : j = 3
            · have O1 := Lib.hid (OwnG.below HO.out HB.out)
              have KP1 := Lib.hid (Kp.of_below (X := XA A) HB.out)
              have NW1 : Hid (∀ k, XA A k → XA A k ∨ w.heap.size ≤ k) := fun k h => .inl h
              have PG1 := Lib.hid (HPG.out.next KP1.out NW1.out)
              have RS1 := Lib.hid (pegs_own HR.out HO.out (Nat.le_refl _))
              have zs1 : B ≤ wr.heap.size := Nat.le_trans hB hsz
              clear HO HB HPG HR
              have HV := Lib.hid (pm_three (f := f) (a := a) (m1 := m1) (u := u) (v := v) (L := L) (x := x) (D := D) (by omega) hmf (by rw [HPL.out]; exact h3) (by rw [HPL.out]; exact HMD.out))
              obtain ⟨U1, hU1⟩ : ∃ U, pmL f a m1 u x L = U := ⟨_, rfl⟩
              obtain ⟨U2, hU2⟩ : ∃ U, pmL f a m1 x v L = U := ⟨_, rfl⟩
              have EV1 := Lib.hid hU1
              have EV3 := Lib.hid hU2
              rw [hU1, hU2] at HV
              clear hU1 hU2
              have hql : n + (U1.length + 1 + U2.length) ≤ 20000 := by have := HLN.out; rw [HV.out] at this; simp only [List.length_append, List.length_cons, List.length_nil] at this; omega
              have h3' : ((j : Int) == 3) = true := by rw [beq_iff_eq]; omega
              have hmv : (a : Int) + ((m1 : Int) + 1) - 1 = (a : Int) + m1 := by omega
              have H3 := Lib.hid h3
              clear h3
              go_wp2_with fail
              refine (HIH.out m1 (by omega) (by omega) a u x L Pg j pc HPL.out HOK.out (by omega) ⟨hp5.1, by omega⟩ _ _ _ _ _ O1.out (by omega) (by rw [EV1.out]; omega) PG1.out).mono ?_
              rw [EV1.out]
              rintro e w2 ⟨A2, c2, rfl, hO, hk, hn⟩
              have O2 := Lib.hid hO
              have KP2 := Lib.hid (KP1.out.trans hk NW1.out)
              have NW2 : Hid (∀ k, XA A2 k → XA A k ∨ w.heap.size ≤ k) := fun k h => (hn k h).elim (NW1.out k) (fun h => Or.inr (Nat.le_trans KP1.out.size h))
              have PG2 := Lib.hid (PG1.out.next hk hn)
              have RS2 := Lib.hid (RS1.out.next hk hn)
              have zs2 : B ≤ w2.heap.size := Nat.le_trans zs1 hk.size
              clear hO hk hn O1 KP1 NW1 PG1 RS1
              go_wp2_with (at_builtin; refine wpList_append_own_at _ rfl _ _ 26 rfl B 53 i0 (.agg #[.int .i64 0, .int .i64 0, .int .i64 0]) 3 24 Try.underlying26 hi hz0 hz1 hz2 rfl (by decide) _ _ _ rfl ((O2.out).alloc _) ⟨w2.heap.size, 0, none⟩ 1 1 [.int .i64 ((a : Int) + m1), .int .i64 u, .int .i64 v] rfl rfl (World.news_of_block (cs := #[.int .i64 ((a : Int) + m1), .int .i64 u, .int .i64 v]) (t := 53) (fr := (0, 0)) (heap_alloc_new w2 _)) (by simp [Value.oneCell']) (by unfold maxLen; omega) (by omega) (by simp; omega) ?_; intro v' w3 hown' hgrow _ hnew; obtain ⟨A3, c3, rfl⟩ := ownG_shape hown'; have O3 := Lib.hid (show OwnM B w3 A3 (n + U1.length + 1) c3 (M ++ U1 ++ [((a : Int) + m1, u, v)]) from by unfold OwnM; rw [mvCells_snoc]; exact hown'); have hk := Kp.grown (X := XA A2) hgrow (own_X O2.out); have hn := app_new O2.out hnew (show w2.heap.size ≤ _ by simp); have KP3 := Lib.hid (KP2.out.trans hk NW2.out); have NW3 : Hid (∀ k, XA A3 k → XA A k ∨ w.heap.size ≤ k) := fun k h => (hn k h).elim (NW2.out k) (fun h => Or.inr (Nat.le_trans KP2.out.size h)); have PG3 := Lib.hid (PG2.out.next hk hn); have RS3 := Lib.hid (RS2.out.next hk hn); have zs3 : B ≤ w3.heap.size := Nat.le_trans zs2 hk.size; clear hk hn; clear hown' hgrow hnew)
              go_wp2_with fail
              refine (HIH.out m1 (by omega) (by omega) a x v L Pg j pc HPL.out HOK.out (by omega) ⟨hp5.1, by omega⟩ _ _ _ _ _ O3.out (by omega) (by rw [EV3.out]; omega) PG3.out).mono ?_
              rw [EV3.out]
              rintro e w4 ⟨A4, c4, rfl, hO, hk, hn⟩
              have O4 := Lib.hid hO
              have KP4 := Lib.hid (KP3.out.trans hk NW3.out)
              have NW4 : Hid (∀ k, XA A4 k → XA A k ∨ w.heap.size ≤ k) := fun k h => (hn k h).elim (NW3.out k) (fun h => Or.inr (Nat.le_trans KP3.out.size h))
              have PG4 := Lib.hid (PG3.out.next hk hn)
              have RS4 := Lib.hid (RS3.out.next hk hn)
              have zs4 : B ≤ w4.heap.size := Nat.le_trans zs3 hk.size
              clear hO hk hn O3 KP3 NW3 PG3 RS3
              go_wp2
              go_ret
              have hlen : (n + U1.length + 1 + U2.length) = n + (pmL (f + 1) a (m1 + 1) u v L).length := by rw [HV.out]; simp only [List.length_append, List.length_cons, List.length_nil]; omega
              have happ : (M ++ U1 ++ [((a : Int) + m1, u, v)] ++ U2) = M ++ pmL (f + 1) a (m1 + 1) u v L := by rw [HV.out]; simp only [List.append_assoc]
              have hfin := O4.out
              rw [hlen, happ] at hfin
              exact ⟨_, _, by rw [hlen]; rfl, hfin, KP4.out, NW4.out⟩
            · have O1 := Lib.hid (OwnG.below HO.out HB.out)
              have KP1 := Lib.hid (Kp.of_below (X := XA A) HB.out)
              have NW1 : Hid (∀ k, XA A k → XA A k ∨ w.heap.size ≤ k) := fun k h => .inl h
              have PG1 := Lib.hid (HPG.out.next KP1.out NW1.out)
              have RS1 := Lib.hid (pegs_own HR.out HO.out (Nat.le_refl _))
              have zs1 : B ≤ wr.heap.size := Nat.le_trans hB hsz
              clear HO HB HPG HR
              obtain ⟨q, hq⟩ : ∃ q, j = q + 4 := ⟨j - 4, by omega⟩
              obtain ⟨hd1, hd2, _⟩ := hdF_bd (q := q) (n := m1 + 1) (by omega)
              have HV := Lib.hid (pm_more (f := f) (a := a) (m1 := m1) (u := u) (v := v) (L := L) (x := x) (D := D) (q := q) (by omega) (by rw [HPL.out]; exact hq) (by rw [HPL.out]; exact HMD.out))
              have hcl := hd_cell (q := q) (n := m1 + 1) (by omega)
              have hpos := spF_pos (q := q) (n := m1 + 1) (by omega)
              obtain ⟨k, ek⟩ : ∃ k, hdF q (m1 + 1) = k := ⟨_, rfl⟩
              obtain ⟨d, hd⟩ : ∃ d, m1 + 1 = k + d := ⟨m1 + 1 - k, by omega⟩
              rw [ek] at hd1 hd2 hcl HV
              rw [show m1 + 1 - k = d by omega] at HV
              have HCL := Lib.hid hcl
              have HD := Lib.hid hd
              clear ek hcl
              obtain ⟨U1, hU1⟩ : ∃ U, pmL f a k u x L = U := ⟨_, rfl⟩
              obtain ⟨U2, hU2⟩ : ∃ U, pmL f (a + k) d u v D = U := ⟨_, rfl⟩
              obtain ⟨U3, hU3⟩ : ∃ U, pmL f a k x v L = U := ⟨_, rfl⟩
              have EV2 := Lib.hid hU1
              have EV3 := Lib.hid hU2
              have EV4 := Lib.hid hU3
              rw [hU1, hU2, hU3] at HV
              clear hU1 hU2 hU3
              have hql : n + (U1.length + U2.length + U3.length) ≤ 20000 := by have := HLN.out; rw [HV.out] at this; simp only [List.length_append] at this; omega
              have h3' : ((j : Int) == 3) = false := by rw [beq_eq_false_iff_ne]; omega
              have hmk : (m1 : Int) + 1 - (k : Int) = (d : Int) := by omega
              have hd' : k ≤ m1 := by omega
              have hdm : d ≤ m1 := by omega
              have hd0 : 1 ≤ d := by omega
              have hjq : q ≤ 1 := by omega
              have Hq := Lib.hid hq
              clear hd hq
              go_wp2_with fail
              refine (l08Splits_pm _ q (m1 + 1) _ (by have := Hq.out; omega) (by omega) (by omega) (by omega)).mono ?_
              rintro e w2 ⟨A1, c1, rfl, hO1, hb1⟩
              obtain ⟨g1, rfl, _, hl1, hc1⟩ := hO1.cell 0 (by omega)
              rw [HCL.out] at hc1
              have O2 := Lib.hid (OwnG.below O1.out hb1)
              have KP2 := Lib.hid (KP1.out.trans (Kp.of_below (X := XA A) hb1) NW1.out)
              have NW2 := NW1
              have PG2 := Lib.hid (PG1.out.next (Kp.of_below (X := XA A) hb1) (fun k h => .inl h))
              have RS2 := Lib.hid (RS1.out.next (Kp.of_below (X := XA A) hb1) (fun k h => .inl h))
              have zs2 : B ≤ w2.heap.size := Nat.le_trans zs1 hb1.size
              clear hO1 hb1 O1 KP1 PG1 RS1
              generalize (spF q (m1 + 1)).length = len at *
              go_wp2_with fail
              refine (HIH.out k (by omega) (by omega) a u x L Pg j pc HPL.out HOK.out (by omega) ⟨hp5.1, by omega⟩ _ _ _ _ _ O2.out (by omega) (by rw [EV2.out]; omega) PG2.out).mono ?_
              rw [EV2.out]
              rintro e w3 ⟨A3, c3, rfl, hO, hk, hn⟩
              have O3 := Lib.hid hO
              have KP3 := Lib.hid (KP2.out.trans hk NW2.out)
              have NW3 : Hid (∀ k, XA A3 k → XA A k ∨ w.heap.size ≤ k) := fun k h => (hn k h).elim (NW2.out k) (fun h => Or.inr (Nat.le_trans KP2.out.size h))
              have PG3 := Lib.hid (PG2.out.next hk hn)
              have RS3 := Lib.hid (RS2.out.next hk hn)
              have zs3 : B ≤ w3.heap.size := Nat.le_trans zs2 hk.size
              clear hO hk hn O2 KP2 NW2 PG2 RS2
              go_wp2_with fail
              rw [show (a : Int) + (k : Int) = ((a + k : Nat) : Int) by omega]
              refine (HIH.out d (by omega) (by omega) (a + k) u v D Ar (j - 1) cr HLR.out HOKR.out (by omega) ⟨by omega, by omega⟩ _ _ _ _ _ O3.out (by omega) (by rw [EV3.out]; omega) RS3.out).mono ?_
              rw [EV3.out]
              rintro e w4 ⟨A4, c4, rfl, hO, hk, hn⟩
              have O4 := Lib.hid hO
              have KP4 := Lib.hid (KP3.out.trans hk NW3.out)
              have NW4 : Hid (∀ k, XA A4 k → XA A k ∨ w.heap.size ≤ k) := fun k h => (hn k h).elim (NW3.out k) (fun h => Or.inr (Nat.le_trans KP3.out.size h))
              have PG4 := Lib.hid (PG3.out.next hk hn)
              have RS4 := Lib.hid (RS3.out.next hk hn)
              have zs4 : B ≤ w4.heap.size := Nat.le_trans zs3 hk.size
              clear hO hk hn O3 KP3 NW3 PG3 RS3
              go_wp2_with fail
              refine (HIH.out k (by omega) (by omega) a x v L Pg j pc HPL.out HOK.out (by omega) ⟨hp5.1, by omega⟩ _ _ _ _ _ O4.out (by omega) (by rw [EV4.out]; omega) PG4.out).mono ?_
              rw [EV4.out]
              rintro e w5 ⟨A5, c5, rfl, hO, hk, hn⟩
              have O5 := Lib.hid hO
              have KP5 := Lib.hid (KP4.out.trans hk NW4.out)
              have NW5 : Hid (∀ k, XA A5 k → XA A k ∨ w.heap.size ≤ k) := fun k h => (hn k h).elim (NW4.out k) (fun h => Or.inr (Nat.le_trans KP4.out.size h))
              have PG5 := Lib.hid (PG4.out.next hk hn)
              have RS5 := Lib.hid (RS4.out.next hk hn)
              have zs5 : B ≤ w5.heap.size := Nat.le_trans zs4 hk.size
              clear hO hk hn O4 KP4 NW4 PG4 RS4
              go_wp2
              go_ret
              have hlen : (n + U1.length + U2.length + U3.length) = n + (pmL (f + 1) a (m1 + 1) u v L).length := by rw [HV.out]; simp only [List.length_append]; omega
              have happ : (M ++ U1 ++ U2 ++ U3) = M ++ pmL (f + 1) a (m1 + 1) u v L := by rw [HV.out]; simp only [List.append_assoc]
              have hfin := O5.out
              rw [hlen, happ] at hfin
              exact ⟨_, _, by rw [hlen]; rfl, hfin, KP5.out, NW5.out⟩

end Go.Proofs.Ytfllbdpdfgkkaaa
