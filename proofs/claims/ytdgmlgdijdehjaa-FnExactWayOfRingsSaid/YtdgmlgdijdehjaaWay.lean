/- Contracts: ways of words of rings. -/
import Derived.Test.YtdgmlgdijdehjaaWayM
import Derived.Test.YtdgmlgdijdehjaaRkDist
import Derived.Test.YtdgmlgdijdehjaaTurn
namespace Go.Proofs.Ytdgmlgdijdehjaa
open Go.RowKit
set_option linter.unusedVariables false

set_option maxHeartbeats 400000 in
theorem l05Ring_calls (t : Nat) (w : World) (h0 : 0 < t) (h1 : t ≤ 65536) :
    Calls Try.prog 29 #[.int .i64 t] w fun e w' => e = .returned (.int .i64 (ctz t)) ∧ w = w' := by
  go_enter Try.func29, Try.ntmps29
  go_wp2
  go_loop [0, 3] (fun u i => ∃ k x : Nat, 0 < x ∧ x ≤ 65536 ∧ k + x ≤ 65536 ∧ u = .int .i64 x ∧ i = .int .i64 k ∧ Hid (ctz t = k + ctz x)) (fun u _ => (intOf u).toNat)
  case atStart => exact ⟨0, t, h0, h1, by omega, rfl, rfl, by unfold Hid; omega⟩
  case round =>
    obtain ⟨k, x, hx0, hx1, hk, rfl, rfl, hc⟩ := hrel
    by_cases he : x % 2 = 0
    · have hd : ((x : Int) % 2 == 0) = true := by simp; omega
      have hs := Lib.hid (ctz_even he hx0)
      have hx2 : 2 ≤ x := by omega
      clear he
      go_wp2
      go_round
      case rel => exact ⟨k + 1, x / 2, by omega, by omega, by omega, by go_num, by go_num, by unfold Hid; rw [hc.out, hs.out]; omega⟩
      case measure => simp [intOf]; omega
    · have hd : ((x : Int) % 2 == 0) = false := by simp; omega
      have hs := Lib.hid (ctz_odd (t := x) (by omega))
      clear he
      go_wp2
      go_ret
      exact ⟨ret_ix (by rw [hc.out, hs.out]; simp), rfl⟩

/-- What WayOfRings answers. -/
def wyV (L M : List Int) : List Int := if rdE L M = 0 then wayL (rkL L).toNat (rkL M).toNat else []
theorem wy_yes {L M : List Int} {r s : Nat} (h : rdE L M = 0) (h1 : rkL L = r) (h2 : rkL M = s) : wyV L M = wayL r s := by unfold wyV; rw [if_pos h, h1, h2]; rfl
theorem wy_no {L M : List Int} (h : ¬ rdE L M = 0) : wyV L M = [] := by unfold wyV; rw [if_neg h]
theorem wyV_len (L M : List Int) : (wyV L M).length ≤ 1048576 := by
  by_cases h : rdE L M = 0
  · obtain ⟨h1, h2, _⟩ := rdE_inv h
    have b1 := rk_bd0 h1
    have b2 := rk_bd0 h2
    obtain ⟨r, hr⟩ := Int.eq_ofNat_of_zero_le b1.1
    obtain ⟨s, hs⟩ := Int.eq_ofNat_of_zero_le b2.1
    rw [wy_yes h hr hs, wayL_len]
    omega
  · rw [wy_no h]; simp

set_option maxHeartbeats 2000000 in
theorem specWayOfRings_ret (A : Option Addr) (n c : Nat) (L : List Int) (B : Option Addr) (m d : Nat) (M : List Int) (w : World) (hL : L.length = n) (hn : n ≤ 1048576) (hI : Ints w A L) (hM : M.length = m) (hm : m ≤ 1048576) (hJ : Ints w B M) :
    Calls Try.prog 15 #[.slice A n c, .slice B m d] w (RetInts w (wyV L M).length (wyV L M) (rdE L M)) := by
  by_cases h : rdE L M = 0
  · obtain ⟨i0, hi, hz0, hz1, hz2⟩ := info_parts Try.infoI
    obtain ⟨h1, h2, h3⟩ := rdE_inv h
    have b1 := rk_bd0 h1
    have b2 := rk_bd0 h2
    obtain ⟨r, hr⟩ := Int.eq_ofNat_of_zero_le b1.1
    obtain ⟨s, hs⟩ := Int.eq_ofNat_of_zero_le b2.1
    rw [hr] at b1
    rw [hs] at b2
    have HV := Lib.hid (wy_yes h hr hs)
    have H := Lib.hid h
    have HR := Lib.hid hr
    have HS := Lib.hid hs
    clear h hr hs h3
    go_enter Try.func15, Try.ntmps15
    go_wp2_with fail
    refine (l05Like_calls A n c L B m d M _ hL hn hI hM hm hJ).mono ?_
    rintro e w1 ⟨rfl, rfl⟩
    rw [H.out]
    go_wp2_with fail
    refine (l05Rank_calls A n c L _ hL hI h1).mono ?_
    rintro e w1 ⟨rfl, rfl⟩
    rw [HR.out]
    go_wp2_with fail
    refine (l05Rank_calls B m d M _ hM hJ h2).mono ?_
    rintro e w1 ⟨rfl, rfl⟩
    rw [HS.out]
    go_wp2
    go_loopw [7, 9] (fun x v wr => ∃ k : Nat, r + k ≤ max r s ∧ x = .int .i64 ((r + k : Nat) : Int) ∧ (∃ AA cc, v = .slice AA k cc ∧ OwnG 2 1 w.heap.size wr AA k cc ((upL r k).map (Value.int .i64))) ∧ Below w.heap.size w wr) (fun x _ _ => s - (intOf x).toNat)
    case atStart =>
      have e2 := Box.new w 2 #[]
      exact ⟨0, by omega, rfl, ⟨_, _, rfl, OwnG.emptyAt e2 (Nat.le_refl _)⟩, (Below.refl _ _).alloc (Nat.le_refl _) _⟩
    case round =>
      obtain ⟨k, hk, rfl, ⟨AA, cc, rfl, hO⟩, hb⟩ := hrel
      have HO := Lib.hid hO
      have HB := Lib.hid hb
      have hsz := hb.size
      clear hO hb
      by_cases hlt : r + k < s
      · have hst : Hid (upL r (k + 1) = upL r k ++ [(ctz (r + k + 1) : Int)]) := rfl
        have hul : Hid ((upL r k).length = k) := upL_len r k
        obtain ⟨q, hq⟩ : ∃ q, r + k = q := ⟨_, rfl⟩
        rw [hq] at hk hlt hst ⊢
        have HQ := Lib.hid hq
        have hkb : k ≤ 65535 := by omega
        clear hq
        go_wp2_with fail
        refine (l05Ring_calls (q + 1) _ (by omega) (by omega)).mono ?_
        rintro e w1 ⟨rfl, rfl⟩
        generalize upL r k = D at *
        go_wp2_with (at_builtin; refine wpList_append_own _ rfl _ _ 22 rfl w.heap.size 2 i0 (.int .i64 0) 1 8 Try.underlying22 hi hz0 hz1 hz2 rfl (by decide) _ _ _ rfl (HO.out.alloc _) ⟨wr.heap.size, 0, none⟩ 1 1 [.int .i64 (ctz (q + 1))] rfl rfl (cell_one_new _ _ _) (by simp [Value.oneCell']) (by unfold maxLen; omega) (by omega) (by simp; omega) ?_; intro v' w4 hown' hgrow _; obtain ⟨A4, c4, rfl⟩ := ownG_shape hown'; have HO4 := Lib.hid hown'; have HB4 := Lib.hid (HB.out.trans (OwnG.grown_below HO.out hgrow (Nat.le_refl _) hsz)); clear hown' hgrow)
        go_roundw
        case rel =>
          refine ⟨k + 1, by have := HQ.out; omega, by have := HQ.out; rw [← this]; go_num, ⟨A4, c4, rfl, ?_⟩, HB4.out⟩
          rw [hst.out, List.map_append]
          exact HO4.out
        case measure => simp [intOf]; omega
      · by_cases hrs : r ≤ s
        · have hqs : r + k = s := by omega
          have HV2 : Hid (wyV L M = upL r k) := by unfold Hid; rw [HV.out, wayL, if_pos hrs]; congr 1; omega
          have hx2 : ¬ s < s := by omega
          rw [hqs]
          have HQS := Lib.hid hqs
          clear hlt hk hqs
          go_wp2
          refine wp_loop_rounds 1 ?_
          rw [rounds_succ]
          go_wp2
          go_ret2
          rw [HV2.out, upL_len, H.out]
          exact ⟨AA, cc, rfl, HO.out, HB.out⟩
        · have hk0 : k = 0 := by omega
          subst hk0
          have HV2 : Hid (wyV L M = downL r (r - s)) := by unfold Hid; rw [HV.out, wayL, if_neg hrs]
          have hsr : s < r := by omega
          clear hrs hlt hk
          rw [Nat.add_zero]
          obtain ⟨wo, rfl⟩ : ∃ wo : World, wo = wr := ⟨_, rfl⟩
          have hdd : decide (r < s) = false := by simp; omega
          go_wp2
          go_loopw [7, 9] (fun x v wr => ∃ k y : Nat, k ≤ r - s ∧ y + k = r ∧ x = .int .i64 (y : Int) ∧ (∃ AA cc, v = .slice AA k cc ∧ OwnG 2 1 w.heap.size wr AA k cc ((downL r k).map (Value.int .i64))) ∧ Below w.heap.size w wr) (fun x _ _ => (intOf x).toNat - s)
          case atStart => exact ⟨0, r, Nat.zero_le _, rfl, rfl, ⟨AA, cc, rfl, HO.out⟩, HB.out⟩
          case round =>
            obtain ⟨k, y, hk, hy, rfl, ⟨AA2, cc2, rfl, hO2⟩, hb2⟩ := hrel
            have HO2 := Lib.hid hO2
            have HB2 := Lib.hid hb2
            have hsz2 := hb2.size
            clear hO2 hb2
            by_cases hlt2 : s < y
            · have hst : Hid (downL r (k + 1) = downL r k ++ [(ctz y : Int)]) := by
                have : r - k = y := by omega
                unfold Hid
                rw [downL, this]
              have hul : Hid ((downL r k).length = k) := downL_len r k
              have HY := Lib.hid hy
              have hkb : k ≤ 65535 := by omega
              have hyb : y ≤ 65536 := by omega
              clear hy
              go_wp2_with fail
              refine (l05Ring_calls y _ (by omega) hyb).mono ?_
              rintro e w1 ⟨rfl, rfl⟩
              generalize downL r k = D at *
              go_wp2_with (at_builtin; refine wpList_append_own _ rfl _ _ 22 rfl w.heap.size 2 i0 (.int .i64 0) 1 8 Try.underlying22 hi hz0 hz1 hz2 rfl (by decide) _ _ _ rfl (HO2.out.alloc _) ⟨wr.heap.size, 0, none⟩ 1 1 [.int .i64 (ctz y)] rfl rfl (cell_one_new _ _ _) (by simp [Value.oneCell']) (by unfold maxLen; omega) (by omega) (by simp; omega) ?_; intro v' w4 hown' hgrow _; obtain ⟨A4, c4, rfl⟩ := ownG_shape hown'; have HO4 := Lib.hid hown'; have HB4 := Lib.hid (HB2.out.trans (OwnG.grown_below HO2.out hgrow (Nat.le_refl _) hsz2)); clear hown' hgrow)
              go_roundw
              case rel =>
                refine ⟨k + 1, y - 1, by have := HY.out; omega, by have := HY.out; omega, by go_num, ⟨A4, c4, rfl, ?_⟩, HB4.out⟩
                rw [hst.out, List.map_append]
                exact HO4.out
              case measure => simp [intOf]; omega
            · have hke : r - s = k := by omega
              have HK := Lib.hid hke
              clear hke
              go_wp2
              go_ret2
              rw [HV2.out, downL_len, H.out, HK.out]
              exact ⟨AA2, cc2, rfl, HO2.out, HB2.out⟩
  · have hb : (rdE L M != 0) = true := by simpa using h
    have H := Lib.hid (wy_no h)
    clear h
    go_enter Try.func15, Try.ntmps15
    go_wp2_with fail
    refine (l05Like_calls A n c L B m d M _ hL hn hI hM hm hJ).mono ?_
    rintro e w1 ⟨rfl, rfl⟩
    go_wp2
    go_ret2
    rw [H.out]
    exact retInts_zero rfl (Below.refl _ _)

end Go.Proofs.Ytdgmlgdijdehjaa
