/- Contracts: WordDistance and CountWordWays, by the specification's model and by the program. -/
import Derived.Test.YtnfjdggiaodhmaaStrNum
import Derived.Test.YtnfjdggiaodhmaaMark
namespace Go.Proofs.Ytnfjdggiaodhmaa
open Go.RowKit
open Go.RowKit (wrap64)
set_option linter.unusedVariables false

def mnTo (N : List Int) : Nat → Int
  | 0 => N[0]?.getD 0
  | i + 1 => min (mnTo N i) (N[i]?.getD 0)
def cwTo (N : List Int) : Nat → Int
  | 0 => 0
  | i + 1 => if N[i]?.getD 0 < mnTo N i then 1 else if N[i]?.getD 0 = mnTo N i then cwTo N i + 1 else cwTo N i
def ceTo (N : List Int) (m : Int) : Nat → Int
  | 0 => 0
  | i + 1 => ceTo N m i + if N[i]?.getD 0 = m then 1 else 0
theorem mnTo_one (N : List Int) : mnTo N 1 = N[0]?.getD 0 := by simp [mnTo]
theorem mnTo_step (N : List Int) (i : Nat) : mnTo N (i + 1) = min (mnTo N i) (N[i]?.getD 0) := rfl
theorem min_if (a b : Int) : (if b < a then b else a) = min a b := by split <;> omega
theorem mnTo_le (N : List Int) : ∀ i j, j < i → mnTo N i ≤ N[j]?.getD 0
  | 0, j, h => absurd h (by omega)
  | i + 1, j, h => by
    rw [mnTo_step]
    by_cases hj : j = i
    · subst hj; omega
    · have := mnTo_le N i j (by omega); omega
theorem cw_lt {N : List Int} {i : Nat} (h : N[i]?.getD 0 < mnTo N i) : cwTo N (i + 1) = 1 ∧ mnTo N (i + 1) = N[i]?.getD 0 := ⟨by rw [cwTo, if_pos h], by rw [mnTo_step]; omega⟩
theorem cw_eq {N : List Int} {i : Nat} (h : N[i]?.getD 0 = mnTo N i) : cwTo N (i + 1) = cwTo N i + 1 ∧ mnTo N (i + 1) = mnTo N i := ⟨by rw [cwTo, if_neg (by omega), if_pos h], by rw [mnTo_step]; omega⟩
theorem cw_gt {N : List Int} {i : Nat} (h1 : ¬ N[i]?.getD 0 < mnTo N i) (h2 : ¬ N[i]?.getD 0 = mnTo N i) : cwTo N (i + 1) = cwTo N i ∧ mnTo N (i + 1) = mnTo N i := ⟨by rw [cwTo, if_neg h1, if_neg h2], by rw [mnTo_step]; omega⟩
theorem cw_bd (N : List Int) : ∀ i : Nat, 0 ≤ cwTo N i ∧ cwTo N i ≤ i
  | 0 => by simp [cwTo]
  | i + 1 => by
    have ih := cw_bd N i
    unfold cwTo
    split
    · omega
    · split <;> omega
theorem ce_bd (N : List Int) (m : Int) : ∀ i : Nat, 0 ≤ ceTo N m i ∧ ceTo N m i ≤ i
  | 0 => by simp [ceTo]
  | i + 1 => by
    have ih := ce_bd N m i
    unfold ceTo
    split <;> omega
theorem ce_yes {N : List Int} {m : Int} {i : Nat} (h : N[i]?.getD 0 = m) : ceTo N m (i + 1) = ceTo N m i + 1 := by rw [ceTo, if_pos h]
theorem ce_no {N : List Int} {m : Int} {i : Nat} (h : ¬ N[i]?.getD 0 = m) : ceTo N m (i + 1) = ceTo N m i := by rw [ceTo, if_neg h, Int.add_zero]
theorem ce_zero {N : List Int} {m : Int} : ∀ i : Nat, (∀ j, j < i → m < N[j]?.getD 0) → ceTo N m i = 0
  | 0, _ => rfl
  | i + 1, h => by
    have := h i (by omega)
    rw [ce_no (by omega), ce_zero i (fun j hj => h j (by omega))]
theorem cw_ce (N : List Int) : ∀ i : Nat, cwTo N i = ceTo N (mnTo N i) i
  | 0 => rfl
  | i + 1 => by
    by_cases h1 : N[i]?.getD 0 < mnTo N i
    · obtain ⟨e1, e2⟩ := cw_lt h1
      rw [e1, e2, ce_yes rfl, ce_zero i (fun j hj => by have := mnTo_le N i j hj; omega)]
      rfl
    · by_cases h2 : N[i]?.getD 0 = mnTo N i
      · obtain ⟨e1, e2⟩ := cw_eq h2
        rw [e1, e2, ce_yes h2, cw_ce N i]
      · obtain ⟨e1, e2⟩ := cw_gt h1 h2
        rw [e1, e2, ce_no h2, cw_ce N i]
theorem OwnG.intsG {B : Nat} {w : World} {A : Option Addr} {n c : Nat} {L : List Int} (h : OwnG 2 1 B w A n c (L.map (Value.int .i64))) : Ints w A L := Own.ints (B := B) (n := n) (c := c) h

def nlW (k : Int) (L M : List Int) : List Int := numL L M (grN L M) k.toNat
def wdV (k : Int) (L M : List Int) : Int := if twoWB k L M = true then (if grt L M L.length = -1 then 0 else mnTo (nlW k L M) (nlW k L M).length) else 0
def wwV (k : Int) (L M : List Int) : Int := if twoWB k L M = true then (if grt L M L.length = -1 then 1 else cwTo (nlW k L M) (nlW k L M).length) else 0
theorem wd_no {k : Int} {L M : List Int} (h : twoWB k L M = false) : wdV k L M = 0 ∧ wwV k L M = 0 := ⟨by unfold wdV; rw [h]; rfl, by unfold wwV; rw [h]; rfl⟩
theorem wd_same {k : Int} {L M : List Int} (h : twoWB k L M = true) (hg : grt L M L.length = -1) : wdV k L M = 0 ∧ wwV k L M = 1 := ⟨by unfold wdV; rw [if_pos h, if_pos hg], by unfold wwV; rw [if_pos h, if_pos hg]⟩
theorem wd_diff {K : Nat} {L M : List Int} {g n : Nat} (h : twoWB K L M = true) (hL : L.length = n) (hg : grt L M n = g) :
    wdV K L M = mnTo (numL L M g K) (numL L M g K).length ∧ wwV K L M = cwTo (numL L M g K) (numL L M g K).length := by
  have e : nlW K L M = numL L M g K := by unfold nlW; rw [grN_of hL hg, Int.toNat_natCast]
  exact ⟨by unfold wdV; rw [if_pos h, if_neg (by rw [hL, hg]; omega), e], by unfold wwV; rw [if_pos h, if_neg (by rw [hL, hg]; omega), e]⟩

set_option maxHeartbeats 1000000 in
theorem sliceMin_calls (A : Option Addr) (q c : Nat) (N : List Int) (w : World) (hq : N.length = q) (h1 : 1 ≤ q) (hm : q ≤ 100) (hI : Ints w A N) :
    Calls Try.prog 47 #[.slice A q c] w fun e w' => e = .returned (.int .i64 (mnTo N q)) ∧ w = w' := by
  have HQ := Lib.hid hq
  have HI := Lib.hid hI
  obtain ⟨ad, rfl, had, hc0⟩ := hI 0 (by omega)
  clear hq hI
  go_enter Try.func47, Try.ntmps47
  have hc0' : w.cell? ad = some (.int .i64 (N[0]?.getD 0)) := by simpa [Addr.add] using hc0
  go_wp2
  go_loop [3, 4] (fun o i => ∃ j : Nat, 1 ≤ j ∧ j ≤ q ∧ i = .int .i64 j ∧ o = .int .i64 (mnTo N j)) (fun _ i => q - (intOf i).toNat)
  case atStart => exact ⟨1, Nat.le_refl _, h1, rfl, by rw [mnTo_one]⟩
  case round =>
    obtain ⟨j, hj1, hj, rfl, rfl⟩ := hrel
    by_cases hlt : j < q
    · obtain ⟨_, h0, _, hcj⟩ := HI.out j (by rw [HQ.out]; omega)
      cases h0
      have HST := Lib.hid (mnTo_step N j)
      generalize hmj : mnTo N j = mj at *
      clear hc0 hc0' hmj
      go_wp2
      go_round
      case rel => exact ⟨j + 1, by omega, by omega, by go_num, by rw [HST.out, min_if]⟩
      case measure => simp [intOf]; omega
    · obtain rfl : j = q := by omega
      go_wp2
      go_ret
      exact ⟨rfl, rfl⟩

set_option maxHeartbeats 4000000 in
theorem wayNumbers_calls (K : Nat) (ad : Addr) (n c : Nat) (L : List Int) (ad' : Addr) (d : Nat) (M : List Int) (g : Nat) (w : World) (hK : K ≤ 5) (hL : L.length = n) (hM : M.length = n) (hn : n ≤ 8) (hg : g < n) (hc : n ≤ c) (hd : n ≤ d) (hI : Ints w (some ad) L) (hJ : Ints w (some ad') M) :
    Calls Try.prog 46 #[.int .i64 K, .slice (some ad) n c, .slice (some ad') n d, .agg #[.int .i64 g, .int .i64 (L[g]?.getD 0), .int .i64 (M[g]?.getD 0)]] w fun e w' => ∃ A c', e = .returned (.slice A (numL L M g K).length c') ∧ OwnG 2 1 w.heap.size w' A (numL L M g K).length c' ((numL L M g K).map (Value.int .i64)) ∧ Below w.heap.size w w' := by
  have HL := Lib.hid hL
  have HM := Lib.hid hM
  have HI := Lib.hid hI
  have HJ := Lib.hid hJ
  obtain ⟨i0, hi, hz0, hz1, hz2⟩ := info_parts Try.infoI
  have X0 := Lib.hid (Box.new w 50 #[.int .i64 g, .int .i64 (L[g]?.getD 0), .int .i64 (M[g]?.getD 0)])
  have HB0 := Lib.hid ((Below.refl w.heap.size w).alloc (Nat.le_refl _) (.cells #[.int .i64 g, .int .i64 (L[g]?.getD 0), .int .i64 (M[g]?.getD 0)] 50))
  clear hL hM hI hJ
  obtain ⟨x0, x1, x2⟩ := X0.out.three
  go_enter Try.func46, Try.ntmps46
  go_wp2_with fail
  refine (straightNumber_calls (some ad) n c L (some ad') d M g _ _ _ HL.out HM.out hn hg hc hd (HI.out.below HB0.out) (HJ.out.below HB0.out)).mono ?_
  rintro e w1 ⟨rfl, hb1⟩
  have X1 := Lib.hid (X0.out.below hb1 X0.out.lt)
  have HB1 := Lib.hid (HB0.out.trans (hb1.mono HB0.out.size))
  have hs1 : w.heap.size + 1 ≤ w1.heap.size := by have := hb1.size; simpa using this
  have hst0 : OwnG 2 1 (w.heap.size + 1) (w1.alloc (.cells #[.int .i64 (strN L M g)] 2)) (some ⟨w1.heap.size, 0, none⟩) 1 1 [.int .i64 (strN L M g)] := OwnG.oneAt (Box.new w1 _ _) hs1
  have HST0 := Lib.hid hst0
  have hbw0 := Lib.hid (HB1.out.alloc (by omega) (.cells #[.int .i64 (strN L M g)] 2))
  have X2 := Lib.hid (X1.out.alloc (.cells #[.int .i64 (strN L M g)] 2))
  clear hb1 hst0 x0 x1 x2 X0 X1 HB0 HB1
  go_wp2_with fail
  go_loopw [9, 10, 17] (fun o _ i wr => ∃ j : Nat, j ≤ K ∧ i = .int .i64 j ∧ (∃ A c', o = .slice A (numL L M g j).length c' ∧ OwnG 2 1 (w.heap.size + 1) wr A (numL L M g j).length c' ((numL L M g j).map (Value.int .i64))) ∧ Box wr w.heap.size 50 #[.int .i64 g, .int .i64 (L[g]?.getD 0), .int .i64 (M[g]?.getD 0)] ∧ Below w.heap.size w wr) (fun _ _ i _ => K - (intOf i).toNat)
  case atStart => exact ⟨0, Nat.zero_le _, rfl, ⟨_, _, rfl, HST0.out⟩, X2.out, hbw0.out⟩
  case round =>
    obtain ⟨j, hj, rfl, ⟨A0, c0, rfl, hO⟩, hbx, hb⟩ := hrel
    have HO := Lib.hid hO
    have X := Lib.hid hbx
    have HB := Lib.hid hb
    have hsz := hb.size
    have hlt0 := hbx.lt
    have hln := numL_len L M g j
    have HIr := Lib.hid (HI.out.below hb)
    have HJr := Lib.hid (HJ.out.below hb)
    clear hO hbx hb HST0 hbw0 X2
    obtain ⟨x0, x1, x2⟩ := X.out.three
    by_cases hlt : j < K
    · by_cases hx : (j : Int) = L[g]?.getD 0
      · have HS := Lib.hid (numL_skip (M := M) (Or.inl hx))
        have ht : ((j : Int) != L[g]?.getD 0) = false := by simpa using hx
        clear hx
        go_wp2
        go_roundw
        case rel => exact ⟨j + 1, by omega, by go_num, ⟨A0, c0, by rw [HS.out], by rw [HS.out]; exact HO.out⟩, X.out, HB.out⟩
        case measure => simp [intOf]; omega
      · by_cases hy : (j : Int) = M[g]?.getD 0
        · have HS := Lib.hid (numL_skip (L := L) (Or.inr hy))
          have ht : ((j : Int) != L[g]?.getD 0) = true := by simpa using hx
          have ht' : ((j : Int) != M[g]?.getD 0) = false := by simpa using hy
          clear hx hy
          go_wp2
          go_roundw
          case rel => exact ⟨j + 1, by omega, by go_num, ⟨A0, c0, by rw [HS.out], by rw [HS.out]; exact HO.out⟩, X.out, HB.out⟩
          case measure => simp [intOf]; omega
        · have HS := Lib.hid (numL_more hx hy)
          have ht : ((j : Int) != L[g]?.getD 0) = true := by simpa using hx
          have ht' : ((j : Int) != M[g]?.getD 0) = true := by simpa using hy
          clear hx hy
          go_wp2_with fail
          refine (detourNumber_calls (some ad) n c L (some ad') d M g _ _ j _ HL.out HM.out hn hg hc hd HIr.out HJr.out).mono ?_
          rintro e w3 ⟨rfl, hb3⟩
          have X3 := Lib.hid (X.out.below hb3 X.out.lt)
          have HB3 := Lib.hid (HB.out.trans (hb3.mono HB.out.size))
          have HO3 := Lib.hid (HO.out.below hb3)
          have hs3 : w.heap.size + 1 ≤ w3.heap.size := by have := hb3.size; omega
          clear hb3 x0 x1 x2
          go_wp2_with (at_builtin; refine wpList_append_own _ rfl _ _ 22 rfl (w.heap.size + 1) 2 i0 (.int .i64 0) 1 8 Try.underlying22 hi hz0 hz1 hz2 rfl (by decide) _ _ _ rfl (HO3.out.alloc _) ⟨w3.heap.size, 0, none⟩ 1 1 [.int .i64 (detN L M g j)] rfl rfl (cell_one_new _ _ _) (by simp [Value.oneCell']) (by unfold maxLen; omega) (by omega) (by simp; omega) ?_; intro v' w4 hown' hgrow _; obtain ⟨A4, c4, rfl⟩ := ownG_shape hown'; have HO4 := Lib.hid hown'; have X4 := Lib.hid (HO3.out.grown_box hgrow X3.out (by decide)); have HB4 := Lib.hid (HB3.out.trans (HO3.out.grown_below hgrow (by omega) (by omega))); clear hown' hgrow)
          go_roundw
          case rel =>
            refine ⟨j + 1, by omega, by go_num, ⟨A4, c4, by rw [HS.out, List.length_append]; rfl, ?_⟩, X4.out, HB4.out⟩
            rw [HS.out, List.length_append, List.map_append]
            exact HO4.out
          case measure => simp [intOf]; omega
    · obtain rfl : j = K := by omega
      go_wp2
      go_ret
      exact ⟨_, _, rfl, HO.out.mono (by omega), HB.out⟩

end Go.Proofs.Ytnfjdggiaodhmaa
