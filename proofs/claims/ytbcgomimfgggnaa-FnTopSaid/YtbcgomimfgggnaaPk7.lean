/- Contracts: WordDistance and CountWordWays, by the specification's model and by the program. · Contracts: WordDistance and CountWordWays, by the specification's model and by the program. · Two states of three pegs and their words: distances. · Contracts: the way to a perfect state, by the specification's model. · Contracts: WayBetween, by the specification's model. · A scope with one label, inside a fence: the run may jump back to the label. No program. -/
import Derived.Test.YtbcgomimfgggnaaPk6
import Derived.Test.YtbcgomimfgggnaaPk1
import Derived.Test.YtbcgomimfgggnaaPk5
import Derived.Test.YtbcgomimfgggnaaPk3
import Derived.Test.YtbcgomimfgggnaaPk2
import Derived.Test.YtbcgomimfgggnaaPk4
import Derived.BigQuiet
import Derived.Deep.AppendLies
import Derived.Deep.RegionLaw
import Derived.Laws.AppendOwnNone
import Derived.IntWalk
import Derived.Deep.Cut
import Derived.ScopeJumps
import Derived.ControlIn
import Derived.WalkMore
namespace Go.Proofs.Ytbcgomimfgggnaa
open Go.RowKit
open Go.RowKit (wrap64)
set_option linter.unusedVariables false
set_option maxRecDepth 100000

def mnTo (N : List Int) : Nat → Int
  | 0 => N[0]?.getD 0
  | i + 1 => min (mnTo N i) (N[i]?.getD 0)
def cwTo (N : List Int) : Nat → Int
  | 0 => 0
  | i + 1 => if N[i]?.getD 0 < mnTo N i then 1 else if N[i]?.getD 0 = mnTo N i then cwTo N i + 1 else cwTo N i
def ceTo (N : List Int) (m : Int) : Nat → Int
  | 0 => 0
  | i + 1 => ceTo N m i + if N[i]?.getD 0 = m then 1 else 0
theorem mnTo_one (N : List Int) : mnTo N 1 = N[0]?.getD 0 := by simp [mnTo]
theorem mnTo_step (N : List Int) (i : Nat) : mnTo N (i + 1) = min (mnTo N i) (N[i]?.getD 0) := rfl
theorem min_if (a b : Int) : (if b < a then b else a) = min a b := by split <;> omega
theorem mnTo_le (N : List Int) : ∀ i j, j < i → mnTo N i ≤ N[j]?.getD 0
  | 0, j, h => absurd h (by omega)
  | i + 1, j, h => by
    rw [mnTo_step]
    by_cases hj : j = i
    · subst hj; omega
    · have := mnTo_le N i j (by omega); omega
theorem cw_lt {N : List Int} {i : Nat} (h : N[i]?.getD 0 < mnTo N i) : cwTo N (i + 1) = 1 ∧ mnTo N (i + 1) = N[i]?.getD 0 := ⟨by rw [cwTo, if_pos h], by rw [mnTo_step]; omega⟩
theorem cw_eq {N : List Int} {i : Nat} (h : N[i]?.getD 0 = mnTo N i) : cwTo N (i + 1) = cwTo N i + 1 ∧ mnTo N (i + 1) = mnTo N i := ⟨by rw [cwTo, if_neg (by omega), if_pos h], by rw [mnTo_step]; omega⟩
theorem cw_gt {N : List Int} {i : Nat} (h1 : ¬ N[i]?.getD 0 < mnTo N i) (h2 : ¬ N[i]?.getD 0 = mnTo N i) : cwTo N (i + 1) = cwTo N i ∧ mnTo N (i + 1) = mnTo N i := ⟨by rw [cwTo, if_neg h1, if_neg h2], by rw [mnTo_step]; omega⟩
theorem cw_bd (N : List Int) : ∀ i : Nat, 0 ≤ cwTo N i ∧ cwTo N i ≤ i
  | 0 => by simp [cwTo]
  | i + 1 => by
    have ih := cw_bd N i
    unfold cwTo
    split
    · omega
    · split <;> omega
theorem ce_bd (N : List Int) (m : Int) : ∀ i : Nat, 0 ≤ ceTo N m i ∧ ceTo N m i ≤ i
  | 0 => by simp [ceTo]
  | i + 1 => by
    have ih := ce_bd N m i
    unfold ceTo
    split <;> omega
theorem ce_yes {N : List Int} {m : Int} {i : Nat} (h : N[i]?.getD 0 = m) : ceTo N m (i + 1) = ceTo N m i + 1 := by rw [ceTo, if_pos h]
theorem ce_no {N : List Int} {m : Int} {i : Nat} (h : ¬ N[i]?.getD 0 = m) : ceTo N m (i + 1) = ceTo N m i := by rw [ceTo, if_neg h, Int.add_zero]
theorem ce_zero {N : List Int} {m : Int} : ∀ i : Nat, (∀ j, j < i → m < N[j]?.getD 0) → ceTo N m i = 0
  | 0, _ => rfl
  | i + 1, h => by
    have := h i (by omega)
    rw [ce_no (by omega), ce_zero i (fun j hj => h j (by omega))]
theorem cw_ce (N : List Int) : ∀ i : Nat, cwTo N i = ceTo N (mnTo N i) i
  | 0 => rfl
  | i + 1 => by
    by_cases h1 : N[i]?.getD 0 < mnTo N i
    · obtain ⟨e1, e2⟩ := cw_lt h1
      rw [e1, e2, ce_yes rfl, ce_zero i (fun j hj => by have := mnTo_le N i j hj; omega)]
      rfl
    · by_cases h2 : N[i]?.getD 0 = mnTo N i
      · obtain ⟨e1, e2⟩ := cw_eq h2
        rw [e1, e2, ce_yes h2, cw_ce N i]
      · obtain ⟨e1, e2⟩ := cw_gt h1 h2
        rw [e1, e2, ce_no h2, cw_ce N i]
theorem OwnG.intsG {B : Nat} {w : World} {A : Option Addr} {n c : Nat} {L : List Int} (h : OwnG 2 1 B w A n c (L.map (Value.int .i64))) : Ints w A L := Own.ints (B := B) (n := n) (c := c) h

def nlW (k : Int) (L M : List Int) : List Int := numL L M (grN L M) k.toNat
def wdV (k : Int) (L M : List Int) : Int := if twoWB k L M = true then (if grt L M L.length = -1 then 0 else mnTo (nlW k L M) (nlW k L M).length) else 0
def wwV (k : Int) (L M : List Int) : Int := if twoWB k L M = true then (if grt L M L.length = -1 then 1 else cwTo (nlW k L M) (nlW k L M).length) else 0
theorem wd_no {k : Int} {L M : List Int} (h : twoWB k L M = false) : wdV k L M = 0 ∧ wwV k L M = 0 := ⟨by unfold wdV; rw [h]; rfl, by unfold wwV; rw [h]; rfl⟩
theorem wd_same {k : Int} {L M : List Int} (h : twoWB k L M = true) (hg : grt L M L.length = -1) : wdV k L M = 0 ∧ wwV k L M = 1 := ⟨by unfold wdV; rw [if_pos h, if_pos hg], by unfold wwV; rw [if_pos h, if_pos hg]⟩
theorem wd_diff {K : Nat} {L M : List Int} {g n : Nat} (h : twoWB K L M = true) (hL : L.length = n) (hg : grt L M n = g) :
    wdV K L M = mnTo (numL L M g K) (numL L M g K).length ∧ wwV K L M = cwTo (numL L M g K) (numL L M g K).length := by
  have e : nlW K L M = numL L M g K := by unfold nlW; rw [grN_of hL hg, Int.toNat_natCast]
  exact ⟨by unfold wdV; rw [if_pos h, if_neg (by rw [hL, hg]; omega), e], by unfold wwV; rw [if_pos h, if_neg (by rw [hL, hg]; omega), e]⟩

set_option maxHeartbeats 1000000 in
theorem sliceMin_calls (A : Option Addr) (q c : Nat) (N : List Int) (w : World) (hq : N.length = q) (h1 : 1 ≤ q) (hm : q ≤ 100) (hI : Ints w A N) :
    Calls Try.prog 66 #[.slice A q c] w fun e w' => e = .returned (.int .i64 (mnTo N q)) ∧ w = w' := by
  have HQ := Lib.hid hq
  have HI := Lib.hid hI
  obtain ⟨ad, rfl, had, hc0⟩ := hI 0 (by omega)
  clear hq hI
  go_enter Try.func66, Try.ntmps66
  have hc0' : w.cell? ad = some (.int .i64 (N[0]?.getD 0)) := by simpa [Addr.add] using hc0
  go_wp2
  go_loop [3, 4] (fun o i => ∃ j : Nat, 1 ≤ j ∧ j ≤ q ∧ i = .int .i64 j ∧ o = .int .i64 (mnTo N j)) (fun _ i => q - (intOf i).toNat)
  case atStart => exact ⟨1, Nat.le_refl _, h1, rfl, by rw [mnTo_one]⟩
  case round =>
    obtain ⟨j, hj1, hj, rfl, rfl⟩ := hrel
    by_cases hlt : j < q
    · obtain ⟨_, h0, _, hcj⟩ := HI.out j (by rw [HQ.out]; omega)
      cases h0
      have HST := Lib.hid (mnTo_step N j)
      generalize hmj : mnTo N j = mj at *
      clear hc0 hc0' hmj
      go_wp2
      go_round
      case rel => exact ⟨j + 1, by omega, by omega, by go_num, by rw [HST.out, min_if]⟩
      case measure => simp [intOf]; omega
    · obtain rfl : j = q := by omega
      go_wp2
      go_ret
      exact ⟨rfl, rfl⟩

set_option maxHeartbeats 4000000 in
theorem wayNumbers_calls (K : Nat) (ad : Addr) (n c : Nat) (L : List Int) (ad' : Addr) (d : Nat) (M : List Int) (g : Nat) (w : World) (hK : K ≤ 5) (hL : L.length = n) (hM : M.length = n) (hn : n ≤ 8) (hg : g < n) (hc : n ≤ c) (hd : n ≤ d) (hI : Ints w (some ad) L) (hJ : Ints w (some ad') M) :
    Calls Try.prog 65 #[.int .i64 K, .slice (some ad) n c, .slice (some ad') n d, .agg #[.int .i64 g, .int .i64 (L[g]?.getD 0), .int .i64 (M[g]?.getD 0)]] w fun e w' => ∃ A c', e = .returned (.slice A (numL L M g K).length c') ∧ OwnG 2 1 w.heap.size w' A (numL L M g K).length c' ((numL L M g K).map (Value.int .i64)) ∧ Below w.heap.size w w' := by
  have HL := Lib.hid hL
  have HM := Lib.hid hM
  have HI := Lib.hid hI
  have HJ := Lib.hid hJ
  obtain ⟨i0, hi, hz0, hz1, hz2⟩ := info_parts Try.infoI
  have X0 := Lib.hid (Box.new w 91 #[.int .i64 g, .int .i64 (L[g]?.getD 0), .int .i64 (M[g]?.getD 0)])
  have HB0 := Lib.hid ((Below.refl w.heap.size w).alloc (Nat.le_refl _) (.cells #[.int .i64 g, .int .i64 (L[g]?.getD 0), .int .i64 (M[g]?.getD 0)] 91))
  clear hL hM hI hJ
  obtain ⟨x0, x1, x2⟩ := X0.out.three
  go_enter Try.func65, Try.ntmps65
  go_wp2_with fail
  refine (straightNumber_calls (some ad) n c L (some ad') d M g _ _ _ HL.out HM.out hn hg hc hd (HI.out.below HB0.out) (HJ.out.below HB0.out)).mono ?_
  rintro e w1 ⟨rfl, hb1⟩
  have X1 := Lib.hid (X0.out.below hb1 X0.out.lt)
  have HB1 := Lib.hid (HB0.out.trans (hb1.mono HB0.out.size))
  have hs1 : w.heap.size + 1 ≤ w1.heap.size := by have := hb1.size; simpa using this
  have hst0 : OwnG 2 1 (w.heap.size + 1) (w1.alloc (.cells #[.int .i64 (strN L M g)] 2)) (some ⟨w1.heap.size, 0, none⟩) 1 1 [.int .i64 (strN L M g)] := OwnG.oneAt (Box.new w1 _ _) hs1
  have HST0 := Lib.hid hst0
  have hbw0 := Lib.hid (HB1.out.alloc (by omega) (.cells #[.int .i64 (strN L M g)] 2))
  have X2 := Lib.hid (X1.out.alloc (.cells #[.int .i64 (strN L M g)] 2))
  clear hb1 hst0 x0 x1 x2 X0 X1 HB0 HB1
  go_wp2_with fail
  go_loopw [9, 10, 17] (fun o _ i wr => ∃ j : Nat, j ≤ K ∧ i = .int .i64 j ∧ (∃ A c', o = .slice A (numL L M g j).length c' ∧ OwnG 2 1 (w.heap.size + 1) wr A (numL L M g j).length c' ((numL L M g j).map (Value.int .i64))) ∧ Box wr w.heap.size 91 #[.int .i64 g, .int .i64 (L[g]?.getD 0), .int .i64 (M[g]?.getD 0)] ∧ Below w.heap.size w wr) (fun _ _ i _ => K - (intOf i).toNat)
  case atStart => exact ⟨0, Nat.zero_le _, rfl, ⟨_, _, rfl, HST0.out⟩, X2.out, hbw0.out⟩
  case round =>
    obtain ⟨j, hj, rfl, ⟨A0, c0, rfl, hO⟩, hbx, hb⟩ := hrel
    have HO := Lib.hid hO
    have X := Lib.hid hbx
    have HB := Lib.hid hb
    have hsz := hb.size
    have hlt0 := hbx.lt
    have hln := numL_len L M g j
    have HIr := Lib.hid (HI.out.below hb)
    have HJr := Lib.hid (HJ.out.below hb)
    clear hO hbx hb HST0 hbw0 X2
    obtain ⟨x0, x1, x2⟩ := X.out.three
    by_cases hlt : j < K
    · by_cases hx : (j : Int) = L[g]?.getD 0
      · have HS := Lib.hid (numL_skip (M := M) (Or.inl hx))
        have ht : ((j : Int) != L[g]?.getD 0) = false := by simpa using hx
        clear hx
        go_wp2
        go_roundw
        case rel => exact ⟨j + 1, by omega, by go_num, ⟨A0, c0, by rw [HS.out], by rw [HS.out]; exact HO.out⟩, X.out, HB.out⟩
        case measure => simp [intOf]; omega
      · by_cases hy : (j : Int) = M[g]?.getD 0
        · have HS := Lib.hid (numL_skip (L := L) (Or.inr hy))
          have ht : ((j : Int) != L[g]?.getD 0) = true := by simpa using hx
          have ht' : ((j : Int) != M[g]?.getD 0) = false := by simpa using hy
          clear hx hy
          go_wp2
          go_roundw
          case rel => exact ⟨j + 1, by omega, by go_num, ⟨A0, c0, by rw [HS.out], by rw [HS.out]; exact HO.out⟩, X.out, HB.out⟩
          case measure => simp [intOf]; omega
        · have HS := Lib.hid (numL_more hx hy)
          have ht : ((j : Int) != L[g]?.getD 0) = true := by simpa using hx
          have ht' : ((j : Int) != M[g]?.getD 0) = true := by simpa using hy
          clear hx hy
          go_wp2_with fail
          refine (detourNumber_calls (some ad) n c L (some ad') d M g _ _ j _ HL.out HM.out hn hg hc hd HIr.out HJr.out).mono ?_
          rintro e w3 ⟨rfl, hb3⟩
          have X3 := Lib.hid (X.out.below hb3 X.out.lt)
          have HB3 := Lib.hid (HB.out.trans (hb3.mono HB.out.size))
          have HO3 := Lib.hid (HO.out.below hb3)
          have hs3 : w.heap.size + 1 ≤ w3.heap.size := by have := hb3.size; omega
          clear hb3 x0 x1 x2
          go_wp2_with (at_builtin; refine wpList_append_own _ rfl _ _ 28 rfl (w.heap.size + 1) 2 i0 (.int .i64 0) 1 8 Try.underlying28 hi hz0 hz1 hz2 rfl (by decide) _ _ _ rfl (HO3.out.alloc _) ⟨w3.heap.size, 0, none⟩ 1 1 [.int .i64 (detN L M g j)] rfl rfl (cell_one_new _ _ _) (by simp [Value.oneCell']) (by unfold maxLen; omega) (by omega) (by simp; omega) ?_; intro v' w4 hown' hgrow _; obtain ⟨A4, c4, rfl⟩ := ownG_shape hown'; have HO4 := Lib.hid hown'; have X4 := Lib.hid (HO3.out.grown_box hgrow X3.out (by decide)); have HB4 := Lib.hid (HB3.out.trans (HO3.out.grown_below hgrow (by omega) (by omega))); clear hown' hgrow)
          go_roundw
          case rel =>
            refine ⟨j + 1, by omega, by go_num, ⟨A4, c4, by rw [HS.out, List.length_append]; rfl, ?_⟩, X4.out, HB4.out⟩
            rw [HS.out, List.length_append, List.map_append]
            exact HO4.out
          case measure => simp [intOf]; omega
    · obtain rfl : j = K := by omega
      go_wp2
      go_ret
      exact ⟨_, _, rfl, HO.out.mono (by omega), HB.out⟩

end Go.Proofs.Ytbcgomimfgggnaa

namespace Go.Proofs.Ytbcgomimfgggnaa
open Go.RowKit
open Go.RowKit (wrap64)
set_option linter.unusedVariables false
set_option maxRecDepth 100000

set_option maxHeartbeats 2000000 in
theorem shortestOf_same (k : Int) (A : Option Addr) (n c : Nat) (L : List Int) (B : Option Addr) (d : Nat) (M : List Int) (w : World) (hs : stateB k L = true) (hL : L.length = n) (hM : M.length = n) (hg : grt L M n = -1) (hI : Ints w A L) (hJ : Ints w B M) :
    Calls Try.prog 41 #[.int .i64 k, .slice A n c, .slice B n d] w fun e w' => e = .returned (.tuple #[.int .i64 0, .int .i64 1]) ∧ Below w.heap.size w w' := by
  have HLM := grt_lists hL hM hg
  subst HLM
  clear hg hM
  go_enter Try.func41, Try.ntmps41
  go_wp2_with fail
  refine (partingOf_same A n c k L B d _ hs hL hI hJ).mono ?_
  rintro e w2 ⟨rfl, hb2⟩
  have HB2 := Lib.hid (hb2.alloc hb2.size (.cells #[.int .i64 0, .int .i64 0, .int .i64 0] 91))
  clear hb2
  go_wp2
  go_ret2
  exact ⟨rfl, HB2.out⟩

set_option maxHeartbeats 4000000 in
theorem shortestOf_diff (K : Nat) (ad : Addr) (n c : Nat) (L : List Int) (ad' : Addr) (d : Nat) (M : List Int) (g : Nat) (w : World) (hK : K ≤ 5) (hs : stateB K L = true) (hs' : stateB K M = true) (hL : L.length = n) (hM : M.length = n) (hg : grt L M n = g) (hc : n ≤ c) (hd : n ≤ d) (hI : Ints w (some ad) L) (hJ : Ints w (some ad') M) :
    Calls Try.prog 41 #[.int .i64 K, .slice (some ad) n c, .slice (some ad') n d] w fun e w' => e = .returned (.tuple #[.int .i64 (mnTo (numL L M g K) (numL L M g K).length), .int .i64 (cwTo (numL L M g K) (numL L M g K).length)]) ∧ Below w.heap.size w w' := by
  have HL := Lib.hid hL
  have HM := Lib.hid hM
  have hf := state_facts hs hL
  obtain ⟨hgn, _⟩ := grt_at n hg
  have hln := numL_len L M g K
  obtain ⟨N, hN⟩ : ∃ N, numL L M g K = N := ⟨_, rfl⟩
  obtain ⟨q, hq⟩ : ∃ q, N.length = q := ⟨_, rfl⟩
  obtain ⟨mn, hmn⟩ : ∃ m, mnTo N q = m := ⟨_, rfl⟩
  rw [hN, hq] at hln
  rw [hN, cw_ce, hq, hmn]
  have HN := Lib.hid hN
  have HQ := Lib.hid hq
  have HMN := Lib.hid hmn
  clear hN hq hmn
  go_enter Try.func41, Try.ntmps41
  go_wp2_with fail
  refine (partingOf_diff (some ad) n c K L (some ad') d M g _ hs hs' hL hM hg hI hJ).mono ?_
  rintro e w2 ⟨rfl, hb2⟩
  have HB2 := Lib.hid (hb2.alloc hb2.size (.cells #[.int .i64 g, .int .i64 (L[g]?.getD 0), .int .i64 (M[g]?.getD 0)] 91))
  have HI2 := Lib.hid ((hI.below hb2).below ((Below.refl _ _).alloc (Nat.le_refl _) (.cells #[.int .i64 g, .int .i64 (L[g]?.getD 0), .int .i64 (M[g]?.getD 0)] 91)))
  have HJ2 := Lib.hid ((hJ.below hb2).below ((Below.refl _ _).alloc (Nat.le_refl _) (.cells #[.int .i64 g, .int .i64 (L[g]?.getD 0), .int .i64 (M[g]?.getD 0)] 91)))
  have Y2 := Lib.hid (Box.new w2 91 #[.int .i64 g, .int .i64 (L[g]?.getD 0), .int .i64 (M[g]?.getD 0)])
  clear hb2 hL hM hg hs hs'
  obtain ⟨y0, y1, y2⟩ := Y2.out.three
  go_wp2_with fail
  refine (wayNumbers_calls K ad n c L ad' d M g _ hK HL.out HM.out (by omega) hgn hc hd HI2.out HJ2.out).mono ?_
  rintro e w3 ⟨A3, c3, rfl, hO, hb3⟩
  rw [HN.out, HQ.out]
  rw [HN.out, HQ.out] at hO
  have HIN := Lib.hid (OwnG.intsG hO)
  have HB3 := Lib.hid (HB2.out.trans (hb3.mono HB2.out.size))
  clear hb3 hO y0 y1 y2 Y2 HI2 HJ2 HB2
  go_wp2_with fail
  refine (sliceMin_calls A3 q c3 N _ HQ.out (by omega) (by omega) HIN.out).mono ?_
  rintro e w4 ⟨rfl, rfl⟩
  rw [HMN.out]
  go_wp2
  go_loop [12, 14, 32] (fun s _ i => ∃ j : Nat, j ≤ q ∧ i = .int .i64 j ∧ s = .int .i64 (ceTo N mn j)) (fun _ _ i => q - (intOf i).toNat)
  case atStart => exact ⟨0, Nat.zero_le _, rfl, rfl⟩
  case round =>
    obtain ⟨j, hj, rfl, rfl⟩ := hrel
    have hbd := ce_bd N mn j
    by_cases hlt : j < q
    · obtain ⟨ad3, rfl, had3, hcj⟩ := HIN.out j (by rw [HQ.out]; omega)
      by_cases he : N[j]?.getD 0 = mn
      · have ht : (N[j]?.getD 0 == mn) = true := by simpa using he
        have HST := Lib.hid (ce_yes he)
        clear he
        generalize ceTo N mn j = s at *
        go_wp2
        go_round
        case rel => exact ⟨j + 1, by omega, by go_num, by rw [HST.out]⟩
        case measure => simp [intOf]; omega
      · have ht : (N[j]?.getD 0 == mn) = false := by simpa using he
        have HST := Lib.hid (ce_no he)
        clear he
        generalize ceTo N mn j = s at *
        go_wp2
        go_round
        case rel => exact ⟨j + 1, by omega, by go_num, by rw [HST.out]⟩
        case measure => simp [intOf]; omega
    · obtain rfl : j = q := by omega
      go_wp2
      go_ret2
      exact ⟨rfl, HB3.out⟩

set_option maxHeartbeats 4000000 in
theorem implWordDistance_calls (k : Int) (A : Option Addr) (n c : Nat) (L : List Int) (B : Option Addr) (m d : Nat) (M : List Int) (w : World) (hL : L.length = n) (hn : n ≤ 1048576) (hI : Ints w A L) (hM : M.length = m) (hm : m ≤ 1048576) (hJ : Ints w B M) (hc : n ≤ c) (hd : m ≤ d) :
    Calls Try.prog 12 #[.int .i64 k, .slice A n c, .slice B m d] w fun e w' => e = .returned (.tuple #[.int .i64 (wdV k L M), .int .i64 (wcode2 k L M)]) ∧ Below w.heap.size w w' := by
  have HL := Lib.hid hL
  have HM := Lib.hid hM
  have X0 := Lib.hid (Box.new w 28 #[.slice A n c, .slice B m d])
  have HB0 := Lib.hid ((Below.refl w.heap.size w).alloc (Nat.le_refl _) (.cells #[.slice A n c, .slice B m d] 28))
  have HI0 := Lib.hid (hI.below HB0.out)
  have HJ0 := Lib.hid (hJ.below HB0.out)
  clear hI hJ
  by_cases h2 : twoWB k L M = true
  · obtain rfl := twoWB_len h2 hL hM
    have hs := (twoWB_of h2).1
    have hs' := (twoWB_of h2).2.1
    have hf := state_facts hs hL
    obtain ⟨K, rfl⟩ := Int.eq_ofNat_of_zero_le (a := k) (by omega)
    have hz := wcode2_yes h2
    have HZ := Lib.hid hz
    have hz' : (wcode2 K L M != 0) = false := by simpa using hz
    rcases grt_casesD L M n with hg | ⟨g, hg⟩
    · have E1 := Lib.hid (wd_same h2 (by rw [HL.out]; exact hg)).1
      clear hL hM hz h2
      go_enter Try.func12, Try.ntmps12
      go_wp2_with fail
      refine (codeOfWords_two w.heap.size K A n c L B n d M _ X0.out HL.out hn HI0.out HM.out hn HJ0.out).mono ?_
      rintro e w1 ⟨rfl, hb1⟩
      have HB1 := Lib.hid (HB0.out.trans (hb1.mono HB0.out.size))
      have HI1 := Lib.hid (HI0.out.below hb1)
      have HJ1 := Lib.hid (HJ0.out.below hb1)
      clear hb1
      go_wp2_with fail
      refine (shortestOf_same K A n c L B d M _ hs HL.out HM.out hg HI1.out HJ1.out).mono ?_
      rintro e w2 ⟨rfl, hb2⟩
      have HB2 := Lib.hid (HB1.out.trans (hb2.mono HB1.out.size))
      clear hb2
      go_wp2
      go_ret2
      exact ⟨ret_twoE E1.out HZ.out, HB2.out⟩
    · have E1 := Lib.hid (wd_diff h2 hL hg).1
      obtain ⟨hgn, _⟩ := grt_at n hg
      obtain ⟨ad, rfl, had, _⟩ := HI0.out 0 (by rw [HL.out]; omega)
      obtain ⟨ad', rfl, had', _⟩ := HJ0.out 0 (by rw [HM.out]; omega)
      clear hL hM hz h2
      go_enter Try.func12, Try.ntmps12
      go_wp2_with fail
      refine (codeOfWords_two w.heap.size K (some ad) n c L (some ad') n d M _ X0.out HL.out hn HI0.out HM.out hn HJ0.out).mono ?_
      rintro e w1 ⟨rfl, hb1⟩
      have HB1 := Lib.hid (HB0.out.trans (hb1.mono HB0.out.size))
      have HI1 := Lib.hid (HI0.out.below hb1)
      have HJ1 := Lib.hid (HJ0.out.below hb1)
      clear hb1
      go_wp2_with fail
      refine (shortestOf_diff K ad n c L ad' d M g _ (by omega) hs hs' HL.out HM.out hg hc hd HI1.out HJ1.out).mono ?_
      rintro e w2 ⟨rfl, hb2⟩
      have HB2 := Lib.hid (HB1.out.trans (hb2.mono HB1.out.size))
      clear hb2
      rw [← E1.out]
      generalize (mnTo (numL L M g K) (numL L M g K).length) = z1 at *
      generalize (cwTo (numL L M g K) (numL L M g K).length) = z2 at *
      clear E1
      go_wp2
      go_ret2
      exact ⟨ret_twoE rfl HZ.out, HB2.out⟩
  · have h2' : twoWB k L M = false := by simpa using h2
    have hz := wcode2_no h2'
    have hz' : (wcode2 k L M != 0) = true := by rw [hz]; rfl
    have E1 := Lib.hid (wd_no h2').1
    clear hL hM h2 hz
    go_enter Try.func12, Try.ntmps12
    go_wp2_with fail
    refine (codeOfWords_two w.heap.size k A n c L B m d M _ X0.out HL.out hn HI0.out HM.out hm HJ0.out).mono ?_
    rintro e w1 ⟨rfl, hb1⟩
    have HB1 := Lib.hid (HB0.out.trans (hb1.mono HB0.out.size))
    clear hb1
    go_wp2
    go_ret2
    exact ⟨ret_twoE E1.out rfl, HB1.out⟩

end Go.Proofs.Ytbcgomimfgggnaa

namespace Go.Proofs.Ytbcgomimfgggnaa
open Go.RowKit
set_option linter.unusedVariables false
set_option maxRecDepth 100000

/-- The triangle's inequalities. -/
theorem dR_tri : ∀ (n : Nat) (L M : List Int), L.length = n → M.length = n → pegsOk L → pegsOk M → ∀ a : Int, 0 ≤ a ∧ a ≤ 2 →
    dR L M ≤ distP L a + distP M a ∧ distP L a ≤ dR L M + distP M a ∧ distP M a ≤ dR L M + distP L a
  | 0, L, M, hL, hM, _, _, a, _ => by
    obtain rfl : L = [] := List.length_eq_zero_iff.1 hL
    obtain rfl : M = [] := List.length_eq_zero_iff.1 hM
    exact ⟨Int.le_refl _, Int.le_refl _, Int.le_refl _⟩
  | n + 1, L, M, hL, hM, hpL, hpM, a, ha => by
    obtain ⟨L', u, rfl, hl⟩ := snoc_of hL
    obtain ⟨M', v, rfl, hm⟩ := snoc_of hM
    obtain ⟨hp, hu⟩ := pegs_snoc hpL
    obtain ⟨hq, hv⟩ := pegs_snoc hpM
    have hml : M'.length = L'.length := by omega
    have ih := dR_tri n L' M' hl hm hp hq
    have p1 := pow2_one n
    have dl := fun b => distP_lt L' b
    have dm := fun b => distP_lt M' b
    have nl := fun b => distP_nonneg L' b
    have nm := fun b => distP_nonneg M' b
    rw [hl] at dl
    rw [hm] at dm
    have tl := distP_two n L' hl hp
    have tm := distP_two n M' hm hq
    by_cases d : u = v
    · subst d
      rw [dR_same hml, distP_app, distP_app, aft1, hl, hm]
      by_cases c : u = a
      · subst c
        rw [if_pos rfl, if_pos rfl]
        have := ih u hu
        omega
      · rw [if_neg c, if_neg c]
        have := ih (3 - a - u) (by omega)
        omega
    · rw [dR_diff hml d, distP_app, distP_app, aft1, aft1, hl, hm]
      by_cases c : u = a
      · subst c
        rw [if_pos rfl, if_pos rfl, if_neg (fun e => d e.symm), if_neg (fun e => d e.symm)]
        rw [show (3 : Int) - u - v = 3 - u - v from rfl]
        have e1 := dl (3 - u - v)
        have e2 := nl u
        have e3 := nm (3 - u - v)
        have e4 := dl u
        have e5 := nl (3 - u - v)
        have e6 := nl v
        have e7 := nm u
        have e8 := dm (3 - u - v)
        have t1 := tl (3 - u - v) u (by omega) hu (by omega)
        have t2 := tl v u hv hu (fun e => d e.symm)
        omega
      · by_cases c2 : v = a
        · subst c2
          rw [if_neg c, if_neg c, if_pos rfl, if_pos rfl]
          rw [show (3 : Int) - v - u = 3 - u - v by omega]
          have e1 := dm (3 - u - v)
          have e2 := nm v
          have e3 := nl (3 - u - v)
          have e4 := dm v
          have e5 := nm (3 - u - v)
          have e6 := nm u
          have e7 := nl v
          have e8 := dl (3 - u - v)
          have t1 := tm (3 - u - v) v (by omega) hv (by omega)
          have t2 := tm u v hu hv d
          omega
        · rw [if_neg c, if_neg c, if_neg c2, if_neg c2]
          rw [show 3 - a - u = v by omega, show 3 - a - v = u by omega]
          have e1 := dl v
          have e2 := nl (3 - u - v)
          have e3 := nm (3 - u - v)
          have e4 := dm u
          have e5 := nl v
          have e6 := nm u
          have t1 := tm (3 - u - v) u (by omega) hu (by omega)
          have t2 := tl (3 - u - v) v (by omega) hv (by omega)
          omega

/-- Three letters, each once. -/
def okT (t : Int × Int × Int) : Prop := (0 ≤ t.1 ∧ t.1 ≤ 2) ∧ (0 ≤ t.2.1 ∧ t.2.1 ≤ 2) ∧ (0 ≤ t.2.2 ∧ t.2.2 ≤ 2) ∧ t.1 ≠ t.2.1 ∧ t.1 ≠ t.2.2 ∧ t.2.1 ≠ t.2.2
theorem peg_cases {a : Int} (h : 0 ≤ a ∧ a ≤ 2) : a = 0 ∨ a = 1 ∨ a = 2 := by omega
theorem ok_exch {t : Int × Int × Int} {a : Int} (h : okT t) : okT (exch t a) := by
  obtain ⟨h1, h2, h3, h4, h5, h6⟩ := h
  unfold exch
  split
  · exact ⟨h1, h3, h2, h5, h4, fun e => h6 e.symm⟩
  · split
    · exact ⟨h3, h2, h1, fun e => h6 e.symm, fun e => h5 e.symm, fun e => h4 e.symm⟩
    · exact ⟨h2, h1, h3, fun e => h4 e.symm, h6, h5⟩
theorem ok_ltr : ∀ S : List Int, okT (ltr S)
  | [] => by refine ⟨?_, ?_, ?_, ?_, ?_, ?_⟩ <;> decide
  | x :: r => ok_exch (ok_ltr r)
theorem sel_bd {t : Int × Int × Int} {a : Int} (h : okT t) : 0 ≤ selT t a ∧ selT t a ≤ 2 := by
  obtain ⟨h1, h2, h3, _⟩ := h
  unfold selT
  split
  · exact h1
  · split
    · exact h2
    · exact h3
theorem sel_inj {t : Int × Int × Int} {a b : Int} (h : okT t) (ha : 0 ≤ a ∧ a ≤ 2) (hb : 0 ≤ b ∧ b ≤ 2) : selT t a = selT t b ↔ a = b := by
  obtain ⟨h1, h2, h3, h4, h5, h6⟩ := h
  rcases peg_cases ha with rfl | rfl | rfl <;> rcases peg_cases hb with rfl | rfl | rfl <;> simp [selT, h4, h5, h6, h4.symm, h5.symm, h6.symm]
theorem sel_exch (t : Int × Int × Int) {u a : Int} (hu : 0 ≤ u ∧ u ≤ 2) (ha : 0 ≤ a ∧ a ≤ 2) : selT (exch t u) (aft [u] a) = selT t a := by
  rw [aft1]
  rcases peg_cases ha with rfl | rfl | rfl <;> rcases peg_cases hu with rfl | rfl | rfl <;> simp [selT, exch]
theorem sel_third {t : Int × Int × Int} {u v : Int} (h : okT t) (hu : 0 ≤ u ∧ u ≤ 2) (hv : 0 ≤ v ∧ v ≤ 2) (hne : u ≠ v) : 3 - selT t u - selT t v = selT t (3 - u - v) := by
  obtain ⟨h1, h2, h3, h4, h5, h6⟩ := h
  rcases peg_cases hu with rfl | rfl | rfl <;> rcases peg_cases hv with rfl | rfl | rfl <;> simp [selT] at hne ⊢ <;> omega
theorem aftT_bd {u a : Int} (hu : 0 ≤ u ∧ u ≤ 2) (ha : 0 ≤ a ∧ a ≤ 2) : 0 ≤ aft [u] a ∧ aft [u] a ≤ 2 := by
  rw [aft1]
  split <;> omega
theorem wos_mid (L S : List Int) (u : Int) : (wosL (L ++ u :: S))[L.length]?.getD 0 = selT (ltr S) u := by
  rw [wosL_at _ _ (by simp)]
  simp
/-- The distance of the lower letters to a letter is that of the lower discs to the peg that it stands for. -/
theorem toE_wos : ∀ (n : Nat) (L S : List Int), L.length = n → pegsOk L → ∀ a : Int, 0 ≤ a ∧ a ≤ 2 → toE (wosL (L ++ S)) (selT (ltr S) a) n = distP L a
  | 0, L, S, hL, _, a, _ => by
    obtain rfl : L = [] := List.length_eq_zero_iff.1 hL
    rfl
  | n + 1, L, S, hL, hp, a, ha => by
    obtain ⟨L', u, rfl, hl⟩ := snoc_of hL
    obtain ⟨hp', hu⟩ := pegs_snoc hp
    have hm := wos_mid L' S u
    rw [hl] at hm
    have ih := toE_wos n L' (u :: S) hl hp' (aft [u] a) (aftT_bd hu ha)
    rw [show ltr (u :: S) = exch (ltr S) u from rfl, sel_exch (ltr S) hu ha] at ih
    rw [List.append_assoc, List.singleton_append, distP_app, hl]
    by_cases c : u = a
    · subst c
      rw [toE_eq hm, ih, if_pos rfl, Int.add_zero]
    · rw [toE_ne (by rw [hm]; exact fun e => c ((sel_inj (ok_ltr S) hu ha).1 e)), ih, if_neg c]
theorem grt_wos : ∀ (n : Nat) (L M S : List Int), L.length = n → M.length = n → pegsOk L → pegsOk M → grt (wosL (L ++ S)) (wosL (M ++ S)) n = grt L M n
  | 0, L, M, S, _, _, _, _ => rfl
  | n + 1, L, M, S, hL, hM, hp, hq => by
    obtain ⟨L', u, rfl, hl⟩ := snoc_of hL
    obtain ⟨M', v, rfl, hm⟩ := snoc_of hM
    obtain ⟨hp', hu⟩ := pegs_snoc hp
    obtain ⟨hq', hv⟩ := pegs_snoc hq
    have h1 := wos_mid L' S u
    have h2 := wos_mid M' S v
    have e1 := at_end L' u
    have e2 := at_end M' v
    rw [hl] at h1 e1
    rw [hm] at h2 e2
    rw [List.append_assoc, List.append_assoc, List.singleton_append, List.singleton_append]
    by_cases c : u = v
    · subst c
      rw [grt_step_eq (h1.trans h2.symm), grt_step_eq (e1.trans e2.symm), grt_wos n L' M' (u :: S) hl hm hp' hq', grt_app (by omega) n (by omega)]
    · rw [grt_step_ne (by rw [h1, h2]; exact fun e => c ((sel_inj (ok_ltr S) hu hv).1 e)), grt_step_ne (by rw [e1, e2]; exact c)]
theorem pegs_take {L : List Int} (h : pegsOk L) (k : Nat) : pegsOk (L.take k) := fun x hx => h x (List.mem_of_mem_take hx)
theorem pegs_at {L : List Int} (h : pegsOk L) {k : Nat} (hk : k < L.length) : 0 ≤ L[k]?.getD 0 ∧ L[k]?.getD 0 ≤ 2 := by
  rw [List.getElem?_eq_getElem hk, Option.getD_some]
  exact h _ (List.getElem_mem hk)
theorem num_three {W V : List Int} {g : Nat} (hi : 0 ≤ W[g]?.getD 0 ∧ W[g]?.getD 0 ≤ 2) (hj : 0 ≤ V[g]?.getD 0 ∧ V[g]?.getD 0 ≤ 2) (hne : W[g]?.getD 0 ≠ V[g]?.getD 0) :
    numL W V g 3 = [strN W V g, detN W V g (3 - W[g]?.getD 0 - V[g]?.getD 0)] := by
  rcases peg_cases hi with e | e | e <;> rcases peg_cases hj with e' | e' | e' <;> rw [e, e'] at hne ⊢ <;> first | exact absurd rfl hne | simp [numL, e, e']
/-- The distance of the words. -/
theorem word_dist {L M : List Int} (hl : M.length = L.length) (hp : pegsOk L) (hq : pegsOk M) (h : twoWB 3 (wosL L) (wosL M) = true) : wdV 3 (wosL L) (wosL M) = dR L M := by
  have hG : grt (wosL L) (wosL M) L.length = grt L M L.length := by
    have := grt_wos L.length L M [] rfl hl hp hq
    rwa [List.append_nil, List.append_nil] at this
  have hWl : (wosL L).length = L.length := wosL_len L
  by_cases c : grt L M L.length = -1
  · rw [(wd_same h (by rw [hWl, hG]; exact c)).1]
    unfold dR
    rw [if_pos c]
  · obtain ⟨g, hg⟩ : ∃ g : Nat, grt L M L.length = g := ⟨(grt L M L.length).toNat, by have := (grt_bd L M L.length).1; omega⟩
    have hgl : g < L.length := by have := (grt_bd L M L.length).2; omega
    have hne := grt_ne L M _ g hg
    have hu := pegs_at hp hgl
    have hv := pegs_at hq (k := g) (by omega)
    have hS := drop_same rfl hl hg
    have e1 : (wosL L)[g]?.getD 0 = selT (ltr (L.drop (g + 1))) (L[g]?.getD 0) := wosL_at L g hgl
    have e2 : (wosL M)[g]?.getD 0 = selT (ltr (L.drop (g + 1))) (M[g]?.getD 0) := by rw [hS]; exact wosL_at M g (by omega)
    have sL := split_at' hgl
    have sM := split_at' (L := M) (D := g) (by omega)
    have tL : (L.take g).length = g := by rw [List.length_take]; omega
    have tM : (M.take g).length = g := by rw [List.length_take]; omega
    have hok := ok_ltr (L.drop (g + 1))
    have kL : ∀ a : Int, 0 ≤ a ∧ a ≤ 2 → toE (wosL L) (selT (ltr (L.drop (g + 1))) a) g = distP (L.take g) (aft [L[g]?.getD 0] a) := by
      intro a ha
      have := toE_wos g (L.take g) (L[g]?.getD 0 :: L.drop (g + 1)) tL (pegs_take hp g) (aft [L[g]?.getD 0] a) (aftT_bd hu ha)
      rw [← sL, show ltr (L[g]?.getD 0 :: L.drop (g + 1)) = exch (ltr (L.drop (g + 1))) (L[g]?.getD 0) from rfl, sel_exch _ hu ha] at this
      exact this
    have kM : ∀ a : Int, 0 ≤ a ∧ a ≤ 2 → toE (wosL M) (selT (ltr (L.drop (g + 1))) a) g = distP (M.take g) (aft [M[g]?.getD 0] a) := by
      intro a ha
      have := toE_wos g (M.take g) (M[g]?.getD 0 :: M.drop (g + 1)) tM (pegs_take hq g) (aft [M[g]?.getD 0] a) (aftT_bd hv ha)
      rw [← sM, show ltr (M[g]?.getD 0 :: M.drop (g + 1)) = exch (ltr (M.drop (g + 1))) (M[g]?.getD 0) from rfl, sel_exch _ hv ha, ← hS] at this
      exact this
    have i1 := sel_bd (a := L[g]?.getD 0) hok
    have i2 := sel_bd (a := M[g]?.getD 0) hok
    have i3 : selT (ltr (L.drop (g + 1))) (L[g]?.getD 0) ≠ selT (ltr (L.drop (g + 1))) (M[g]?.getD 0) := fun e => hne ((sel_inj hok hu hv).1 e)
    have hn := num_three (W := wosL L) (V := wosL M) (g := g) (by rw [e1]; exact i1) (by rw [e2]; exact i2) (by rw [e1, e2]; exact i3)
    have hd := (wd_diff (K := 3) (n := L.length) (g := g) h hWl (by rw [hG]; exact hg)).1
    have e3 : strN (wosL L) (wosL M) g = oneN L M g := by
      unfold strN oneN
      rw [e1, e2, kL _ hv, kM _ hu, aft1, aft1, if_neg hne, if_neg (fun e => hne e.symm), show 3 - M[g]?.getD 0 - L[g]?.getD 0 = 3 - L[g]?.getD 0 - M[g]?.getD 0 by omega]
    have e4 : detN (wosL L) (wosL M) g (3 - (wosL L)[g]?.getD 0 - (wosL M)[g]?.getD 0) = twoN L M g := by
      unfold detN twoN
      rw [e1, e2, sel_third hok hu hv hne, kL _ (by omega), kM _ (by omega), aft1, aft1, if_neg (by omega), if_neg (by omega),
        show 3 - (3 - L[g]?.getD 0 - M[g]?.getD 0) - L[g]?.getD 0 = M[g]?.getD 0 by omega, show 3 - (3 - L[g]?.getD 0 - M[g]?.getD 0) - M[g]?.getD 0 = L[g]?.getD 0 by omega]
    rw [show ((3 : Nat) : Int) = 3 from rfl] at hd
    rw [hd, hn, e3, e4]
    unfold dR
    rw [if_neg c, hg, Int.toNat_natCast]
    show min (min (oneN L M g) (oneN L M g)) (twoN L M g) = _
    omega
/-- States of three pegs and at most six discs. -/
theorem top_state {L : List Int} (hp : pegsOk L) (hl : L.length ≤ 6) : stateB 3 L = true := by
  refine stateB_yes (fitsB_yes ⟨by omega, by omega, by omega, by omega, ?_⟩) ?_
  · rw [Int.toNat_natCast]
    have : L.length = 0 ∨ L.length = 1 ∨ L.length = 2 ∨ L.length = 3 ∨ L.length = 4 ∨ L.length = 5 ∨ L.length = 6 := by omega
    rcases this with e | e | e | e | e | e | e <;> rw [e] <;> decide
  · intro j hj
    have := pegs_at hp hj
    rw [List.getD_eq_getElem?_getD]
    exact inB_yes this.1 (by omega)
theorem wos_pegs : ∀ L : List Int, pegsOk (wosL L)
  | [], x, hx => absurd hx (by simp [wosL])
  | y :: r, x, hx => by
    rw [wosL, List.mem_cons] at hx
    rcases hx with rfl | hx
    · exact sel_bd (ok_ltr r)
    · exact wos_pegs r x hx
/-- What the law asks of both states. -/
theorem top_facts {L M : List Int} (hp : pegsOk L) (hq : pegsOk M) (hl : M.length = L.length) (h6 : L.length ≤ 6) :
    nwV 0 min 3 L 3 M = dR L M ∧ nbC 0 3 L 3 M = 0 ∧ code1 3 L = 0 ∧ code1 3 M = 0 ∧ woV 3 L = wosL L ∧ woV 3 M = wosL M ∧
    wdV 3 (wosL L) (wosL M) = dR L M ∧ wcode2 3 (wosL L) (wosL M) = 0 ∧ code2 3 L 3 M = 0 ∧
    ∀ a : Int, 0 ≤ a ∧ a ≤ 2 → codeW 3 L a = 0 ∧ codeW 3 M a = 0 ∧ dpV 3 L a = distP L a ∧ dpV 3 M a = distP M a ∧
      dR L M ≤ distP L a + distP M a ∧ distP L a ≤ dR L M + distP M a ∧ distP M a ≤ dR L M + distP L a := by
  have s1 := top_state hp h6
  have s2 := top_state hq (by omega)
  have hc : code2 3 L 3 M = 0 := by unfold code2; rw [if_pos ⟨s1, s2⟩, if_pos ⟨rfl, rfl, hl.symm⟩]
  have c1 : code1 3 L = 0 := by unfold code1; rw [if_pos s1, if_pos rfl]
  have c2 : code1 3 M = 0 := by unfold code1; rw [if_pos s2, if_pos rfl]
  have hw : twoWB 3 (wosL L) (wosL M) = true := by
    unfold twoWB
    rw [top_state (wos_pegs L) (by rw [wosL_len]; exact h6), top_state (wos_pegs M) (by rw [wosL_len]; omega), wosL_len, wosL_len, hl]
    simp
  refine ⟨?_, ?_, c1, c2, ?_, ?_, word_dist hl hp hq hw, ?_, hc, ?_⟩
  · unfold nwV dR
    rw [if_pos hc]
  · unfold nbC
    rw [if_pos hc]
    split <;> rfl
  · unfold woV; rw [if_pos c1]
  · unfold woV; rw [if_pos c2]
  · unfold wcode2; rw [if_pos hw]
  · intro a ha
    have k1 : codeW 3 L a = 0 := by unfold codeW; rw [if_pos c1, if_pos (inB_yes ha.1 ha.2)]
    have k2 : codeW 3 M a = 0 := by unfold codeW; rw [if_pos c2, if_pos (inB_yes ha.1 ha.2)]
    exact ⟨k1, k2, by unfold dpV; rw [if_pos k1], by unfold dpV; rw [if_pos k2], dR_tri L.length L M rfl hl hp hq a ha⟩

end Go.Proofs.Ytbcgomimfgggnaa

namespace Go.Proofs.Ytbcgomimfgggnaa
open Go.RowKit
set_option linter.unusedVariables false
set_option maxRecDepth 100000

/-- The length that a slice names. -/
def lnW : Value → Nat
  | .slice _ n _ => n
  | _ => 0
theorem OwnG.drewW {e size B n c : Nat} {w : World} {A : Option Addr} {xs : List Value} (h : OwnG e size B w A n c xs) : OwnG e size B w.drew A n c xs := h
theorem OwnG.otherW {e e' size size' B B' : Nat} {w w1 : World} {o : Obj} {A A' : Option Addr} {n c n' c' : Nat} {xs xs' : List Value} (h : OwnG e size B w A n c xs) (h' : OwnG e' size' B' w A' n' c' xs') (hg : (w.alloc o).grownBy w1 (Value.slice A' n' c').ownBlock) (ht : e ≠ e') : OwnG e size B w1 A n c xs := by
  refine (h.alloc o).kept hg ?_
  rintro g rfl hr
  rcases h'.form with ⟨rfl, rfl, rfl⟩ | ⟨g', rfl, _, _⟩
  · simp [Value.ownBlock] at hr
  · simp only [Value.ownBlock, Option.some.injEq] at hr
    subst hr
    rcases h.2 with ⟨hv, _⟩ | ⟨g1, cap, cur, hv, _, hh, _⟩
    · simp at hv
    · injection hv with h1
      injection h1 with h1
      injection h1 with h1
      subst h1
      rcases h'.2 with ⟨hv2, _⟩ | ⟨g2, cap2, cur2, hv2, _, hh2, _⟩
      · simp at hv2
      · injection hv2 with h1
        injection h1 with h1
        injection h1 with h1
        subst h1
        rw [hh] at hh2
        injection hh2 with hh2
        injection hh2 with _ h3
        exact ht h3
theorem grown_undrewW {w w' : World} {r : Option Nat} (h : w.drew.grownBy w' r) : w.grownBy w' r := ⟨h.os, h.tape, h.output, h.size, h.block⟩
theorem own_of_row {w : World} {g : Nat} {L : List Int} {B n : Nat} (h : Row w g 2 L) (hB : B ≤ g) (hL : L.length = n) (hn : n ≤ 8) : OwnG 2 1 B w (some ⟨g, 0, none⟩) n n (L.map (Value.int .i64)) := by
  subst hL
  exact Row.own h hB (by omega)
theorem intsW {B : Nat} {w : World} {A : Option Addr} {n c : Nat} {L : List Int} (h : OwnG 2 1 B w A n c (L.map (Value.int .i64))) : Ints w A L := Own.ints (B := B) (n := n) (c := c) h

theorem neW {e e' size size' B B' n c n' c' g g' : Nat} {w : World} {xs xs' : List Value} (h : OwnG e size B w (some ⟨g, 0, none⟩) n c xs) (h' : OwnG e' size' B' w (some ⟨g', 0, none⟩) n' c' xs') (ht : e ≠ e') : g ≠ g' := by
  rintro rfl
  rcases h.2 with ⟨hv, _⟩ | ⟨g1, cap, cur, hv, _, hh, _⟩
  · simp at hv
  · injection hv with h1
    injection h1 with h1
    injection h1 with h1
    subst h1
    rcases h'.2 with ⟨hv2, _⟩ | ⟨g2, cap2, cur2, hv2, _, hh2, _⟩
    · simp at hv2
    · injection hv2 with h1
      injection h1 with h1
      injection h1 with h1
      subst h1
      rw [hh] at hh2
      injection hh2 with hh2
      injection hh2 with _ h3
      exact ht h3

theorem ownAtW {B : Nat} {w : World} {A : Option Addr} {n c : Nat} {L : List Int} (h : OwnG 2 1 B w A n c (L.map (Value.int .i64))) (hL : L.length = n) {k : Nat} (hk : k < n) : ∃ g, A = some ⟨g, 0, none⟩ ∧ B ≤ g ∧ g < w.heap.size ∧ w.cell? ⟨g, k, none⟩ = some (.int .i64 (L[k]?.getD 0)) := by
  obtain ⟨g, h1, h2, h3, h4⟩ := OwnG.cell h k (by omega)
  refine ⟨g, h1, h2, h3, ?_⟩
  rw [h4, List.getElem?_map, List.getElem?_eq_getElem (by omega)]
  rfl

set_option maxHeartbeats 4000000 in
theorem l02Way_calls (A : Option Addr) (n c : Nat) (L : List Int) (a : Int) (w : World) (hL : L.length = n) (hn : n ≤ 8) (hA : A = none → c = 0) (hI : Ints w A L) (hp : pegsOk L) (ha : 0 ≤ a ∧ a ≤ 2) :
    Calls Try.prog 50 #[.slice A n c, .int .i64 a] w fun e w' => ∃ A' c', e = .returned (.slice A' (wayL L a).length c') ∧ OwnM w.heap.size w' A' (wayL L a).length c' (wayL L a) ∧ Below w.heap.size w w' := by
  obtain ⟨i0, hi, hz0, hz1, hz2⟩ := info_parts Try.infoM
  have HL := Lib.hid hL
  have HP := Lib.hid hp
  have HWL := Lib.hid (show (wayL L a).length ≤ 255 from wayL_bd (by omega))
  clear hL hp
  go_enter Try.func50, Try.ntmps50
  go_wp2_with fail
  refine (l01Own_calls A n c L _ HL.out (by omega) hA hI).mono ?_
  rintro e w1 ⟨An, cn, rfl, hO, hb⟩
  have HO0 := Lib.hid (show OwnG 2 1 w.heap.size w1 An n cn (L.map (Value.int .i64)) from hO)
  have HB0 := Lib.hid hb
  have hs1 := hb.size
  clear hO hb hI
  go_wp2_with fail
  go_loopw [6, 7, 8] (fun o _ _ wr => ∃ (Lc : List Int) (M : List Mv) (A' : Option Addr) (q c' : Nat), o = .slice A' q c' ∧ Hid (wayL L a = M ++ wayL Lc a) ∧ Hid (Lc.length = n) ∧ Hid (pegsOk Lc) ∧ OwnM w.heap.size wr A' q c' M ∧ OwnG 2 1 w.heap.size wr An n cn (Lc.map (Value.int .i64)) ∧ Below w.heap.size w wr) (fun o _ _ _ => 255 - lnW o)
  case atStart =>
    have e2 := Box.new w1 69 #[]
    exact ⟨L, [], _, _, _, rfl, Lib.hid rfl, HL, HP, OwnG.emptyAt e2 hs1, OwnG.alloc HO0.out _, HB0.out.alloc hs1 _⟩
  case round =>
    obtain ⟨Lc, M, A', q, c', rfl, HW, HLc, HPc, hM, hN, hb⟩ := hrel
    have HM := Lib.hid hM
    have HN := Lib.hid hN
    have HB := Lib.hid hb
    have hsr := hb.size
    clear hM hN hb HO0 HB0
    go_wp2_with fail
    refine (l02Goals_calls An n cn Lc a _ HLc.out hn (intsW HN.out) HPc.out ha).mono ?_
    rintro e w2 ⟨g, rfl, hg, hrow, hb2⟩
    have HG := Lib.hid (own_of_row (B := w.heap.size) hrow (by omega) (by rw [goalsL_len]; exact HLc.out) hn)
    have HM2 := Lib.hid (OwnG.below HM.out hb2)
    have HN2 := Lib.hid (OwnG.below HN.out hb2)
    have HB2 := Lib.hid (HB.out.trans (hb2.mono hsr))
    have hs2 := HB2.out.size
    have HD := Lib.hid (show ∃ G, goalsL Lc a = G ∧ True from ⟨_, rfl, trivial⟩)
    clear hg hrow hb2 HM HN HB
    go_wp2
    go_loopw [8] (fun d wr' => ∃ j : Nat, j ≤ n ∧ d = .int .i64 j ∧ Hid (∀ i, i < j → Lc[i]?.getD 0 = (goalsL Lc a)[i]?.getD 0) ∧ ∃ m, wr' = w2.drewN m) (fun d _ => n - (intOf d).toNat)
    case atStart => exact ⟨0, Nat.zero_le _, rfl, Lib.hid (fun i hi => absurd hi (by omega)), 0, rfl⟩
    case round =>
      obtain ⟨j, hj, rfl, HS, m, rfl⟩ := hrel
      by_cases hlt : j < n
      · obtain ⟨gn, rfl, hBn, hgnl, hcn⟩ := ownAtW HN2.out HLc.out hlt
        obtain ⟨_, hag, hBg, hgl, hcg⟩ := ownAtW HG.out (by rw [goalsL_len]; exact HLc.out) hlt
        injection hag with hag
        injection hag with hag
        subst hag
        have hk0 : (0 : Int) ≤ (j : Int) := by omega
        have hk1 : (j : Int) < (n : Int) := by omega
        by_cases hne : Lc[j]?.getD 0 = (goalsL Lc a)[j]?.getD 0
        · have ht : (Lc[j]?.getD 0 == (goalsL Lc a)[j]?.getD 0) = true := by simpa using hne
          have HS2 := Lib.hid (show ∀ i, i < j + 1 → Lc[i]?.getD 0 = (goalsL Lc a)[i]?.getD 0 from fun i hi => by
            by_cases h : i = j
            · rw [h]; exact hne
            · exact HS.out i (by omega))
          clear hne
          go_wp2_with fail
          go_quiet (fail)
          go_wp2
          go_roundw
          case rel => exact ⟨j + 1, by omega, by go_num, HS2, by first | exact ⟨_, rfl⟩ | exact ⟨_, World.drewN_drewN _ _ _⟩⟩
          case measure => simp [intOf]; omega
        · have ht : (Lc[j]?.getD 0 == (goalsL Lc a)[j]?.getD 0) = false := by simpa using hne
          have HF := Lib.hid (fdW_is Lc a (by rw [HLc.out]; exact hlt) HS.out hne)
          clear hne
          go_wp2_with fail
          go_quiet (fail)
          go_wp2
          generalize hWW : w2.drewN _ = W
          have HMW := Lib.hid (show OwnM w.heap.size W A' q c' M by rw [← hWW]; exact HM2.out)
          have HNW := Lib.hid (show OwnG 2 1 w.heap.size W (some ⟨gn, 0, none⟩) n cn (Lc.map (Value.int .i64)) by rw [← hWW]; exact HN2.out)
          have HGW := Lib.hid (show OwnG 2 1 w.heap.size W (some ⟨g, 0, none⟩) n n ((goalsL Lc a).map (Value.int .i64)) by rw [← hWW]; exact HG.out)
          have HBW := Lib.hid (show Below w.heap.size w W by rw [← hWW]; exact belowDraws HB2.out _)
          have hszW := HBW.out.size
          have HQ := Lib.hid (OwnM.len HM2.out)
          have hmore := wayL_more HPc.out ha (by rw [HF.out, HLc.out]; exact hlt)
          have HMV := Lib.hid (show mvW Lc a = ((j : Int), Lc[j]?.getD 0, (goalsL Lc a)[j]?.getD 0) by unfold mvW; rw [HF.out])
          have HST := Lib.hid (show stepW Lc a = Lc.set j ((goalsL Lc a)[j]?.getD 0) by unfold stepW; rw [HF.out])
          have HW' := Lib.hid (show wayL L a = (M ++ [((j : Int), Lc[j]?.getD 0, (goalsL Lc a)[j]?.getD 0)]) ++ wayL (stepW Lc a) a by rw [HW.out, hmore, HMV.out]; simp)
          have HLs := Lib.hid (show (stepW Lc a).length = n by rw [stepW_len]; exact HLc.out)
          have HPs := Lib.hid (stepW_pegs Lc a HPc.out ha)
          have hq : q < 255 := by
            have h1 := HWL.out
            rw [HW'.out] at h1
            simp only [List.length_append, List.length_cons, List.length_nil, HQ.out] at h1
            omega
          clear hcn hcg hmore hWW HM2 HN2 HG HB2 hgnl hgl HS ht
          obtain ⟨_, h0, _, hgnl, hcn⟩ := ownAtW HNW.out HLc.out hlt
          injection h0 with h0
          injection h0 with h0
          subst h0
          obtain ⟨_, h0, _, hgl, hcg⟩ := ownAtW HGW.out (by rw [goalsL_len]; exact HLc.out) hlt
          injection h0 with h0
          injection h0 with h0
          subst h0
          have HGOAL := Lib.hid (show (goalsL Lc a)[j]?.getD 0 = (goalsL Lc a)[j]?.getD 0 from rfl)
          go_region_law ((refine step_append_lies _ (by rfl) _ _ _ (by rfl) w.heap.size 69 i0 (.agg #[.int .i64 0, .int .i64 0, .int .i64 0]) 3 24 Try.underlying36 hi hz0 hz1 hz2 rfl (by decide) (.slice A' q c') q (mvCells M) (by rfl) ((OwnG.alloc HMW.out _).drewW) ⟨W.heap.size, 0, none⟩ 1 1 [.int .i64 j, .int .i64 (Lc[j]?.getD 0), .int .i64 ((goalsL Lc a)[j]?.getD 0)] (by rfl) (by rfl) (World.news_of_block (cs := #[.int .i64 j, .int .i64 (Lc[j]?.getD 0), .int .i64 ((goalsL Lc a)[j]?.getD 0)]) (t := 69) (fr := (0, 0)) (heap_alloc_new W _)) (by simp [Value.oneCell']) (by omega) (by unfold maxLen; omega) (by omega) (by simp; omega) (W.heap.size + 1) (by simp) ?_; intro gg cap w4 hown1 hgrow hat hlt2; have O4 := Lib.hid hown1; have HGR := Lib.hid (grown_undrewW hgrow); clear hown1 hgrow hat))
          all_goals
            have B4 := Lib.hid (HBW.out.trans (OwnG.grown_below HMW.out HGR.out (Nat.le_refl _) hszW))
            have N4 := Lib.hid (OwnG.otherW HNW.out HMW.out HGR.out (by decide))
            have G4 := Lib.hid (OwnG.otherW HGW.out HMW.out HGR.out (by decide))
            have O5 := Lib.hid (show OwnM w.heap.size w4 (some ⟨gg, 0, none⟩) (q + 1) cap (M ++ [((j : Int), Lc[j]?.getD 0, (goalsL Lc a)[j]?.getD 0)]) by unfold OwnM; rw [mvCells_snoc]; exact O4.out)
            clear hcn hcg
            obtain ⟨_, h0, _, hgnl4, hcn⟩ := ownAtW N4.out HLc.out hlt
            injection h0 with h0
            injection h0 with h0
            subst h0
            obtain ⟨_, h0, _, hgl4, hcg⟩ := ownAtW G4.out (by rw [goalsL_len]; exact HLc.out) hlt
            injection h0 with h0
            injection h0 with h0
            subst h0
            have hfz := OwnG.frozen N4.out rfl j
            go_wp2
            go_roundw
            case rel =>
              refine ⟨stepW Lc a, _, _, _, _, rfl, HW', HLs, HPs, OwnG.setBox O5.out (by rintro _ h; injection h with h; injection h with h; subst h; exact neW O5.out N4.out (by decide)) _, ?_, B4.out.setCell hBn _⟩
              have st := (World.ownsRow.stored N4.out j (.int .i64 ((goalsL Lc a)[j]?.getD 0))).1
              rw [HST.out]
              rw [List.map_set]
              exact st
            case measure => simp [lnW]; omega
      · obtain rfl : j = n := by omega
        have hd : decide ((j : Int) < (j : Int)) = false := by simp
        have HF := Lib.hid (fdW_all Lc a (fun i hi => HS.out i (by rw [HLc.out] at hi; exact hi)))
        have HE := Lib.hid (show M = wayL L a by rw [HW.out, wayL_end HF.out, List.append_nil])
        have hq := OwnM.len HM2.out
        rw [HE.out] at hq
        subst hq
        go_wp2_with fail
        go_quiet (fail)
        go_wp2
        go_ret
        exact ⟨A', c', rfl, by have h := HM2.out; rw [HE.out] at h; exact h, belowDraws HB2.out _⟩

end Go.Proofs.Ytbcgomimfgggnaa

namespace Go.Proofs.Ytbcgomimfgggnaa
open Go.RowKit
set_option linter.unusedVariables false
set_option maxRecDepth 100000

theorem mvCells_app (M N : List Mv) : mvCells (M ++ N) = mvCells M ++ mvCells N := by unfold mvCells mvF; rw [List.flatMap_append, List.map_append]
/-- 'append(a, b...)' of moves, a the call's own, b whatever list of the call's. -/
theorem wpList_append_mvs {w : World} {ops : Array Oper} {rest : List Oper} {o : Oper} {a : Act} {Q : Exit → Act → World → Prop} (hgd : o.guard = none) (s x : Operand)
    (ho : o.op = .call { callee := .builtin .append, args := #[s, x], argTypes := #[36, 36] })
    (B : Nat) (A : Option Addr) (n c : Nat) (M : List Mv) (hs : a.eval s = .slice A n c) (hown : OwnM B w A n c M) (B' : Nat) (A' : Option Addr) (m c' : Nat) (N : List Mv) (hx : a.eval x = .slice A' m c') (hsrc : OwnM B' w A' m c' N)
    (hn : n + m ≤ 100000) (hB : B ≤ w.heap.size)
    (h : ∀ A2 c2 w2, OwnM B w2 A2 (n + m) c2 (M ++ N) → w.grownBy w2 (Value.slice A n c).ownBlock → wpList Try.prog ops Q rest (a.put o.dst (.slice A2 (n + m) c2)) w2) : wpList Try.prog ops Q (o :: rest) a w := by
  obtain ⟨i0, hi, hz0, hz1, hz2⟩ := info_parts Try.infoM
  have hlN := OwnM.len hsrc
  rcases OwnG.form hsrc with ⟨rfl, rfl, rfl⟩ | ⟨g, rfl, _, _⟩
  · obtain rfl : N = [] := List.eq_nil_of_length_eq_zero hlN
    refine wpList_append_own_none hgd s x 36 ho B 69 i0 3 Try.underlying36 hi _ n _ hs hown hx ?_
    exact h A c w (by rw [List.append_nil]; exact hown) (World.grownBy.refl _ _)
  · refine wpList_append_own w hgd s x 36 ho B 69 i0 (.agg #[.int .i64 0, .int .i64 0, .int .i64 0]) 3 24 Try.underlying36 hi hz0 hz1 hz2 rfl (by decide) _ n _ hs hown ⟨g, 0, none⟩ m c' (mvCells N) hx (by rw [mvCells_len, hlN]) ?_ ?_ (by unfold maxLen; omega) (by omega) hB ?_
    · intro j u hj
      have hlt : j < m * 3 := by
        have := (List.getElem?_eq_some_iff.1 hj).1
        rwa [mvCells_len, hlN] at this
      obtain ⟨g2, hg2, _, _, hc⟩ := OwnG.cell hsrc j hlt
      injection hg2 with hg2
      injection hg2 with hg2
      subst hg2
      have hadd : (⟨g, 0, none⟩ : Addr).add j = ⟨g, j, none⟩ := by unfold Addr.add; split <;> simp_all
      rw [hadd, hc, hj]
    · intro u hu
      unfold mvCells at hu
      obtain ⟨i, _, rfl⟩ := List.mem_map.1 hu
      rfl
    · intro v' w' h2 h3 h4
      obtain ⟨A2, c2, rfl⟩ := ownG_shape h2
      refine h A2 c2 w' ?_ h3
      unfold OwnM
      rw [mvCells_app]
      exact h2

theorem own_noneG {e s B : Nat} {w : World} {A : Option Addr} {n c : Nat} {xs : List Value} (h : OwnG e s B w A n c xs) : A = none → c = 0 := fun e => by
  rcases h.form with ⟨_, _, h3⟩ | ⟨_, h, _⟩
  · exact h3
  · rw [e] at h; cases h

set_option maxHeartbeats 4000000 in
theorem l02Back_calls (A : Option Addr) (n c : Nat) (M : List Mv) (w : World) (hM : M.length = n) (hn : n ≤ 1000) (hV : Mvs w A M) :
    Calls Try.prog 51 #[.slice A n c] w fun e w' => ∃ A' c', e = .returned (.slice A' (bkL M).length c') ∧ OwnM w.heap.size w' A' (bkL M).length c' (bkL M) ∧ Below w.heap.size w w' := by
  obtain ⟨i0, hi, hz0, hz1, hz2⟩ := info_parts Try.infoM
  have HM := Lib.hid hM
  have HV := Lib.hid hV
  have hBal : Below w.heap.size w (w.alloc (.cells #[] 69)) := (Below.refl _ _).alloc (Nat.le_refl _) _
  have hE := OwnG.emptyAt (e := 69) (size := 3) (Box.new w 69 #[]) (Nat.le_refl w.heap.size)
  have HE := Lib.hid hE
  have HB0 := Lib.hid hBal
  clear hM hV hBal hE
  go_enter Try.func51, Try.ntmps51
  go_wp2
  go_loopw [3, 4] (fun o i wr => ∃ (u k : Nat) (A' : Option Addr) (c' : Nat), u + k = n ∧ i = .int .i64 ((u : Int) - 1) ∧ o = .slice A' k c' ∧ OwnM w.heap.size wr A' k c' (bkL (M.drop u)) ∧ Below w.heap.size w wr) (fun _ i _ => (intOf i + 1).toNat)
  case atStart =>
    refine ⟨n, 0, _, _, rfl, rfl, rfl, ?_, HB0.out⟩
    rw [List.drop_eq_nil_of_le (by rw [HM.out]; exact Nat.le_refl _)]
    exact HE.out
  case round =>
    obtain ⟨u, k, A', c', hk, rfl, rfl, hO, hb⟩ := hrel
    have HO := Lib.hid hO
    have HB := Lib.hid hb
    have hsz := hb.size
    clear hO hb HE HB0
    cases u with
    | zero =>
      have hlt : ¬ (0 : Int) ≤ ((0 : Nat) : Int) - 1 := by omega
      obtain rfl : k = n := by omega
      go_wp2
      go_ret
      refine ⟨A', c', ?_, ?_, HB.out⟩
      · rw [bkL_len, HM.out]; rfl
      · rw [bkL_len, HM.out]
        have h := HO.out
        rw [List.drop_zero] at h
        exact h
    | succ j =>
      have hj1 : ((j + 1 : Nat) : Int) - 1 = (j : Int) := by omega
      rw [hj1]
      clear hj1
      have hlt : (0 : Int) ≤ (j : Int) := by omega
      have hlt2 : (j : Int) < (n : Int) := by omega
      obtain ⟨g, rfl, hg, v0, v1, v2⟩ := (HV.out.below HB.out) j (by rw [HM.out]; omega)
      have HS := Lib.hid (bkL_drop (M := M) (k := j) (by rw [HM.out]; omega))
      generalize M[j]?.getD (0, 0, 0) = m at *
      obtain ⟨x1, x2, x3⟩ := m
      dsimp only at v0 v1 v2
      have hS := HS.out
      dsimp only at hS
      have HS' := Lib.hid hS
      clear HS hS
      go_upto_region 5 with (fail)
      go_region_law ((refine step_append_lies _ (by rfl) _ _ _ (by rfl) w.heap.size 69 i0 (.agg #[.int .i64 0, .int .i64 0, .int .i64 0]) 3 24 Try.underlying36 hi hz0 hz1 hz2 rfl (by decide) (.slice A' k c') k (mvCells (bkL (M.drop (j + 1)))) (by rfl) ((OwnG.alloc HO.out _).drewW) ⟨wr.heap.size, 0, none⟩ 1 1 [.int .i64 x1, .int .i64 x3, .int .i64 x2] (by rfl) (by rfl) (World.news_of_block (cs := #[.int .i64 x1, .int .i64 x3, .int .i64 x2]) (t := 69) (fr := (0, 0)) (heap_alloc_new wr _)) (by simp [Value.oneCell']) (by omega) (by unfold maxLen; omega) (by omega) (by simp; omega) (wr.heap.size + 1) (by simp) ?_; intro gg cap w4 hown1 hgrow hat hlt3; have O4 := Lib.hid hown1; have HGR := Lib.hid (grown_undrewW hgrow); clear hown1 hgrow hat))
      all_goals
        have B4 := Lib.hid (HB.out.trans (OwnG.grown_below HO.out HGR.out (Nat.le_refl _) hsz))
        have O5 := Lib.hid (show OwnM w.heap.size w4 (some ⟨gg, 0, none⟩) (k + 1) cap (bkL (M.drop j)) by rw [HS'.out]; unfold OwnM; rw [mvCells_snoc]; exact O4.out)
        go_wp2
        go_roundw
        case rel => exact ⟨j, k + 1, _, _, by omega, by go_num, rfl, O5.out, B4.out⟩
        case measure => simp [intOf] <;> omega

set_option maxHeartbeats 4000000 in
theorem l02Tower_calls (D : Nat) (P Q : Int) (w : World) (hD : D ≤ 8) (hP : 0 ≤ P ∧ P ≤ 2) (hQ : 0 ≤ Q ∧ Q ≤ 2) :
    Calls Try.prog 52 #[.int .i64 D, .int .i64 Q, .int .i64 P] w fun e w' => ∃ A' c', e = .returned (.slice A' (wayL (List.replicate D Q) P).length c') ∧ OwnM w.heap.size w' A' (wayL (List.replicate D Q) P).length c' (wayL (List.replicate D Q) P) ∧ Below w.heap.size w w' := by
  obtain ⟨i0, hi, hz0, hz1q, hz2⟩ := info_parts Try.infoI
  have hBal : Below w.heap.size w (w.alloc (.cells #[] 2)) := (Below.refl _ _).alloc (Nat.le_refl _) _
  have HE := Lib.hid (OwnG.emptyAt (e := 2) (size := 1) (Box.new w 2 #[]) (Nat.le_refl w.heap.size))
  have HB0 := Lib.hid hBal
  clear hBal
  go_enter Try.func52, Try.ntmps52
  go_wp2
  go_loopw [7, 8] (fun o i wr => ∃ (k : Nat) (A' : Option Addr) (c' : Nat), k ≤ D ∧ i = .int .i64 k ∧ o = .slice A' k c' ∧ OwnG 2 1 w.heap.size wr A' k c' ((List.replicate k Q).map (Value.int .i64)) ∧ Below w.heap.size w wr) (fun _ i _ => D - (intOf i).toNat)
  case atStart => exact ⟨0, _, _, Nat.zero_le _, rfl, rfl, HE.out, HB0.out⟩
  case round =>
    obtain ⟨k, A', c', hk, rfl, rfl, hO, hb⟩ := hrel
    have HO := Lib.hid hO
    have HB := Lib.hid hb
    have hsz := hb.size
    clear hO hb HE HB0
    by_cases hlt : k < D
    · go_wp2_with (at_builtin; refine wpList_append_own _ rfl _ _ 28 rfl w.heap.size 2 i0 (.int .i64 0) 1 8 Try.underlying28 hi hz0 hz1q hz2 rfl (by decide) _ _ _ rfl (OwnG.alloc HO.out _) ⟨wr.heap.size, 0, none⟩ 1 1 [.int .i64 Q] rfl rfl (cell_one_new _ _ _) (by simp [Value.oneCell']) (by unfold maxLen; omega) (by omega) (by simp; omega) ?_; intro v' w6 hown' hgrow _; obtain ⟨A6, c6, rfl⟩ := ownG_shape hown'; have HO6 := Lib.hid hown'; have HGR := Lib.hid hgrow; clear hown' hgrow)
      go_roundw
      case rel =>
        refine ⟨k + 1, A6, c6, by omega, by go_num, rfl, ?_, HB.out.trans (OwnG.grown_below HO.out HGR.out (Nat.le_refl _) hsz)⟩
        rw [show List.replicate (k + 1) Q = List.replicate k Q ++ [Q] from List.replicate_succ', List.map_append]
        exact HO6.out
      case measure => simp [intOf]; omega
    · obtain rfl : k = D := by omega
      go_wp2_with fail
      refine (l02Way_calls A' k c' (List.replicate k Q) P _ (by simp) hD (own_noneG HO.out) (intsW HO.out) (rep_pegs hQ k) hP).mono ?_
      rintro e w2 ⟨A2, c2, rfl, hO2, hb2⟩
      go_wp2
      go_ret
      exact ⟨A2, c2, rfl, OwnG.mono hO2 hsz, HB.out.trans (hb2.mono hsz)⟩

theorem ret_of_own {w w' : World} {e : Ending} {A : Option Addr} {n c : Nat} {N WL : List Mv} (he : e = .returned (.tuple #[.slice A n c, .int .i64 0])) (hO : OwnM w.heap.size w' A n c N) (hN : N = WL) (hb : Below w.heap.size w w') : RetMvs w WL.length WL 0 e w' := by
  subst hN
  have := OwnM.len hO
  subst this
  exact ⟨A, c, he, hO, hb⟩
theorem own_snoc {B : Nat} {w : World} {A : Option Addr} {n c : Nat} {M : List Mv} {x y z : Int} (h : OwnG 69 3 B w A n c (mvCells M ++ [.int .i64 x, .int .i64 y, .int .i64 z])) : OwnM B w A n c (M ++ [(x, y, z)]) := by
  unfold OwnM
  rw [mvCells_snoc]
  exact h
theorem grown_boxN {e size B n c b t : Nat} {w w1 : World} {A : Option Addr} {xs : List Value} {cs : Array Value} (h : OwnG e size B w A n c xs) (hg : w.grownBy w1 (Value.slice A n c).ownBlock) (hb : Box w b t cs) (hne : t ≠ e) : Box w1 b t cs := hb.grown hg (h.box_ne hb hne)
theorem grown_belowN {e size B n c B0 : Nat} {w w1 : World} {A : Option Addr} {xs : List Value} (h : OwnG e size B w A n c xs) (hg : w.grownBy w1 (Value.slice A n c).ownBlock) (h1 : B0 ≤ B) (h2 : B0 ≤ w.heap.size) : Below B0 w w1 := by
  refine (Below.refl B0 w).grown hg h2 (fun k hk => ?_)
  rcases h.form with ⟨rfl, rfl, rfl⟩ | ⟨g, rfl, hB, _⟩
  · simp [Value.ownBlock] at hk
  · simp only [Value.ownBlock, Option.some.injEq] at hk
    omega

set_option maxHeartbeats 40000000 in
theorem specWayBetween_ret (A : Option Addr) (n c : Nat) (p : Int) (L : List Int) (B : Option Addr) (m d : Nat) (q : Int) (M : List Int) (w : World) (hL : L.length = n) (hn : n ≤ 1048576) (hI : Ints w A L) (hcap : n ≤ c) (hc : c ≤ 9223372036854775807) (hM : M.length = m) (hm : m ≤ 1048576) (hJ : Ints w B M) (hdap : m ≤ d) (hd : d ≤ 9223372036854775807) :
    Calls Try.prog 18 #[.agg #[.int .i64 p, .slice A n c], .agg #[.int .i64 q, .slice B m d]] w (RetMvs w (wbL p L q M).length (wbL p L q M) (code2 p L q M)) := by
  have HL := Lib.hid hL
  have HM := Lib.hid hM
  obtain ⟨b1, b2, b3⟩ := twoBoxes w p q A B n c m d 30
  have hbal := (Below.refl _ ((w.alloc (.cells #[.int .i64 p, .slice A n c] 30)).alloc (.cells #[.int .i64 q, .slice B m d] 30))).alloc (Nat.le_refl _) (.cells #[.int .i64 p, .slice A n c, .int .i64 q, .slice B m d] 30)
  have X0 := Lib.hid (b1.below hbal b1.lt)
  have Y0 := Lib.hid (b2.below hbal b2.lt)
  have hc0 := Box.new ((w.alloc (.cells #[.int .i64 p, .slice A n c] 30)).alloc (.cells #[.int .i64 q, .slice B m d] 30)) 30 #[.int .i64 p, .slice A n c, .int .i64 q, .slice B m d]
  simp only [World.size_alloc] at hc0
  have Z0 := Lib.hid hc0
  have HB0 := Lib.hid (b3.trans (hbal.mono b3.size))
  have HI0 := Lib.hid (hI.below HB0.out)
  have HJ0 := Lib.hid (hJ.below HB0.out)
  have HIW := Lib.hid hI
  have HJW := Lib.hid hJ
  obtain ⟨i0, hi, hz0, hz1, hz2⟩ := info_parts Try.infoM
  clear hL hM b1 b2 b3 hbal hc0 hI hJ
  by_cases hz : code2 p L q M = 0
  · obtain ⟨hs, ht, rfl, rfl, hlen⟩ := code2_zero hz
    rw [HL.out, HM.out] at hlen
    subst hlen
    have HZ := Lib.hid hz
    have hz' : (code2 3 L 3 M != 0) = false := by simpa using hz
    have h8 := (state_facts hs HL.out).2.2.1
    have HPL := Lib.hid (state_pegsOk hs)
    have HPM := Lib.hid (state_pegsOk ht)
    rw [hz]
    clear hz hs ht
    rcases grt_cases L M n with hg | ⟨D, hg⟩
    · have HG := Lib.hid hg
      rw [wbL_same HZ.out HL.out hg]
      clear hg
      go_enter Try.func18, Try.ntmps18
      go_wp2_with fail
      refine (l02Code_two (w.heap.size + 1 + 1) A n c 3 L B n d 3 M _ Z0.out HL.out hn HI0.out HM.out hm HJ0.out).mono ?_
      rintro e w1 ⟨rfl, hb⟩
      rw [HZ.out]
      have X1 := Lib.hid (X0.out.below hb X0.out.lt)
      have Y1 := Lib.hid (Y0.out.below hb Y0.out.lt)
      have HI1 := Lib.hid (HI0.out.below hb)
      have HJ1 := Lib.hid (HJ0.out.below hb)
      have HB1 := Lib.hid (HB0.out.trans (hb.mono HB0.out.size))
      clear hb X0 Y0 HI0 HJ0 HB0 hz'
      obtain ⟨x0, x1, y0, y1⟩ := cells22 X1.out Y1.out
      go_wp2_with fail
      refine (l02Greatest_calls A n c 3 L B d 3 M _ HL.out HM.out h8 HI1.out HJ1.out).mono ?_
      rintro e w2 ⟨rfl, hb⟩
      have HB2 := Lib.hid (HB1.out.trans (hb.mono HB1.out.size))
      have hs2 := HB2.out.size
      clear hb X1 Y1 HI1 HJ1 HB1
      rw [HG.out]
      go_wp2
      go_ret2
      exact ⟨_, _, rfl, OwnG.emptyAt (Box.new w2 69 #[]) hs2, HB2.out.alloc hs2 _⟩
    · have HG := Lib.hid hg
      rw [wbL_at HZ.out HL.out hg]
      have HLEN := Lib.hid (show D ≤ 7 by have := (carry_facts HPL.out HPM.out HL.out HM.out hg).1; omega)
      obtain ⟨hD, hP0, hP1, hQ0, hQ1, hne⟩ := carry_facts HPL.out HPM.out HL.out HM.out hg
      clear hg
      have HLT : Hid ((L.take D).length = D) := by unfold Hid; rw [List.length_take, HL.out]; omega
      have HMT : Hid ((M.take D).length = D) := by unfold Hid; rw [List.length_take, HM.out]; omega
      have HPLT := Lib.hid (pegsOk_take HPL.out D)
      have HPMT := Lib.hid (pegsOk_take HPM.out D)
      obtain ⟨ad, rfl, had, hcx⟩ := HI0.out D (by rw [HL.out]; exact hD)
      obtain ⟨ad', rfl, had', hcy⟩ := HJ0.out D (by rw [HM.out]; exact hD)
      rw [List.getD_eq_getElem?_getD] at hcx hcy
      have HNU := Lib.hid (fun W hW1 hW2 => l02Numbers_calls (some ad) n c 3 L (some ad') d 3 M D W HL.out HM.out h8 hW1 hW2 hcap hc hdap hd HPL.out HPM.out HG.out)
      obtain ⟨WL, hWL⟩ : ∃ WL, wbD L M D = WL := ⟨_, rfl⟩
      rw [hWL]
      unfold wbD at hWL
      generalize L[D]?.getD 0 = P at *
      generalize M[D]?.getD 0 = Q at *
      generalize oneN L M D = one at *
      generalize twoN L M D = two at *
      have HWL := Lib.hid hWL
      clear hWL
      go_enter Try.func18, Try.ntmps18
      go_wp2_with fail
      refine (l02Code_two (w.heap.size + 1 + 1) (some ad) n c 3 L (some ad') n d 3 M _ Z0.out HL.out hn HI0.out HM.out hm HJ0.out).mono ?_
      rintro e w1 ⟨rfl, hb⟩
      rw [HZ.out]
      have X1 := Lib.hid (X0.out.below hb X0.out.lt)
      have Y1 := Lib.hid (Y0.out.below hb Y0.out.lt)
      have HI1 := Lib.hid (HI0.out.below hb)
      have HJ1 := Lib.hid (HJ0.out.below hb)
      have HB1 := Lib.hid (HB0.out.trans (hb.mono HB0.out.size))
      have hcx1 := (hb.cell (p := ad.add D) (by rw [add_block]; exact had)).trans hcx
      have hcy1 := (hb.cell (p := ad'.add D) (by rw [add_block]; exact had')).trans hcy
      have had1 := Nat.lt_of_lt_of_le had hb.size
      have had1' := Nat.lt_of_lt_of_le had' hb.size
      clear hb X0 Y0 HI0 HJ0 HB0 hz' hcx hcy had had'
      obtain ⟨x0, x1, y0, y1⟩ := cells22 X1.out Y1.out
      go_wp2_with fail
      refine (l02Greatest_calls (some ad) n c 3 L (some ad') d 3 M _ HL.out HM.out h8 HI1.out HJ1.out).mono ?_
      rintro e w2 ⟨rfl, hb⟩
      rw [HG.out]
      have X2 := Lib.hid (X1.out.below hb X1.out.lt)
      have Y2 := Lib.hid (Y1.out.below hb Y1.out.lt)
      have HI2 := Lib.hid (HI1.out.below hb)
      have HJ2 := Lib.hid (HJ1.out.below hb)
      have HB2 := Lib.hid (HB1.out.trans (hb.mono HB1.out.size))
      have hcx2 := (hb.cell (p := ad.add D) (by rw [add_block]; exact had1)).trans hcx1
      have hcy2 := (hb.cell (p := ad'.add D) (by rw [add_block]; exact had1')).trans hcy1
      clear hb X1 Y1 HI1 HJ1 HB1 x0 x1 y0 y1 hcx1 hcy1
      obtain ⟨x0, x1, y0, y1⟩ := cells22 X2.out Y2.out
      have hi0 : (0 : Int) ≤ (D : Int) := by omega
      have hi1 : (D : Int) < (n : Int) := by omega
      have hi2 : (D : Int) ≤ (c : Int) := by omega
      have hi3 : (D : Int) ≤ (d : Int) := by omega
      have hi4 : ¬ (D : Int) < 0 := by omega
      have hr : 0 ≤ 3 - P - Q ∧ 3 - P - Q ≤ 2 := by omega
      have hw0 : IntKind.i64.wrap (3 - P) = 3 - P := IntWalk.i64_in _ (by omega)
      have hw1 : IntKind.i64.wrap (3 - P - Q) = 3 - P - Q := IntWalk.i64_in _ (by omega)
      have hw2 : wrap64 (3 - P) = 3 - P := IntWalk.wrap64_in _ (by omega)
      have hw3 : wrap64 (3 - P - Q) = 3 - P - Q := IntWalk.wrap64_in _ (by omega)
      go_wp2_with fail
      go_quiet (fail)
      go_wp2_with fail
      refine (HNU.out _ (HI2.out.below (belowDraws (Below.refl _ _) _)) (HJ2.out.below (belowDraws (Below.refl _ _) _))).mono ?_
      rintro e w3 ⟨rfl, hb⟩
      have hb3 := (belowDraws (Below.refl w2.heap.size w2) _).trans hb
      have X3 := Lib.hid (X2.out.below hb3 X2.out.lt)
      have Y3 := Lib.hid (Y2.out.below hb3 Y2.out.lt)
      have HB3 := Lib.hid (HB2.out.trans (hb3.mono HB2.out.size))
      clear hb hb3 x0 x1 y0 y1 hcx2 hcy2 X2 Y2 HI2 HJ2 HB2 HNU hw0 hw1 hw2 hw3
      have hq1 := wayL_bd (L := L.take D) (a := 3 - P - Q) (by simp; omega)
      have hq2 := wayL_bd (L := M.take D) (a := 3 - P - Q) (by simp; omega)
      have hq3 := wayL_bd (L := L.take D) (a := Q) (by simp; omega)
      have hq4 := wayL_bd (L := M.take D) (a := P) (by simp; omega)
      have hq5 := wayL_bd (L := List.replicate D Q) (a := P) (by simp; omega)
      have HIT := Lib.hid (fun (W : World) (h : Below w.heap.size w W) => (HIW.out.below h).take D)
      have HJT := Lib.hid (fun (W : World) (h : Below w.heap.size w W) => (HJW.out.below h).take D)
      clear had1 had1' HIW HJW
      by_cases hle : one ≤ two
      · have HE := Lib.hid (show w1L L M D P Q = WL by have h := HWL.out; rw [if_pos hle] at h; exact h)
        clear HWL hq3 hq4 hq5
        obtain ⟨x0, x1, _, _⟩ := X3.out.two
        go_wp2_with fail
        refine (l02Way_calls (some ad) D c (L.take D) (3 - P - Q) _ HLT.out (by omega) (fun h => by cases h) (HIT.out _ HB3.out) HPLT.out hr).mono ?_
        rintro e w4 ⟨A4, c4, rfl, hO, hb⟩
        have Y4 := Lib.hid (Y3.out.below hb Y3.out.lt)
        have O4 := Lib.hid (OwnG.mono hO HB3.out.size)
        have HB4 := Lib.hid (HB3.out.trans (hb.mono HB3.out.size))
        have hs4 := HB4.out.size
        clear hO hb X3 Y3 HB3
        clear x0 x1
        go_wp2_with (at_builtin; refine wpList_append_own _ rfl _ _ 36 rfl w.heap.size 69 i0 (.agg #[.int .i64 0, .int .i64 0, .int .i64 0]) 3 24 Try.underlying36 hi hz0 hz1 hz2 rfl (by decide) _ _ _ rfl (OwnG.alloc O4.out _) ⟨w4.heap.size, 0, none⟩ 1 1 [.int .i64 D, .int .i64 P, .int .i64 Q] rfl rfl (World.news_of_block (cs := #[.int .i64 D, .int .i64 P, .int .i64 Q]) (t := 69) (fr := (0, 0)) (heap_alloc_new w4 _)) (by simp [Value.oneCell']) (by unfold maxLen; omega) (by omega) (by simp; omega) ?_; intro v' w5 hown' hgrow _; obtain ⟨A5, c5, rfl⟩ := ownG_shape hown'; have OO := Lib.hid hown'; have Y5 := Lib.hid (OwnG.grown_box O4.out hgrow Y4.out (by decide)); have HB5 := Lib.hid (HB4.out.trans (OwnG.grown_below O4.out hgrow (Nat.le_refl _) hs4)); clear hown' hgrow; obtain ⟨y0, y1, _, _⟩ := Y5.out.two)
        have O5 := Lib.hid (own_snoc OO.out)
        have hs5 := HB5.out.size
        clear OO O4 Y4 HB4
        go_wp2_with fail
        refine (l02Way_calls (some ad') D d (M.take D) (3 - P - Q) _ HMT.out (by omega) (fun h => by cases h) (HJT.out _ HB5.out) HPMT.out hr).mono ?_
        rintro e w6 ⟨A6, c6, rfl, hO, hb⟩
        have OW := Lib.hid hO
        have O6 := Lib.hid (OwnG.below O5.out hb)
        have HB6 := Lib.hid (HB5.out.trans (hb.mono HB5.out.size))
        clear hO hb Y5 O5 HB5 y0 y1
        go_wp2_with fail
        refine (l02Back_calls A6 (wayL (M.take D) (3 - P - Q)).length c6 (wayL (M.take D) (3 - P - Q)) _ rfl (by omega) (OwnM.mvs OW.out)).mono ?_
        rintro e w7 ⟨A7, c7, rfl, hO, hb⟩
        have OB := Lib.hid hO
        have O7 := Lib.hid (OwnG.below O6.out hb)
        have HB7 := Lib.hid (HB6.out.trans (hb.mono HB6.out.size))
        have hs7 := HB7.out.size
        have HQB := Lib.hid (bkL_len (wayL (M.take D) (3 - P - Q)))
        clear hO hb O6 HB6 OW
        go_wp2_with (at_builtin; refine wpList_append_mvs rfl _ _ rfl w.heap.size _ _ _ _ rfl O7.out _ _ _ _ _ rfl OB.out (by have h := HQB.out; omega) hs7 ?_; intro A8 c8 w8 hO hg; have O8 := Lib.hid hO; have HB8 := Lib.hid (HB7.out.trans (grown_belowN O7.out hg (Nat.le_refl _) hs7)); clear hO hg)
        go_ret2
        refine ret_of_own rfl O8.out ?_ HB8.out
        rw [← HE.out]
        unfold w1L
        simp
      · have HE := Lib.hid (show w2L L M D P Q = WL by have h := HWL.out; rw [if_neg hle] at h; exact h)
        clear HWL hq1 hq2
        obtain ⟨x0, x1, _, _⟩ := X3.out.two
        go_wp2_with fail
        refine (l02Way_calls (some ad) D c (L.take D) (Q) _ HLT.out (by omega) (fun h => by cases h) (HIT.out _ HB3.out) HPLT.out ⟨hQ0, hQ1⟩).mono ?_
        rintro e w4 ⟨A4, c4, rfl, hO, hb⟩
        have Y4 := Lib.hid (Y3.out.below hb Y3.out.lt)
        have O4 := Lib.hid (OwnG.mono hO HB3.out.size)
        have HB4 := Lib.hid (HB3.out.trans (hb.mono HB3.out.size))
        have hs4 := HB4.out.size
        clear hO hb X3 Y3 HB3
        clear x0 x1
        go_wp2_with (at_builtin; refine wpList_append_own _ rfl _ _ 36 rfl w.heap.size 69 i0 (.agg #[.int .i64 0, .int .i64 0, .int .i64 0]) 3 24 Try.underlying36 hi hz0 hz1 hz2 rfl (by decide) _ _ _ rfl (OwnG.alloc O4.out _) ⟨w4.heap.size, 0, none⟩ 1 1 [.int .i64 D, .int .i64 P, .int .i64 (3 - P - Q)] rfl rfl (World.news_of_block (cs := #[.int .i64 D, .int .i64 P, .int .i64 (3 - P - Q)]) (t := 69) (fr := (0, 0)) (heap_alloc_new w4 _)) (by simp [Value.oneCell']) (by unfold maxLen; omega) (by omega) (by simp; omega) ?_; intro v' w5 hown' hgrow _; obtain ⟨A5, c5, rfl⟩ := ownG_shape hown'; have OO := Lib.hid hown'; have Y5 := Lib.hid (OwnG.grown_box O4.out hgrow Y4.out (by decide)); have HB5 := Lib.hid (HB4.out.trans (OwnG.grown_below O4.out hgrow (Nat.le_refl _) hs4)); clear hown' hgrow)
        have O5 := Lib.hid (own_snoc OO.out)
        have hs5 := HB5.out.size
        clear OO O4 Y4 HB4
        go_wp2_with fail
        refine (l02Tower_calls D P Q _ (by omega) ⟨hP0, hP1⟩ ⟨hQ0, hQ1⟩).mono ?_
        rintro e w9 ⟨A9, c9, rfl, hO, hb⟩
        have OT := Lib.hid hO
        have Y9 := Lib.hid (Y5.out.below hb Y5.out.lt)
        have O9 := Lib.hid (OwnG.below O5.out hb)
        have HB9 := Lib.hid (HB5.out.trans (hb.mono HB5.out.size))
        have hs9 := HB9.out.size
        clear hO hb Y5 O5 HB5
        go_upto_region 15 with (at_builtin; refine wpList_append_mvs rfl _ _ rfl w.heap.size _ _ _ _ rfl O9.out _ _ _ _ _ rfl OT.out (by omega) hs9 ?_; intro A10 c10 w10 hO hg; have O10 := Lib.hid hO; have Y10 := Lib.hid (grown_boxN O9.out hg Y9.out (by decide)); have HB10 := Lib.hid (HB9.out.trans (grown_belowN O9.out hg (Nat.le_refl _) hs9)); clear hO hg)
        clear O9 Y9 HB9 OT
        have hs10 := HB10.out.size
        go_wp2_with (at_builtin; refine wpList_append_own _ rfl _ _ 36 rfl w.heap.size 69 i0 (.agg #[.int .i64 0, .int .i64 0, .int .i64 0]) 3 24 Try.underlying36 hi hz0 hz1 hz2 rfl (by decide) _ _ _ rfl (OwnG.alloc O10.out _) ⟨w10.heap.size, 0, none⟩ 1 1 [.int .i64 D, .int .i64 (3 - P - Q), .int .i64 Q] rfl rfl (World.news_of_block (cs := #[.int .i64 D, .int .i64 (3 - P - Q), .int .i64 Q]) (t := 69) (fr := (0, 0)) (heap_alloc_new w10 _)) (by simp [Value.oneCell']) (by unfold maxLen; omega) (by omega) (by simp; omega) ?_; intro v' w11 hown' hgrow _; obtain ⟨A11, c11, rfl⟩ := ownG_shape hown'; have OO := Lib.hid hown'; have Y11 := Lib.hid (OwnG.grown_box O10.out hgrow Y10.out (by decide)); have HB11 := Lib.hid (HB10.out.trans (OwnG.grown_below O10.out hgrow (Nat.le_refl _) hs10)); clear hown' hgrow; obtain ⟨y0, y1, _, _⟩ := Y11.out.two)
        have O11 := Lib.hid (own_snoc OO.out)
        have hs11 := HB11.out.size
        clear OO O10 Y10 HB10
        go_wp2_with fail
        refine (l02Way_calls (some ad') D d (M.take D) P _ HMT.out (by omega) (fun h => by cases h) (HJT.out _ HB11.out) HPMT.out ⟨hP0, hP1⟩).mono ?_
        rintro e w6 ⟨A6, c6, rfl, hO, hb⟩
        have OW := Lib.hid hO
        have O6 := Lib.hid (OwnG.below O11.out hb)
        have HB6 := Lib.hid (HB11.out.trans (hb.mono HB11.out.size))
        clear hO hb Y11 O11 HB11 y0 y1
        go_wp2_with fail
        refine (l02Back_calls A6 (wayL (M.take D) (P)).length c6 (wayL (M.take D) (P)) _ rfl (by omega) (OwnM.mvs OW.out)).mono ?_
        rintro e w7 ⟨A7, c7, rfl, hO, hb⟩
        have OB := Lib.hid hO
        have O7 := Lib.hid (OwnG.below O6.out hb)
        have HB7 := Lib.hid (HB6.out.trans (hb.mono HB6.out.size))
        have hs7 := HB7.out.size
        have HQB := Lib.hid (bkL_len (wayL (M.take D) (P)))
        clear hO hb O6 HB6 OW
        go_wp2_with (at_builtin; refine wpList_append_mvs rfl _ _ rfl w.heap.size _ _ _ _ rfl O7.out _ _ _ _ _ rfl OB.out (by have h := HQB.out; omega) hs7 ?_; intro A8 c8 w8 hO hg; have O8 := Lib.hid hO; have HB8 := Lib.hid (HB7.out.trans (grown_belowN O7.out hg (Nat.le_refl _) hs7)); clear hO hg)
        go_ret2
        refine ret_of_own rfl O8.out ?_ HB8.out
        rw [← HE.out]
        unfold w2L
        simp
  · have hz' : (code2 p L q M != 0) = true := by simpa using hz
    rw [wbL_no hz]
    clear hz
    go_enter Try.func18, Try.ntmps18
    go_wp2_with fail
    refine (l02Code_two (w.heap.size + 1 + 1) A n c p L B m d q M _ Z0.out HL.out hn HI0.out HM.out hm HJ0.out).mono ?_
    rintro e w1 ⟨rfl, hb⟩
    have HB1 := Lib.hid (HB0.out.trans (hb.mono HB0.out.size))
    clear hb X0 Y0 Z0 HI0 HJ0 HB0
    go_wp2
    go_ret2
    exact retMvs_zero rfl HB1.out

end Go.Proofs.Ytbcgomimfgggnaa

namespace Go.Proofs.Ytbcgomimfgggnaa

section
variable {P : Program} {b : Frame} {a : Act} {k : List Item} {cs : List Frame} {w : World} {Q : Exit → Act → World → Prop} {F : Fence} {n : Nat}
theorem stepR_scopeS {c : Code} : step P (lone (b.atR a (.code (.scope c) :: k)) cs w) = .next (lone (b.atR a (.code c :: .inScope c :: k)) cs w) :=
  step_lone_go (by simp [stepG, stepG.exec, Frame.atR])
theorem stepR_inScopeS {c : Code} : step P (lone (b.atR a (.inScope c :: k)) cs w) = .next (lone (b.atR a k) cs w) :=
  step_lone_go (by simp [stepG, stepG.exec, Frame.atR])

/-- The fenced twin of the base's law: what holds at every jump, with a number that every pass lowers. -/
theorem wpIn_scope_ghost {c rest : Code} (l : Nat) (J : Nat → Act → World → Prop) (hf : findLabel c l = some rest)
    (first : c.wpIn F n P (Exit.jump l (fun a' w' => ∃ j, J j a' w') Q) a w)
    (pass : ∀ j a w, J j a w → rest.wpIn F n P (Exit.jump l (fun a' w' => ∃ j', J j' a' w' ∧ j' < j) Q) a w) : (Code.scope c).wpIn F n P Q a w := by
  intro b k cs hro hb hr
  have hg : gotoIn l (.inScope c :: k) = some (.code rest :: .inScope c :: k) := by simp [gotoIn, hf]
  have hx : ∀ id, exitTo id (.inScope c :: k) = exitTo id k := fun id => by simp [exitTo]
  have key : ∀ j a w, J j a w → ∃ e a' w', Q e a' w' ∧ ArrivesIn (Machine.fenced P F) P (lone (b.atR a (.code rest :: .inScope c :: k)) cs w) b k cs e a' w' := by
    intro j
    induction j using Nat.strongRecOn with
    | _ j ih =>
      intro a w hJ
      obtain ⟨e, a₁, w₁, hq, harr⟩ := pass j a w hJ b (.inScope c :: k) cs hro hb hr
      cases e with
      | normal => exact ⟨.normal, a₁, w₁, hq, StepsIn.trans harr (.one (fenced_calm hb hr rfl) stepR_inScopeS)⟩
      | exit id => exact ⟨.exit id, a₁, w₁, hq, fun k' hk => harr.1 k' (by rw [hx]; exact hk), fun hr' hk => harr.2 hr' (by rw [hx]; exact hk)⟩
      | goto l' =>
        obtain ⟨rfl, j', hJ', hlt⟩ := hq
        obtain ⟨e₂, a₂, w₂, hq₂, harr₂⟩ := ih j' hlt a₁ w₁ hJ'
        exact ⟨e₂, a₂, w₂, hq₂, .of_steps (harr.1 _ hg) harr₂⟩
      | ret => exact ⟨_, a₁, w₁, hq, harr⟩
      | panic ch => exact ⟨_, a₁, w₁, hq, harr⟩
      | outgrown => exact ⟨_, a₁, w₁, hq, harr⟩
  have h0 : (lone (b.atR a (.code (.scope c) :: k)) cs w).fenced P F := fenced_calm hb hr rfl
  obtain ⟨e, a₁, w₁, hq, harr⟩ := first b (.inScope c :: k) cs hro hb hr
  cases e with
  | normal => exact ⟨.normal, a₁, w₁, hq, .head h0 stepR_scopeS (StepsIn.trans harr (.one (fenced_calm hb hr rfl) stepR_inScopeS))⟩
  | exit id => exact ⟨.exit id, a₁, w₁, hq, fun k' hk => .head h0 stepR_scopeS (harr.1 k' (by rw [hx]; exact hk)), fun hr' hk => let ⟨k₁, h1, h2⟩ := harr.2 hr' (by rw [hx]; exact hk); ⟨k₁, h1, .head h0 stepR_scopeS h2⟩⟩
  | goto l' =>
    obtain ⟨rfl, j', hJ'⟩ := hq
    obtain ⟨e₂, a₂, w₂, hq₂, harr₂⟩ := key j' a₁ w₁ hJ'
    exact ⟨e₂, a₂, w₂, hq₂, .of_steps (.head h0 stepR_scopeS (harr.1 _ hg)) harr₂⟩
  | ret => exact ⟨_, a₁, w₁, hq, .of_steps (.one h0 stepR_scopeS) harr⟩
  | panic ch => exact ⟨_, a₁, w₁, hq, .of_steps (.one h0 stepR_scopeS) harr⟩
  | outgrown => exact ⟨_, a₁, w₁, hq, .of_steps (.one h0 stepR_scopeS) harr⟩

/-- A scope that begins with A and has its label behind it: the rest is walked once. -/
theorem wpIn_scope_once {A R : Code} (l : Nat) (J : Nat → Act → World → Prop) (hf : findLabel (A.seq ((Code.label l).seq R)) l = some (Code.skip.seq R))
    (first : A.wpIn F n P (Exit.then (fun a' w' => ∃ j, J j a' w') (fun _ _ _ => False)) a w)
    (pass : ∀ j a w, J j a w → R.wpIn F n P (Exit.jump l (fun a' w' => ∃ j', J j' a' w' ∧ j' < j) Q) a w) : (Code.scope (A.seq ((Code.label l).seq R))).wpIn F n P Q a w := by
  refine wpIn_scope_ghost l J hf (wpIn_seq (wpIn_mono first ?_)) (fun j a w h => wpIn_seq (wpIn_skip (pass j a w h)))
  rintro (_ | _ | _ | _ | _ | _) a w h <;> first | exact h.elim | skip
  obtain ⟨j, h⟩ := h
  refine wpIn_seq (wpIn_label (wpIn_mono (pass j a w h) ?_))
  rintro (_ | _ | _ | _ | _ | _) a w h <;> first | exact h | skip
  obtain ⟨h1, j', h2, _⟩ := h
  exact ⟨h1, j', h2⟩
end

end Go.Proofs.Ytbcgomimfgggnaa
