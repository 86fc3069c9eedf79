/- Contracts: the way to a perfect state, by the specification's model. -/
import Derived.Test.YtmpmkhfbfaicpaaWayP
import Derived.Test.YtmpmkhfbfaicpaaGoals
import Derived.Test.YtmpmkhfbfaicpaaDone
import Derived.Test.YtmpmkhfbfaicpaaMvS
import Derived.BigQuiet
import Derived.Deep.AppendLies
import Derived.Deep.RegionLaw
namespace Go.Proofs.Ytmpmkhfbfaicpaa
open Go.RowKit
set_option linter.unusedVariables false

/-- The length that a slice names. -/
def lnW : Value → Nat
  | .slice _ n _ => n
  | _ => 0
theorem OwnG.drewW {e size B n c : Nat} {w : World} {A : Option Addr} {xs : List Value} (h : OwnG e size B w A n c xs) : OwnG e size B w.drew A n c xs := h
theorem OwnG.otherW {e e' size size' B B' : Nat} {w w1 : World} {o : Obj} {A A' : Option Addr} {n c n' c' : Nat} {xs xs' : List Value} (h : OwnG e size B w A n c xs) (h' : OwnG e' size' B' w A' n' c' xs') (hg : (w.alloc o).grownBy w1 (Value.slice A' n' c').ownBlock) (ht : e ≠ e') : OwnG e size B w1 A n c xs := by
  refine (h.alloc o).kept hg ?_
  rintro g rfl hr
  rcases h'.form with ⟨rfl, rfl, rfl⟩ | ⟨g', rfl, _, _⟩
  · simp [Value.ownBlock] at hr
  · simp only [Value.ownBlock, Option.some.injEq] at hr
    subst hr
    rcases h.2 with ⟨hv, _⟩ | ⟨g1, cap, cur, hv, _, hh, _⟩
    · simp at hv
    · injection hv with h1
      injection h1 with h1
      injection h1 with h1
      subst h1
      rcases h'.2 with ⟨hv2, _⟩ | ⟨g2, cap2, cur2, hv2, _, hh2, _⟩
      · simp at hv2
      · injection hv2 with h1
        injection h1 with h1
        injection h1 with h1
        subst h1
        rw [hh] at hh2
        injection hh2 with hh2
        injection hh2 with _ h3
        exact ht h3
theorem grown_undrewW {w w' : World} {r : Option Nat} (h : w.drew.grownBy w' r) : w.grownBy w' r := ⟨h.os, h.tape, h.output, h.size, h.block⟩
theorem own_of_row {w : World} {g : Nat} {L : List Int} {B n : Nat} (h : Row w g 2 L) (hB : B ≤ g) (hL : L.length = n) (hn : n ≤ 8) : OwnG 2 1 B w (some ⟨g, 0, none⟩) n n (L.map (Value.int .i64)) := by
  subst hL
  exact Row.own h hB (by omega)
theorem intsW {B : Nat} {w : World} {A : Option Addr} {n c : Nat} {L : List Int} (h : OwnG 2 1 B w A n c (L.map (Value.int .i64))) : Ints w A L := Own.ints (B := B) (n := n) (c := c) h

theorem neW {e e' size size' B B' n c n' c' g g' : Nat} {w : World} {xs xs' : List Value} (h : OwnG e size B w (some ⟨g, 0, none⟩) n c xs) (h' : OwnG e' size' B' w (some ⟨g', 0, none⟩) n' c' xs') (ht : e ≠ e') : g ≠ g' := by
  rintro rfl
  rcases h.2 with ⟨hv, _⟩ | ⟨g1, cap, cur, hv, _, hh, _⟩
  · simp at hv
  · injection hv with h1
    injection h1 with h1
    injection h1 with h1
    subst h1
    rcases h'.2 with ⟨hv2, _⟩ | ⟨g2, cap2, cur2, hv2, _, hh2, _⟩
    · simp at hv2
    · injection hv2 with h1
      injection h1 with h1
      injection h1 with h1
      subst h1
      rw [hh] at hh2
      injection hh2 with hh2
      injection hh2 with _ h3
      exact ht h3

theorem ownAtW {B : Nat} {w : World} {A : Option Addr} {n c : Nat} {L : List Int} (h : OwnG 2 1 B w A n c (L.map (Value.int .i64))) (hL : L.length = n) {k : Nat} (hk : k < n) : ∃ g, A = some ⟨g, 0, none⟩ ∧ B ≤ g ∧ g < w.heap.size ∧ w.cell? ⟨g, k, none⟩ = some (.int .i64 (L[k]?.getD 0)) := by
  obtain ⟨g, h1, h2, h3, h4⟩ := OwnG.cell h k (by omega)
  refine ⟨g, h1, h2, h3, ?_⟩
  rw [h4, List.getElem?_map, List.getElem?_eq_getElem (by omega)]
  rfl

set_option maxHeartbeats 4000000 in
theorem l02Way_calls (A : Option Addr) (n c : Nat) (L : List Int) (a : Int) (w : World) (hL : L.length = n) (hn : n ≤ 8) (hA : A = none → c = 0) (hI : Ints w A L) (hp : pegsOk L) (ha : 0 ≤ a ∧ a ≤ 2) :
    Calls Try.prog 22 #[.slice A n c, .int .i64 a] w fun e w' => ∃ A' c', e = .returned (.slice A' (wayL L a).length c') ∧ OwnM w.heap.size w' A' (wayL L a).length c' (wayL L a) ∧ Below w.heap.size w w' := by
  obtain ⟨i0, hi, hz0, hz1, hz2⟩ := info_parts Try.infoM
  have HL := Lib.hid hL
  have HP := Lib.hid hp
  have HWL := Lib.hid (show (wayL L a).length ≤ 255 from wayL_bd (by omega))
  clear hL hp
  go_enter Try.func22, Try.ntmps22
  go_wp2_with fail
  refine (l01Own_calls A n c L _ HL.out (by omega) hA hI).mono ?_
  rintro e w1 ⟨An, cn, rfl, hO, hb⟩
  have HO0 := Lib.hid (show OwnG 2 1 w.heap.size w1 An n cn (L.map (Value.int .i64)) from hO)
  have HB0 := Lib.hid hb
  have hs1 := hb.size
  clear hO hb hI
  go_wp2_with fail
  go_loopw [6, 7, 8] (fun o _ _ wr => ∃ (Lc : List Int) (M : List Mv) (A' : Option Addr) (q c' : Nat), o = .slice A' q c' ∧ Hid (wayL L a = M ++ wayL Lc a) ∧ Hid (Lc.length = n) ∧ Hid (pegsOk Lc) ∧ OwnM w.heap.size wr A' q c' M ∧ OwnG 2 1 w.heap.size wr An n cn (Lc.map (Value.int .i64)) ∧ Below w.heap.size w wr) (fun o _ _ _ => 255 - lnW o)
  case atStart =>
    have e2 := Box.new w1 27 #[]
    exact ⟨L, [], _, _, _, rfl, Lib.hid rfl, HL, HP, OwnG.emptyAt e2 hs1, OwnG.alloc HO0.out _, HB0.out.alloc hs1 _⟩
  case round =>
    obtain ⟨Lc, M, A', q, c', rfl, HW, HLc, HPc, hM, hN, hb⟩ := hrel
    have HM := Lib.hid hM
    have HN := Lib.hid hN
    have HB := Lib.hid hb
    have hsr := hb.size
    clear hM hN hb HO0 HB0
    go_wp2_with fail
    refine (l02Goals_calls An n cn Lc a _ HLc.out hn (intsW HN.out) HPc.out ha).mono ?_
    rintro e w2 ⟨g, rfl, hg, hrow, hb2⟩
    have HG := Lib.hid (own_of_row (B := w.heap.size) hrow (by omega) (by rw [goalsL_len]; exact HLc.out) hn)
    have HM2 := Lib.hid (OwnG.below HM.out hb2)
    have HN2 := Lib.hid (OwnG.below HN.out hb2)
    have HB2 := Lib.hid (HB.out.trans (hb2.mono hsr))
    have hs2 := HB2.out.size
    have HD := Lib.hid (show ∃ G, goalsL Lc a = G ∧ True from ⟨_, rfl, trivial⟩)
    clear hg hrow hb2 HM HN HB
    go_wp2
    go_loopw [8] (fun d wr' => ∃ j : Nat, j ≤ n ∧ d = .int .i64 j ∧ Hid (∀ i, i < j → Lc[i]?.getD 0 = (goalsL Lc a)[i]?.getD 0) ∧ ∃ m, wr' = w2.drewN m) (fun d _ => n - (intOf d).toNat)
    case atStart => exact ⟨0, Nat.zero_le _, rfl, Lib.hid (fun i hi => absurd hi (by omega)), 0, rfl⟩
    case round =>
      obtain ⟨j, hj, rfl, HS, m, rfl⟩ := hrel
      by_cases hlt : j < n
      · obtain ⟨gn, rfl, hBn, hgnl, hcn⟩ := ownAtW HN2.out HLc.out hlt
        obtain ⟨_, hag, hBg, hgl, hcg⟩ := ownAtW HG.out (by rw [goalsL_len]; exact HLc.out) hlt
        injection hag with hag
        injection hag with hag
        subst hag
        have hk0 : (0 : Int) ≤ (j : Int) := by omega
        have hk1 : (j : Int) < (n : Int) := by omega
        by_cases hne : Lc[j]?.getD 0 = (goalsL Lc a)[j]?.getD 0
        · have ht : (Lc[j]?.getD 0 == (goalsL Lc a)[j]?.getD 0) = true := by simpa using hne
          have HS2 := Lib.hid (show ∀ i, i < j + 1 → Lc[i]?.getD 0 = (goalsL Lc a)[i]?.getD 0 from fun i hi => by
            by_cases h : i = j
            · rw [h]; exact hne
            · exact HS.out i (by omega))
          clear hne
          go_wp2_with fail
          go_quiet (fail)
          go_wp2
          go_roundw
          case rel => exact ⟨j + 1, by omega, by go_num, HS2, by first | exact ⟨_, rfl⟩ | exact ⟨_, World.drewN_drewN _ _ _⟩⟩
          case measure => simp [intOf]; omega
        · have ht : (Lc[j]?.getD 0 == (goalsL Lc a)[j]?.getD 0) = false := by simpa using hne
          have HF := Lib.hid (fdW_is Lc a (by rw [HLc.out]; exact hlt) HS.out hne)
          clear hne
          go_wp2_with fail
          go_quiet (fail)
          go_wp2
          generalize hWW : w2.drewN _ = W
          have HMW := Lib.hid (show OwnM w.heap.size W A' q c' M by rw [← hWW]; exact HM2.out)
          have HNW := Lib.hid (show OwnG 2 1 w.heap.size W (some ⟨gn, 0, none⟩) n cn (Lc.map (Value.int .i64)) by rw [← hWW]; exact HN2.out)
          have HGW := Lib.hid (show OwnG 2 1 w.heap.size W (some ⟨g, 0, none⟩) n n ((goalsL Lc a).map (Value.int .i64)) by rw [← hWW]; exact HG.out)
          have HBW := Lib.hid (show Below w.heap.size w W by rw [← hWW]; exact belowDraws HB2.out _)
          have hszW := HBW.out.size
          have HQ := Lib.hid (OwnM.len HM2.out)
          have hmore := wayL_more HPc.out ha (by rw [HF.out, HLc.out]; exact hlt)
          have HMV := Lib.hid (show mvW Lc a = ((j : Int), Lc[j]?.getD 0, (goalsL Lc a)[j]?.getD 0) by unfold mvW; rw [HF.out])
          have HST := Lib.hid (show stepW Lc a = Lc.set j ((goalsL Lc a)[j]?.getD 0) by unfold stepW; rw [HF.out])
          have HW' := Lib.hid (show wayL L a = (M ++ [((j : Int), Lc[j]?.getD 0, (goalsL Lc a)[j]?.getD 0)]) ++ wayL (stepW Lc a) a by rw [HW.out, hmore, HMV.out]; simp)
          have HLs := Lib.hid (show (stepW Lc a).length = n by rw [stepW_len]; exact HLc.out)
          have HPs := Lib.hid (stepW_pegs Lc a HPc.out ha)
          have hq : q < 255 := by
            have h1 := HWL.out
            rw [HW'.out] at h1
            simp only [List.length_append, List.length_cons, List.length_nil, HQ.out] at h1
            omega
          clear hcn hcg hmore hWW HM2 HN2 HG HB2 hgnl hgl HS ht
          obtain ⟨_, h0, _, hgnl, hcn⟩ := ownAtW HNW.out HLc.out hlt
          injection h0 with h0
          injection h0 with h0
          subst h0
          obtain ⟨_, h0, _, hgl, hcg⟩ := ownAtW HGW.out (by rw [goalsL_len]; exact HLc.out) hlt
          injection h0 with h0
          injection h0 with h0
          subst h0
          have HGOAL := Lib.hid (show (goalsL Lc a)[j]?.getD 0 = (goalsL Lc a)[j]?.getD 0 from rfl)
          go_region_law ((refine step_append_lies _ (by rfl) _ _ _ (by rfl) w.heap.size 27 i0 (.agg #[.int .i64 0, .int .i64 0, .int .i64 0]) 3 24 Try.underlying35 hi hz0 hz1 hz2 rfl (by decide) (.slice A' q c') q (mvCells M) (by rfl) ((OwnG.alloc HMW.out _).drewW) ⟨W.heap.size, 0, none⟩ 1 1 [.int .i64 j, .int .i64 (Lc[j]?.getD 0), .int .i64 ((goalsL Lc a)[j]?.getD 0)] (by rfl) (by rfl) (World.news_of_block (cs := #[.int .i64 j, .int .i64 (Lc[j]?.getD 0), .int .i64 ((goalsL Lc a)[j]?.getD 0)]) (t := 27) (fr := (0, 0)) (heap_alloc_new W _)) (by simp [Value.oneCell']) (by omega) (by unfold maxLen; omega) (by omega) (by simp; omega) (W.heap.size + 1) (by simp) ?_; intro gg cap w4 hown1 hgrow hat hlt2; have O4 := Lib.hid hown1; have HGR := Lib.hid (grown_undrewW hgrow); clear hown1 hgrow hat))
          all_goals
            have B4 := Lib.hid (HBW.out.trans (OwnG.grown_below HMW.out HGR.out (Nat.le_refl _) hszW))
            have N4 := Lib.hid (OwnG.otherW HNW.out HMW.out HGR.out (by decide))
            have G4 := Lib.hid (OwnG.otherW HGW.out HMW.out HGR.out (by decide))
            have O5 := Lib.hid (show OwnM w.heap.size w4 (some ⟨gg, 0, none⟩) (q + 1) cap (M ++ [((j : Int), Lc[j]?.getD 0, (goalsL Lc a)[j]?.getD 0)]) by unfold OwnM; rw [mvCells_snoc]; exact O4.out)
            clear hcn hcg
            obtain ⟨_, h0, _, hgnl4, hcn⟩ := ownAtW N4.out HLc.out hlt
            injection h0 with h0
            injection h0 with h0
            subst h0
            obtain ⟨_, h0, _, hgl4, hcg⟩ := ownAtW G4.out (by rw [goalsL_len]; exact HLc.out) hlt
            injection h0 with h0
            injection h0 with h0
            subst h0
            have hfz := OwnG.frozen N4.out rfl j
            go_wp2
            go_roundw
            case rel =>
              refine ⟨stepW Lc a, _, _, _, _, rfl, HW', HLs, HPs, OwnG.setBox O5.out (by rintro _ h; injection h with h; injection h with h; subst h; exact neW O5.out N4.out (by decide)) _, ?_, B4.out.setCell hBn _⟩
              have st := (World.ownsRow.stored N4.out j (.int .i64 ((goalsL Lc a)[j]?.getD 0))).1
              rw [HST.out]
              rw [List.map_set]
              exact st
            case measure => simp [lnW]; omega
      · obtain rfl : j = n := by omega
        have hd : decide ((j : Int) < (j : Int)) = false := by simp
        have HF := Lib.hid (fdW_all Lc a (fun i hi => HS.out i (by rw [HLc.out] at hi; exact hi)))
        have HE := Lib.hid (show M = wayL L a by rw [HW.out, wayL_end HF.out, List.append_nil])
        have hq := OwnM.len HM2.out
        rw [HE.out] at hq
        subst hq
        go_wp2_with fail
        go_quiet (fail)
        go_wp2
        go_ret
        exact ⟨A', c', rfl, by have h := HM2.out; rw [HE.out] at h; exact h, belowDraws HB2.out _⟩

end Go.Proofs.Ytmpmkhfbfaicpaa
