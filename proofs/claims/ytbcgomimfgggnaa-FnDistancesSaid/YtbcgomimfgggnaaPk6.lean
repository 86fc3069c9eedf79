/- Contracts: the way to a perfect state, by the specification's model. · Contracts: WayBetween, by the specification's model. · A scope with one label, inside a fence: the run may jump back to the label. No program. · Contracts: slices.Clone of a list of integers. · A range over a function whose elements lie in memory: the iterator tells the round what is known of the element in the world at hand. A law over the library's base law; no program. · The iterator of the way, by the program: what it owes to its rounds. · A range over a function that keeps a private list between its yields. A law over the library's base law; no program. -/
import Derived.Test.YtbcgomimfgggnaaPk3
import Derived.Test.YtbcgomimfgggnaaPk2
import Derived.Test.YtbcgomimfgggnaaPk5
import Derived.Test.YtbcgomimfgggnaaPk4
import Derived.BigQuiet
import Derived.Deep.AppendLies
import Derived.Deep.RegionLaw
import Derived.Laws.AppendOwnNone
import Derived.IntWalk
import Derived.Deep.Cut
import Derived.ScopeJumps
import Derived.ControlIn
import Derived.WalkMore
import Derived.Test.YtbcgomimfgggnaaPk1
import Derived.Laws.Cover3
namespace Go.Proofs.Ytbcgomimfgggnaa
open Go.RowKit
set_option linter.unusedVariables false
set_option maxRecDepth 100000

/-- The length that a slice names. -/
def lnW : Value → Nat
  | .slice _ n _ => n
  | _ => 0
theorem OwnG.drewW {e size B n c : Nat} {w : World} {A : Option Addr} {xs : List Value} (h : OwnG e size B w A n c xs) : OwnG e size B w.drew A n c xs := h
theorem OwnG.otherW {e e' size size' B B' : Nat} {w w1 : World} {o : Obj} {A A' : Option Addr} {n c n' c' : Nat} {xs xs' : List Value} (h : OwnG e size B w A n c xs) (h' : OwnG e' size' B' w A' n' c' xs') (hg : (w.alloc o).grownBy w1 (Value.slice A' n' c').ownBlock) (ht : e ≠ e') : OwnG e size B w1 A n c xs := by
  refine (h.alloc o).kept hg ?_
  rintro g rfl hr
  rcases h'.form with ⟨rfl, rfl, rfl⟩ | ⟨g', rfl, _, _⟩
  · simp [Value.ownBlock] at hr
  · simp only [Value.ownBlock, Option.some.injEq] at hr
    subst hr
    rcases h.2 with ⟨hv, _⟩ | ⟨g1, cap, cur, hv, _, hh, _⟩
    · simp at hv
    · injection hv with h1
      injection h1 with h1
      injection h1 with h1
      subst h1
      rcases h'.2 with ⟨hv2, _⟩ | ⟨g2, cap2, cur2, hv2, _, hh2, _⟩
      · simp at hv2
      · injection hv2 with h1
        injection h1 with h1
        injection h1 with h1
        subst h1
        rw [hh] at hh2
        injection hh2 with hh2
        injection hh2 with _ h3
        exact ht h3
theorem grown_undrewW {w w' : World} {r : Option Nat} (h : w.drew.grownBy w' r) : w.grownBy w' r := ⟨h.os, h.tape, h.output, h.size, h.block⟩
theorem own_of_row {w : World} {g : Nat} {L : List Int} {B n : Nat} (h : Row w g 2 L) (hB : B ≤ g) (hL : L.length = n) (hn : n ≤ 8) : OwnG 2 1 B w (some ⟨g, 0, none⟩) n n (L.map (Value.int .i64)) := by
  subst hL
  exact Row.own h hB (by omega)
theorem intsW {B : Nat} {w : World} {A : Option Addr} {n c : Nat} {L : List Int} (h : OwnG 2 1 B w A n c (L.map (Value.int .i64))) : Ints w A L := Own.ints (B := B) (n := n) (c := c) h

theorem neW {e e' size size' B B' n c n' c' g g' : Nat} {w : World} {xs xs' : List Value} (h : OwnG e size B w (some ⟨g, 0, none⟩) n c xs) (h' : OwnG e' size' B' w (some ⟨g', 0, none⟩) n' c' xs') (ht : e ≠ e') : g ≠ g' := by
  rintro rfl
  rcases h.2 with ⟨hv, _⟩ | ⟨g1, cap, cur, hv, _, hh, _⟩
  · simp at hv
  · injection hv with h1
    injection h1 with h1
    injection h1 with h1
    subst h1
    rcases h'.2 with ⟨hv2, _⟩ | ⟨g2, cap2, cur2, hv2, _, hh2, _⟩
    · simp at hv2
    · injection hv2 with h1
      injection h1 with h1
      injection h1 with h1
      subst h1
      rw [hh] at hh2
      injection hh2 with hh2
      injection hh2 with _ h3
      exact ht h3

theorem ownAtW {B : Nat} {w : World} {A : Option Addr} {n c : Nat} {L : List Int} (h : OwnG 2 1 B w A n c (L.map (Value.int .i64))) (hL : L.length = n) {k : Nat} (hk : k < n) : ∃ g, A = some ⟨g, 0, none⟩ ∧ B ≤ g ∧ g < w.heap.size ∧ w.cell? ⟨g, k, none⟩ = some (.int .i64 (L[k]?.getD 0)) := by
  obtain ⟨g, h1, h2, h3, h4⟩ := OwnG.cell h k (by omega)
  refine ⟨g, h1, h2, h3, ?_⟩
  rw [h4, List.getElem?_map, List.getElem?_eq_getElem (by omega)]
  rfl

set_option maxHeartbeats 4000000 in
theorem l02Way_calls (A : Option Addr) (n c : Nat) (L : List Int) (a : Int) (w : World) (hL : L.length = n) (hn : n ≤ 8) (hA : A = none → c = 0) (hI : Ints w A L) (hp : pegsOk L) (ha : 0 ≤ a ∧ a ≤ 2) :
    Calls Try.prog 50 #[.slice A n c, .int .i64 a] w fun e w' => ∃ A' c', e = .returned (.slice A' (wayL L a).length c') ∧ OwnM w.heap.size w' A' (wayL L a).length c' (wayL L a) ∧ Below w.heap.size w w' := by
  obtain ⟨i0, hi, hz0, hz1, hz2⟩ := info_parts Try.infoM
  have HL := Lib.hid hL
  have HP := Lib.hid hp
  have HWL := Lib.hid (show (wayL L a).length ≤ 255 from wayL_bd (by omega))
  clear hL hp
  go_enter Try.func50, Try.ntmps50
  go_wp2_with fail
  refine (l01Own_calls A n c L _ HL.out (by omega) hA hI).mono ?_
  rintro e w1 ⟨An, cn, rfl, hO, hb⟩
  have HO0 := Lib.hid (show OwnG 2 1 w.heap.size w1 An n cn (L.map (Value.int .i64)) from hO)
  have HB0 := Lib.hid hb
  have hs1 := hb.size
  clear hO hb hI
  go_wp2_with fail
  go_loopw [6, 7, 8] (fun o _ _ wr => ∃ (Lc : List Int) (M : List Mv) (A' : Option Addr) (q c' : Nat), o = .slice A' q c' ∧ Hid (wayL L a = M ++ wayL Lc a) ∧ Hid (Lc.length = n) ∧ Hid (pegsOk Lc) ∧ OwnM w.heap.size wr A' q c' M ∧ OwnG 2 1 w.heap.size wr An n cn (Lc.map (Value.int .i64)) ∧ Below w.heap.size w wr) (fun o _ _ _ => 255 - lnW o)
  case atStart =>
    have e2 := Box.new w1 69 #[]
    exact ⟨L, [], _, _, _, rfl, Lib.hid rfl, HL, HP, OwnG.emptyAt e2 hs1, OwnG.alloc HO0.out _, HB0.out.alloc hs1 _⟩
  case round =>
    obtain ⟨Lc, M, A', q, c', rfl, HW, HLc, HPc, hM, hN, hb⟩ := hrel
    have HM := Lib.hid hM
    have HN := Lib.hid hN
    have HB := Lib.hid hb
    have hsr := hb.size
    clear hM hN hb HO0 HB0
    go_wp2_with fail
    refine (l02Goals_calls An n cn Lc a _ HLc.out hn (intsW HN.out) HPc.out ha).mono ?_
    rintro e w2 ⟨g, rfl, hg, hrow, hb2⟩
    have HG := Lib.hid (own_of_row (B := w.heap.size) hrow (by omega) (by rw [goalsL_len]; exact HLc.out) hn)
    have HM2 := Lib.hid (OwnG.below HM.out hb2)
    have HN2 := Lib.hid (OwnG.below HN.out hb2)
    have HB2 := Lib.hid (HB.out.trans (hb2.mono hsr))
    have hs2 := HB2.out.size
    have HD := Lib.hid (show ∃ G, goalsL Lc a = G ∧ True from ⟨_, rfl, trivial⟩)
    clear hg hrow hb2 HM HN HB
    go_wp2
    go_loopw [8] (fun d wr' => ∃ j : Nat, j ≤ n ∧ d = .int .i64 j ∧ Hid (∀ i, i < j → Lc[i]?.getD 0 = (goalsL Lc a)[i]?.getD 0) ∧ ∃ m, wr' = w2.drewN m) (fun d _ => n - (intOf d).toNat)
    case atStart => exact ⟨0, Nat.zero_le _, rfl, Lib.hid (fun i hi => absurd hi (by omega)), 0, rfl⟩
    case round =>
      obtain ⟨j, hj, rfl, HS, m, rfl⟩ := hrel
      by_cases hlt : j < n
      · obtain ⟨gn, rfl, hBn, hgnl, hcn⟩ := ownAtW HN2.out HLc.out hlt
        obtain ⟨_, hag, hBg, hgl, hcg⟩ := ownAtW HG.out (by rw [goalsL_len]; exact HLc.out) hlt
        injection hag with hag
        injection hag with hag
        subst hag
        have hk0 : (0 : Int) ≤ (j : Int) := by omega
        have hk1 : (j : Int) < (n : Int) := by omega
        by_cases hne : Lc[j]?.getD 0 = (goalsL Lc a)[j]?.getD 0
        · have ht : (Lc[j]?.getD 0 == (goalsL Lc a)[j]?.getD 0) = true := by simpa using hne
          have HS2 := Lib.hid (show ∀ i, i < j + 1 → Lc[i]?.getD 0 = (goalsL Lc a)[i]?.getD 0 from fun i hi => by
            by_cases h : i = j
            · rw [h]; exact hne
            · exact HS.out i (by omega))
          clear hne
          go_wp2_with fail
          go_quiet (fail)
          go_wp2
          go_roundw
          case rel => exact ⟨j + 1, by omega, by go_num, HS2, by first | exact ⟨_, rfl⟩ | exact ⟨_, World.drewN_drewN _ _ _⟩⟩
          case measure => simp [intOf]; omega
        · have ht : (Lc[j]?.getD 0 == (goalsL Lc a)[j]?.getD 0) = false := by simpa using hne
          have HF := Lib.hid (fdW_is Lc a (by rw [HLc.out]; exact hlt) HS.out hne)
          clear hne
          go_wp2_with fail
          go_quiet (fail)
          go_wp2
          generalize hWW : w2.drewN _ = W
          have HMW := Lib.hid (show OwnM w.heap.size W A' q c' M by rw [← hWW]; exact HM2.out)
          have HNW := Lib.hid (show OwnG 2 1 w.heap.size W (some ⟨gn, 0, none⟩) n cn (Lc.map (Value.int .i64)) by rw [← hWW]; exact HN2.out)
          have HGW := Lib.hid (show OwnG 2 1 w.heap.size W (some ⟨g, 0, none⟩) n n ((goalsL Lc a).map (Value.int .i64)) by rw [← hWW]; exact HG.out)
          have HBW := Lib.hid (show Below w.heap.size w W by rw [← hWW]; exact belowDraws HB2.out _)
          have hszW := HBW.out.size
          have HQ := Lib.hid (OwnM.len HM2.out)
          have hmore := wayL_more HPc.out ha (by rw [HF.out, HLc.out]; exact hlt)
          have HMV := Lib.hid (show mvW Lc a = ((j : Int), Lc[j]?.getD 0, (goalsL Lc a)[j]?.getD 0) by unfold mvW; rw [HF.out])
          have HST := Lib.hid (show stepW Lc a = Lc.set j ((goalsL Lc a)[j]?.getD 0) by unfold stepW; rw [HF.out])
          have HW' := Lib.hid (show wayL L a = (M ++ [((j : Int), Lc[j]?.getD 0, (goalsL Lc a)[j]?.getD 0)]) ++ wayL (stepW Lc a) a by rw [HW.out, hmore, HMV.out]; simp)
          have HLs := Lib.hid (show (stepW Lc a).length = n by rw [stepW_len]; exact HLc.out)
          have HPs := Lib.hid (stepW_pegs Lc a HPc.out ha)
          have hq : q < 255 := by
            have h1 := HWL.out
            rw [HW'.out] at h1
            simp only [List.length_append, List.length_cons, List.length_nil, HQ.out] at h1
            omega
          clear hcn hcg hmore hWW HM2 HN2 HG HB2 hgnl hgl HS ht
          obtain ⟨_, h0, _, hgnl, hcn⟩ := ownAtW HNW.out HLc.out hlt
          injection h0 with h0
          injection h0 with h0
          subst h0
          obtain ⟨_, h0, _, hgl, hcg⟩ := ownAtW HGW.out (by rw [goalsL_len]; exact HLc.out) hlt
          injection h0 with h0
          injection h0 with h0
          subst h0
          have HGOAL := Lib.hid (show (goalsL Lc a)[j]?.getD 0 = (goalsL Lc a)[j]?.getD 0 from rfl)
          go_region_law ((refine step_append_lies _ (by rfl) _ _ _ (by rfl) w.heap.size 69 i0 (.agg #[.int .i64 0, .int .i64 0, .int .i64 0]) 3 24 Try.underlying36 hi hz0 hz1 hz2 rfl (by decide) (.slice A' q c') q (mvCells M) (by rfl) ((OwnG.alloc HMW.out _).drewW) ⟨W.heap.size, 0, none⟩ 1 1 [.int .i64 j, .int .i64 (Lc[j]?.getD 0), .int .i64 ((goalsL Lc a)[j]?.getD 0)] (by rfl) (by rfl) (World.news_of_block (cs := #[.int .i64 j, .int .i64 (Lc[j]?.getD 0), .int .i64 ((goalsL Lc a)[j]?.getD 0)]) (t := 69) (fr := (0, 0)) (heap_alloc_new W _)) (by simp [Value.oneCell']) (by omega) (by unfold maxLen; omega) (by omega) (by simp; omega) (W.heap.size + 1) (by simp) ?_; intro gg cap w4 hown1 hgrow hat hlt2; have O4 := Lib.hid hown1; have HGR := Lib.hid (grown_undrewW hgrow); clear hown1 hgrow hat))
          all_goals
            have B4 := Lib.hid (HBW.out.trans (OwnG.grown_below HMW.out HGR.out (Nat.le_refl _) hszW))
            have N4 := Lib.hid (OwnG.otherW HNW.out HMW.out HGR.out (by decide))
            have G4 := Lib.hid (OwnG.otherW HGW.out HMW.out HGR.out (by decide))
            have O5 := Lib.hid (show OwnM w.heap.size w4 (some ⟨gg, 0, none⟩) (q + 1) cap (M ++ [((j : Int), Lc[j]?.getD 0, (goalsL Lc a)[j]?.getD 0)]) by unfold OwnM; rw [mvCells_snoc]; exact O4.out)
            clear hcn hcg
            obtain ⟨_, h0, _, hgnl4, hcn⟩ := ownAtW N4.out HLc.out hlt
            injection h0 with h0
            injection h0 with h0
            subst h0
            obtain ⟨_, h0, _, hgl4, hcg⟩ := ownAtW G4.out (by rw [goalsL_len]; exact HLc.out) hlt
            injection h0 with h0
            injection h0 with h0
            subst h0
            have hfz := OwnG.frozen N4.out rfl j
            go_wp2
            go_roundw
            case rel =>
              refine ⟨stepW Lc a, _, _, _, _, rfl, HW', HLs, HPs, OwnG.setBox O5.out (by rintro _ h; injection h with h; injection h with h; subst h; exact neW O5.out N4.out (by decide)) _, ?_, B4.out.setCell hBn _⟩
              have st := (World.ownsRow.stored N4.out j (.int .i64 ((goalsL Lc a)[j]?.getD 0))).1
              rw [HST.out]
              rw [List.map_set]
              exact st
            case measure => simp [lnW]; omega
      · obtain rfl : j = n := by omega
        have hd : decide ((j : Int) < (j : Int)) = false := by simp
        have HF := Lib.hid (fdW_all Lc a (fun i hi => HS.out i (by rw [HLc.out] at hi; exact hi)))
        have HE := Lib.hid (show M = wayL L a by rw [HW.out, wayL_end HF.out, List.append_nil])
        have hq := OwnM.len HM2.out
        rw [HE.out] at hq
        subst hq
        go_wp2_with fail
        go_quiet (fail)
        go_wp2
        go_ret
        exact ⟨A', c', rfl, by have h := HM2.out; rw [HE.out] at h; exact h, belowDraws HB2.out _⟩

end Go.Proofs.Ytbcgomimfgggnaa

namespace Go.Proofs.Ytbcgomimfgggnaa
open Go.RowKit
set_option linter.unusedVariables false
set_option maxRecDepth 100000

theorem mvCells_app (M N : List Mv) : mvCells (M ++ N) = mvCells M ++ mvCells N := by unfold mvCells mvF; rw [List.flatMap_append, List.map_append]
/-- 'append(a, b...)' of moves, a the call's own, b whatever list of the call's. -/
theorem wpList_append_mvs {w : World} {ops : Array Oper} {rest : List Oper} {o : Oper} {a : Act} {Q : Exit → Act → World → Prop} (hgd : o.guard = none) (s x : Operand)
    (ho : o.op = .call { callee := .builtin .append, args := #[s, x], argTypes := #[36, 36] })
    (B : Nat) (A : Option Addr) (n c : Nat) (M : List Mv) (hs : a.eval s = .slice A n c) (hown : OwnM B w A n c M) (B' : Nat) (A' : Option Addr) (m c' : Nat) (N : List Mv) (hx : a.eval x = .slice A' m c') (hsrc : OwnM B' w A' m c' N)
    (hn : n + m ≤ 100000) (hB : B ≤ w.heap.size)
    (h : ∀ A2 c2 w2, OwnM B w2 A2 (n + m) c2 (M ++ N) → w.grownBy w2 (Value.slice A n c).ownBlock → wpList Try.prog ops Q rest (a.put o.dst (.slice A2 (n + m) c2)) w2) : wpList Try.prog ops Q (o :: rest) a w := by
  obtain ⟨i0, hi, hz0, hz1, hz2⟩ := info_parts Try.infoM
  have hlN := OwnM.len hsrc
  rcases OwnG.form hsrc with ⟨rfl, rfl, rfl⟩ | ⟨g, rfl, _, _⟩
  · obtain rfl : N = [] := List.eq_nil_of_length_eq_zero hlN
    refine wpList_append_own_none hgd s x 36 ho B 69 i0 3 Try.underlying36 hi _ n _ hs hown hx ?_
    exact h A c w (by rw [List.append_nil]; exact hown) (World.grownBy.refl _ _)
  · refine wpList_append_own w hgd s x 36 ho B 69 i0 (.agg #[.int .i64 0, .int .i64 0, .int .i64 0]) 3 24 Try.underlying36 hi hz0 hz1 hz2 rfl (by decide) _ n _ hs hown ⟨g, 0, none⟩ m c' (mvCells N) hx (by rw [mvCells_len, hlN]) ?_ ?_ (by unfold maxLen; omega) (by omega) hB ?_
    · intro j u hj
      have hlt : j < m * 3 := by
        have := (List.getElem?_eq_some_iff.1 hj).1
        rwa [mvCells_len, hlN] at this
      obtain ⟨g2, hg2, _, _, hc⟩ := OwnG.cell hsrc j hlt
      injection hg2 with hg2
      injection hg2 with hg2
      subst hg2
      have hadd : (⟨g, 0, none⟩ : Addr).add j = ⟨g, j, none⟩ := by unfold Addr.add; split <;> simp_all
      rw [hadd, hc, hj]
    · intro u hu
      unfold mvCells at hu
      obtain ⟨i, _, rfl⟩ := List.mem_map.1 hu
      rfl
    · intro v' w' h2 h3 h4
      obtain ⟨A2, c2, rfl⟩ := ownG_shape h2
      refine h A2 c2 w' ?_ h3
      unfold OwnM
      rw [mvCells_app]
      exact h2

theorem own_noneG {e s B : Nat} {w : World} {A : Option Addr} {n c : Nat} {xs : List Value} (h : OwnG e s B w A n c xs) : A = none → c = 0 := fun e => by
  rcases h.form with ⟨_, _, h3⟩ | ⟨_, h, _⟩
  · exact h3
  · rw [e] at h; cases h

set_option maxHeartbeats 4000000 in
theorem l02Back_calls (A : Option Addr) (n c : Nat) (M : List Mv) (w : World) (hM : M.length = n) (hn : n ≤ 1000) (hV : Mvs w A M) :
    Calls Try.prog 51 #[.slice A n c] w fun e w' => ∃ A' c', e = .returned (.slice A' (bkL M).length c') ∧ OwnM w.heap.size w' A' (bkL M).length c' (bkL M) ∧ Below w.heap.size w w' := by
  obtain ⟨i0, hi, hz0, hz1, hz2⟩ := info_parts Try.infoM
  have HM := Lib.hid hM
  have HV := Lib.hid hV
  have hBal : Below w.heap.size w (w.alloc (.cells #[] 69)) := (Below.refl _ _).alloc (Nat.le_refl _) _
  have hE := OwnG.emptyAt (e := 69) (size := 3) (Box.new w 69 #[]) (Nat.le_refl w.heap.size)
  have HE := Lib.hid hE
  have HB0 := Lib.hid hBal
  clear hM hV hBal hE
  go_enter Try.func51, Try.ntmps51
  go_wp2
  go_loopw [3, 4] (fun o i wr => ∃ (u k : Nat) (A' : Option Addr) (c' : Nat), u + k = n ∧ i = .int .i64 ((u : Int) - 1) ∧ o = .slice A' k c' ∧ OwnM w.heap.size wr A' k c' (bkL (M.drop u)) ∧ Below w.heap.size w wr) (fun _ i _ => (intOf i + 1).toNat)
  case atStart =>
    refine ⟨n, 0, _, _, rfl, rfl, rfl, ?_, HB0.out⟩
    rw [List.drop_eq_nil_of_le (by rw [HM.out]; exact Nat.le_refl _)]
    exact HE.out
  case round =>
    obtain ⟨u, k, A', c', hk, rfl, rfl, hO, hb⟩ := hrel
    have HO := Lib.hid hO
    have HB := Lib.hid hb
    have hsz := hb.size
    clear hO hb HE HB0
    cases u with
    | zero =>
      have hlt : ¬ (0 : Int) ≤ ((0 : Nat) : Int) - 1 := by omega
      obtain rfl : k = n := by omega
      go_wp2
      go_ret
      refine ⟨A', c', ?_, ?_, HB.out⟩
      · rw [bkL_len, HM.out]; rfl
      · rw [bkL_len, HM.out]
        have h := HO.out
        rw [List.drop_zero] at h
        exact h
    | succ j =>
      have hj1 : ((j + 1 : Nat) : Int) - 1 = (j : Int) := by omega
      rw [hj1]
      clear hj1
      have hlt : (0 : Int) ≤ (j : Int) := by omega
      have hlt2 : (j : Int) < (n : Int) := by omega
      obtain ⟨g, rfl, hg, v0, v1, v2⟩ := (HV.out.below HB.out) j (by rw [HM.out]; omega)
      have HS := Lib.hid (bkL_drop (M := M) (k := j) (by rw [HM.out]; omega))
      generalize M[j]?.getD (0, 0, 0) = m at *
      obtain ⟨x1, x2, x3⟩ := m
      dsimp only at v0 v1 v2
      have hS := HS.out
      dsimp only at hS
      have HS' := Lib.hid hS
      clear HS hS
      go_upto_region 5 with (fail)
      go_region_law ((refine step_append_lies _ (by rfl) _ _ _ (by rfl) w.heap.size 69 i0 (.agg #[.int .i64 0, .int .i64 0, .int .i64 0]) 3 24 Try.underlying36 hi hz0 hz1 hz2 rfl (by decide) (.slice A' k c') k (mvCells (bkL (M.drop (j + 1)))) (by rfl) ((OwnG.alloc HO.out _).drewW) ⟨wr.heap.size, 0, none⟩ 1 1 [.int .i64 x1, .int .i64 x3, .int .i64 x2] (by rfl) (by rfl) (World.news_of_block (cs := #[.int .i64 x1, .int .i64 x3, .int .i64 x2]) (t := 69) (fr := (0, 0)) (heap_alloc_new wr _)) (by simp [Value.oneCell']) (by omega) (by unfold maxLen; omega) (by omega) (by simp; omega) (wr.heap.size + 1) (by simp) ?_; intro gg cap w4 hown1 hgrow hat hlt3; have O4 := Lib.hid hown1; have HGR := Lib.hid (grown_undrewW hgrow); clear hown1 hgrow hat))
      all_goals
        have B4 := Lib.hid (HB.out.trans (OwnG.grown_below HO.out HGR.out (Nat.le_refl _) hsz))
        have O5 := Lib.hid (show OwnM w.heap.size w4 (some ⟨gg, 0, none⟩) (k + 1) cap (bkL (M.drop j)) by rw [HS'.out]; unfold OwnM; rw [mvCells_snoc]; exact O4.out)
        go_wp2
        go_roundw
        case rel => exact ⟨j, k + 1, _, _, by omega, by go_num, rfl, O5.out, B4.out⟩
        case measure => simp [intOf] <;> omega

set_option maxHeartbeats 4000000 in
theorem l02Tower_calls (D : Nat) (P Q : Int) (w : World) (hD : D ≤ 8) (hP : 0 ≤ P ∧ P ≤ 2) (hQ : 0 ≤ Q ∧ Q ≤ 2) :
    Calls Try.prog 52 #[.int .i64 D, .int .i64 Q, .int .i64 P] w fun e w' => ∃ A' c', e = .returned (.slice A' (wayL (List.replicate D Q) P).length c') ∧ OwnM w.heap.size w' A' (wayL (List.replicate D Q) P).length c' (wayL (List.replicate D Q) P) ∧ Below w.heap.size w w' := by
  obtain ⟨i0, hi, hz0, hz1q, hz2⟩ := info_parts Try.infoI
  have hBal : Below w.heap.size w (w.alloc (.cells #[] 2)) := (Below.refl _ _).alloc (Nat.le_refl _) _
  have HE := Lib.hid (OwnG.emptyAt (e := 2) (size := 1) (Box.new w 2 #[]) (Nat.le_refl w.heap.size))
  have HB0 := Lib.hid hBal
  clear hBal
  go_enter Try.func52, Try.ntmps52
  go_wp2
  go_loopw [7, 8] (fun o i wr => ∃ (k : Nat) (A' : Option Addr) (c' : Nat), k ≤ D ∧ i = .int .i64 k ∧ o = .slice A' k c' ∧ OwnG 2 1 w.heap.size wr A' k c' ((List.replicate k Q).map (Value.int .i64)) ∧ Below w.heap.size w wr) (fun _ i _ => D - (intOf i).toNat)
  case atStart => exact ⟨0, _, _, Nat.zero_le _, rfl, rfl, HE.out, HB0.out⟩
  case round =>
    obtain ⟨k, A', c', hk, rfl, rfl, hO, hb⟩ := hrel
    have HO := Lib.hid hO
    have HB := Lib.hid hb
    have hsz := hb.size
    clear hO hb HE HB0
    by_cases hlt : k < D
    · go_wp2_with (at_builtin; refine wpList_append_own _ rfl _ _ 28 rfl w.heap.size 2 i0 (.int .i64 0) 1 8 Try.underlying28 hi hz0 hz1q hz2 rfl (by decide) _ _ _ rfl (OwnG.alloc HO.out _) ⟨wr.heap.size, 0, none⟩ 1 1 [.int .i64 Q] rfl rfl (cell_one_new _ _ _) (by simp [Value.oneCell']) (by unfold maxLen; omega) (by omega) (by simp; omega) ?_; intro v' w6 hown' hgrow _; obtain ⟨A6, c6, rfl⟩ := ownG_shape hown'; have HO6 := Lib.hid hown'; have HGR := Lib.hid hgrow; clear hown' hgrow)
      go_roundw
      case rel =>
        refine ⟨k + 1, A6, c6, by omega, by go_num, rfl, ?_, HB.out.trans (OwnG.grown_below HO.out HGR.out (Nat.le_refl _) hsz)⟩
        rw [show List.replicate (k + 1) Q = List.replicate k Q ++ [Q] from List.replicate_succ', List.map_append]
        exact HO6.out
      case measure => simp [intOf]; omega
    · obtain rfl : k = D := by omega
      go_wp2_with fail
      refine (l02Way_calls A' k c' (List.replicate k Q) P _ (by simp) hD (own_noneG HO.out) (intsW HO.out) (rep_pegs hQ k) hP).mono ?_
      rintro e w2 ⟨A2, c2, rfl, hO2, hb2⟩
      go_wp2
      go_ret
      exact ⟨A2, c2, rfl, OwnG.mono hO2 hsz, HB.out.trans (hb2.mono hsz)⟩

theorem ret_of_own {w w' : World} {e : Ending} {A : Option Addr} {n c : Nat} {N WL : List Mv} (he : e = .returned (.tuple #[.slice A n c, .int .i64 0])) (hO : OwnM w.heap.size w' A n c N) (hN : N = WL) (hb : Below w.heap.size w w') : RetMvs w WL.length WL 0 e w' := by
  subst hN
  have := OwnM.len hO
  subst this
  exact ⟨A, c, he, hO, hb⟩
theorem own_snoc {B : Nat} {w : World} {A : Option Addr} {n c : Nat} {M : List Mv} {x y z : Int} (h : OwnG 69 3 B w A n c (mvCells M ++ [.int .i64 x, .int .i64 y, .int .i64 z])) : OwnM B w A n c (M ++ [(x, y, z)]) := by
  unfold OwnM
  rw [mvCells_snoc]
  exact h
theorem grown_boxN {e size B n c b t : Nat} {w w1 : World} {A : Option Addr} {xs : List Value} {cs : Array Value} (h : OwnG e size B w A n c xs) (hg : w.grownBy w1 (Value.slice A n c).ownBlock) (hb : Box w b t cs) (hne : t ≠ e) : Box w1 b t cs := hb.grown hg (h.box_ne hb hne)
theorem grown_belowN {e size B n c B0 : Nat} {w w1 : World} {A : Option Addr} {xs : List Value} (h : OwnG e size B w A n c xs) (hg : w.grownBy w1 (Value.slice A n c).ownBlock) (h1 : B0 ≤ B) (h2 : B0 ≤ w.heap.size) : Below B0 w w1 := by
  refine (Below.refl B0 w).grown hg h2 (fun k hk => ?_)
  rcases h.form with ⟨rfl, rfl, rfl⟩ | ⟨g, rfl, hB, _⟩
  · simp [Value.ownBlock] at hk
  · simp only [Value.ownBlock, Option.some.injEq] at hk
    omega

set_option maxHeartbeats 40000000 in
theorem specWayBetween_ret (A : Option Addr) (n c : Nat) (p : Int) (L : List Int) (B : Option Addr) (m d : Nat) (q : Int) (M : List Int) (w : World) (hL : L.length = n) (hn : n ≤ 1048576) (hI : Ints w A L) (hcap : n ≤ c) (hc : c ≤ 9223372036854775807) (hM : M.length = m) (hm : m ≤ 1048576) (hJ : Ints w B M) (hdap : m ≤ d) (hd : d ≤ 9223372036854775807) :
    Calls Try.prog 18 #[.agg #[.int .i64 p, .slice A n c], .agg #[.int .i64 q, .slice B m d]] w (RetMvs w (wbL p L q M).length (wbL p L q M) (code2 p L q M)) := by
  have HL := Lib.hid hL
  have HM := Lib.hid hM
  obtain ⟨b1, b2, b3⟩ := twoBoxes w p q A B n c m d 30
  have hbal := (Below.refl _ ((w.alloc (.cells #[.int .i64 p, .slice A n c] 30)).alloc (.cells #[.int .i64 q, .slice B m d] 30))).alloc (Nat.le_refl _) (.cells #[.int .i64 p, .slice A n c, .int .i64 q, .slice B m d] 30)
  have X0 := Lib.hid (b1.below hbal b1.lt)
  have Y0 := Lib.hid (b2.below hbal b2.lt)
  have hc0 := Box.new ((w.alloc (.cells #[.int .i64 p, .slice A n c] 30)).alloc (.cells #[.int .i64 q, .slice B m d] 30)) 30 #[.int .i64 p, .slice A n c, .int .i64 q, .slice B m d]
  simp only [World.size_alloc] at hc0
  have Z0 := Lib.hid hc0
  have HB0 := Lib.hid (b3.trans (hbal.mono b3.size))
  have HI0 := Lib.hid (hI.below HB0.out)
  have HJ0 := Lib.hid (hJ.below HB0.out)
  have HIW := Lib.hid hI
  have HJW := Lib.hid hJ
  obtain ⟨i0, hi, hz0, hz1, hz2⟩ := info_parts Try.infoM
  clear hL hM b1 b2 b3 hbal hc0 hI hJ
  by_cases hz : code2 p L q M = 0
  · obtain ⟨hs, ht, rfl, rfl, hlen⟩ := code2_zero hz
    rw [HL.out, HM.out] at hlen
    subst hlen
    have HZ := Lib.hid hz
    have hz' : (code2 3 L 3 M != 0) = false := by simpa using hz
    have h8 := (state_facts hs HL.out).2.2.1
    have HPL := Lib.hid (state_pegsOk hs)
    have HPM := Lib.hid (state_pegsOk ht)
    rw [hz]
    clear hz hs ht
    rcases grt_cases L M n with hg | ⟨D, hg⟩
    · have HG := Lib.hid hg
      rw [wbL_same HZ.out HL.out hg]
      clear hg
      go_enter Try.func18, Try.ntmps18
      go_wp2_with fail
      refine (l02Code_two (w.heap.size + 1 + 1) A n c 3 L B n d 3 M _ Z0.out HL.out hn HI0.out HM.out hm HJ0.out).mono ?_
      rintro e w1 ⟨rfl, hb⟩
      rw [HZ.out]
      have X1 := Lib.hid (X0.out.below hb X0.out.lt)
      have Y1 := Lib.hid (Y0.out.below hb Y0.out.lt)
      have HI1 := Lib.hid (HI0.out.below hb)
      have HJ1 := Lib.hid (HJ0.out.below hb)
      have HB1 := Lib.hid (HB0.out.trans (hb.mono HB0.out.size))
      clear hb X0 Y0 HI0 HJ0 HB0 hz'
      obtain ⟨x0, x1, y0, y1⟩ := cells22 X1.out Y1.out
      go_wp2_with fail
      refine (l02Greatest_calls A n c 3 L B d 3 M _ HL.out HM.out h8 HI1.out HJ1.out).mono ?_
      rintro e w2 ⟨rfl, hb⟩
      have HB2 := Lib.hid (HB1.out.trans (hb.mono HB1.out.size))
      have hs2 := HB2.out.size
      clear hb X1 Y1 HI1 HJ1 HB1
      rw [HG.out]
      go_wp2
      go_ret2
      exact ⟨_, _, rfl, OwnG.emptyAt (Box.new w2 69 #[]) hs2, HB2.out.alloc hs2 _⟩
    · have HG := Lib.hid hg
      rw [wbL_at HZ.out HL.out hg]
      have HLEN := Lib.hid (show D ≤ 7 by have := (carry_facts HPL.out HPM.out HL.out HM.out hg).1; omega)
      obtain ⟨hD, hP0, hP1, hQ0, hQ1, hne⟩ := carry_facts HPL.out HPM.out HL.out HM.out hg
      clear hg
      have HLT : Hid ((L.take D).length = D) := by unfold Hid; rw [List.length_take, HL.out]; omega
      have HMT : Hid ((M.take D).length = D) := by unfold Hid; rw [List.length_take, HM.out]; omega
      have HPLT := Lib.hid (pegsOk_take HPL.out D)
      have HPMT := Lib.hid (pegsOk_take HPM.out D)
      obtain ⟨ad, rfl, had, hcx⟩ := HI0.out D (by rw [HL.out]; exact hD)
      obtain ⟨ad', rfl, had', hcy⟩ := HJ0.out D (by rw [HM.out]; exact hD)
      rw [List.getD_eq_getElem?_getD] at hcx hcy
      have HNU := Lib.hid (fun W hW1 hW2 => l02Numbers_calls (some ad) n c 3 L (some ad') d 3 M D W HL.out HM.out h8 hW1 hW2 hcap hc hdap hd HPL.out HPM.out HG.out)
      obtain ⟨WL, hWL⟩ : ∃ WL, wbD L M D = WL := ⟨_, rfl⟩
      rw [hWL]
      unfold wbD at hWL
      generalize L[D]?.getD 0 = P at *
      generalize M[D]?.getD 0 = Q at *
      generalize oneN L M D = one at *
      generalize twoN L M D = two at *
      have HWL := Lib.hid hWL
      clear hWL
      go_enter Try.func18, Try.ntmps18
      go_wp2_with fail
      refine (l02Code_two (w.heap.size + 1 + 1) (some ad) n c 3 L (some ad') n d 3 M _ Z0.out HL.out hn HI0.out HM.out hm HJ0.out).mono ?_
      rintro e w1 ⟨rfl, hb⟩
      rw [HZ.out]
      have X1 := Lib.hid (X0.out.below hb X0.out.lt)
      have Y1 := Lib.hid (Y0.out.below hb Y0.out.lt)
      have HI1 := Lib.hid (HI0.out.below hb)
      have HJ1 := Lib.hid (HJ0.out.below hb)
      have HB1 := Lib.hid (HB0.out.trans (hb.mono HB0.out.size))
      have hcx1 := (hb.cell (p := ad.add D) (by rw [add_block]; exact had)).trans hcx
      have hcy1 := (hb.cell (p := ad'.add D) (by rw [add_block]; exact had')).trans hcy
      have had1 := Nat.lt_of_lt_of_le had hb.size
      have had1' := Nat.lt_of_lt_of_le had' hb.size
      clear hb X0 Y0 HI0 HJ0 HB0 hz' hcx hcy had had'
      obtain ⟨x0, x1, y0, y1⟩ := cells22 X1.out Y1.out
      go_wp2_with fail
      refine (l02Greatest_calls (some ad) n c 3 L (some ad') d 3 M _ HL.out HM.out h8 HI1.out HJ1.out).mono ?_
      rintro e w2 ⟨rfl, hb⟩
      rw [HG.out]
      have X2 := Lib.hid (X1.out.below hb X1.out.lt)
      have Y2 := Lib.hid (Y1.out.below hb Y1.out.lt)
      have HI2 := Lib.hid (HI1.out.below hb)
      have HJ2 := Lib.hid (HJ1.out.below hb)
      have HB2 := Lib.hid (HB1.out.trans (hb.mono HB1.out.size))
      have hcx2 := (hb.cell (p := ad.add D) (by rw [add_block]; exact had1)).trans hcx1
      have hcy2 := (hb.cell (p := ad'.add D) (by rw [add_block]; exact had1')).trans hcy1
      clear hb X1 Y1 HI1 HJ1 HB1 x0 x1 y0 y1 hcx1 hcy1
      obtain ⟨x0, x1, y0, y1⟩ := cells22 X2.out Y2.out
      have hi0 : (0 : Int) ≤ (D : Int) := by omega
      have hi1 : (D : Int) < (n : Int) := by omega
      have hi2 : (D : Int) ≤ (c : Int) := by omega
      have hi3 : (D : Int) ≤ (d : Int) := by omega
      have hi4 : ¬ (D : Int) < 0 := by omega
      have hr : 0 ≤ 3 - P - Q ∧ 3 - P - Q ≤ 2 := by omega
      have hw0 : IntKind.i64.wrap (3 - P) = 3 - P := IntWalk.i64_in _ (by omega)
      have hw1 : IntKind.i64.wrap (3 - P - Q) = 3 - P - Q := IntWalk.i64_in _ (by omega)
      have hw2 : wrap64 (3 - P) = 3 - P := IntWalk.wrap64_in _ (by omega)
      have hw3 : wrap64 (3 - P - Q) = 3 - P - Q := IntWalk.wrap64_in _ (by omega)
      go_wp2_with fail
      go_quiet (fail)
      go_wp2_with fail
      refine (HNU.out _ (HI2.out.below (belowDraws (Below.refl _ _) _)) (HJ2.out.below (belowDraws (Below.refl _ _) _))).mono ?_
      rintro e w3 ⟨rfl, hb⟩
      have hb3 := (belowDraws (Below.refl w2.heap.size w2) _).trans hb
      have X3 := Lib.hid (X2.out.below hb3 X2.out.lt)
      have Y3 := Lib.hid (Y2.out.below hb3 Y2.out.lt)
      have HB3 := Lib.hid (HB2.out.trans (hb3.mono HB2.out.size))
      clear hb hb3 x0 x1 y0 y1 hcx2 hcy2 X2 Y2 HI2 HJ2 HB2 HNU hw0 hw1 hw2 hw3
      have hq1 := wayL_bd (L := L.take D) (a := 3 - P - Q) (by simp; omega)
      have hq2 := wayL_bd (L := M.take D) (a := 3 - P - Q) (by simp; omega)
      have hq3 := wayL_bd (L := L.take D) (a := Q) (by simp; omega)
      have hq4 := wayL_bd (L := M.take D) (a := P) (by simp; omega)
      have hq5 := wayL_bd (L := List.replicate D Q) (a := P) (by simp; omega)
      have HIT := Lib.hid (fun (W : World) (h : Below w.heap.size w W) => (HIW.out.below h).take D)
      have HJT := Lib.hid (fun (W : World) (h : Below w.heap.size w W) => (HJW.out.below h).take D)
      clear had1 had1' HIW HJW
      by_cases hle : one ≤ two
      · have HE := Lib.hid (show w1L L M D P Q = WL by have h := HWL.out; rw [if_pos hle] at h; exact h)
        clear HWL hq3 hq4 hq5
        obtain ⟨x0, x1, _, _⟩ := X3.out.two
        go_wp2_with fail
        refine (l02Way_calls (some ad) D c (L.take D) (3 - P - Q) _ HLT.out (by omega) (fun h => by cases h) (HIT.out _ HB3.out) HPLT.out hr).mono ?_
        rintro e w4 ⟨A4, c4, rfl, hO, hb⟩
        have Y4 := Lib.hid (Y3.out.below hb Y3.out.lt)
        have O4 := Lib.hid (OwnG.mono hO HB3.out.size)
        have HB4 := Lib.hid (HB3.out.trans (hb.mono HB3.out.size))
        have hs4 := HB4.out.size
        clear hO hb X3 Y3 HB3
        clear x0 x1
        go_wp2_with (at_builtin; refine wpList_append_own _ rfl _ _ 36 rfl w.heap.size 69 i0 (.agg #[.int .i64 0, .int .i64 0, .int .i64 0]) 3 24 Try.underlying36 hi hz0 hz1 hz2 rfl (by decide) _ _ _ rfl (OwnG.alloc O4.out _) ⟨w4.heap.size, 0, none⟩ 1 1 [.int .i64 D, .int .i64 P, .int .i64 Q] rfl rfl (World.news_of_block (cs := #[.int .i64 D, .int .i64 P, .int .i64 Q]) (t := 69) (fr := (0, 0)) (heap_alloc_new w4 _)) (by simp [Value.oneCell']) (by unfold maxLen; omega) (by omega) (by simp; omega) ?_; intro v' w5 hown' hgrow _; obtain ⟨A5, c5, rfl⟩ := ownG_shape hown'; have OO := Lib.hid hown'; have Y5 := Lib.hid (OwnG.grown_box O4.out hgrow Y4.out (by decide)); have HB5 := Lib.hid (HB4.out.trans (OwnG.grown_below O4.out hgrow (Nat.le_refl _) hs4)); clear hown' hgrow; obtain ⟨y0, y1, _, _⟩ := Y5.out.two)
        have O5 := Lib.hid (own_snoc OO.out)
        have hs5 := HB5.out.size
        clear OO O4 Y4 HB4
        go_wp2_with fail
        refine (l02Way_calls (some ad') D d (M.take D) (3 - P - Q) _ HMT.out (by omega) (fun h => by cases h) (HJT.out _ HB5.out) HPMT.out hr).mono ?_
        rintro e w6 ⟨A6, c6, rfl, hO, hb⟩
        have OW := Lib.hid hO
        have O6 := Lib.hid (OwnG.below O5.out hb)
        have HB6 := Lib.hid (HB5.out.trans (hb.mono HB5.out.size))
        clear hO hb Y5 O5 HB5 y0 y1
        go_wp2_with fail
        refine (l02Back_calls A6 (wayL (M.take D) (3 - P - Q)).length c6 (wayL (M.take D) (3 - P - Q)) _ rfl (by omega) (OwnM.mvs OW.out)).mono ?_
        rintro e w7 ⟨A7, c7, rfl, hO, hb⟩
        have OB := Lib.hid hO
        have O7 := Lib.hid (OwnG.below O6.out hb)
        have HB7 := Lib.hid (HB6.out.trans (hb.mono HB6.out.size))
        have hs7 := HB7.out.size
        have HQB := Lib.hid (bkL_len (wayL (M.take D) (3 - P - Q)))
        clear hO hb O6 HB6 OW
        go_wp2_with (at_builtin; refine wpList_append_mvs rfl _ _ rfl w.heap.size _ _ _ _ rfl O7.out _ _ _ _ _ rfl OB.out (by have h := HQB.out; omega) hs7 ?_; intro A8 c8 w8 hO hg; have O8 := Lib.hid hO; have HB8 := Lib.hid (HB7.out.trans (grown_belowN O7.out hg (Nat.le_refl _) hs7)); clear hO hg)
        go_ret2
        refine ret_of_own rfl O8.out ?_ HB8.out
        rw [← HE.out]
        unfold w1L
        simp
      · have HE := Lib.hid (show w2L L M D P Q = WL by have h := HWL.out; rw [if_neg hle] at h; exact h)
        clear HWL hq1 hq2
        obtain ⟨x0, x1, _, _⟩ := X3.out.two
        go_wp2_with fail
        refine (l02Way_calls (some ad) D c (L.take D) (Q) _ HLT.out (by omega) (fun h => by cases h) (HIT.out _ HB3.out) HPLT.out ⟨hQ0, hQ1⟩).mono ?_
        rintro e w4 ⟨A4, c4, rfl, hO, hb⟩
        have Y4 := Lib.hid (Y3.out.below hb Y3.out.lt)
        have O4 := Lib.hid (OwnG.mono hO HB3.out.size)
        have HB4 := Lib.hid (HB3.out.trans (hb.mono HB3.out.size))
        have hs4 := HB4.out.size
        clear hO hb X3 Y3 HB3
        clear x0 x1
        go_wp2_with (at_builtin; refine wpList_append_own _ rfl _ _ 36 rfl w.heap.size 69 i0 (.agg #[.int .i64 0, .int .i64 0, .int .i64 0]) 3 24 Try.underlying36 hi hz0 hz1 hz2 rfl (by decide) _ _ _ rfl (OwnG.alloc O4.out _) ⟨w4.heap.size, 0, none⟩ 1 1 [.int .i64 D, .int .i64 P, .int .i64 (3 - P - Q)] rfl rfl (World.news_of_block (cs := #[.int .i64 D, .int .i64 P, .int .i64 (3 - P - Q)]) (t := 69) (fr := (0, 0)) (heap_alloc_new w4 _)) (by simp [Value.oneCell']) (by unfold maxLen; omega) (by omega) (by simp; omega) ?_; intro v' w5 hown' hgrow _; obtain ⟨A5, c5, rfl⟩ := ownG_shape hown'; have OO := Lib.hid hown'; have Y5 := Lib.hid (OwnG.grown_box O4.out hgrow Y4.out (by decide)); have HB5 := Lib.hid (HB4.out.trans (OwnG.grown_below O4.out hgrow (Nat.le_refl _) hs4)); clear hown' hgrow)
        have O5 := Lib.hid (own_snoc OO.out)
        have hs5 := HB5.out.size
        clear OO O4 Y4 HB4
        go_wp2_with fail
        refine (l02Tower_calls D P Q _ (by omega) ⟨hP0, hP1⟩ ⟨hQ0, hQ1⟩).mono ?_
        rintro e w9 ⟨A9, c9, rfl, hO, hb⟩
        have OT := Lib.hid hO
        have Y9 := Lib.hid (Y5.out.below hb Y5.out.lt)
        have O9 := Lib.hid (OwnG.below O5.out hb)
        have HB9 := Lib.hid (HB5.out.trans (hb.mono HB5.out.size))
        have hs9 := HB9.out.size
        clear hO hb Y5 O5 HB5
        go_upto_region 15 with (at_builtin; refine wpList_append_mvs rfl _ _ rfl w.heap.size _ _ _ _ rfl O9.out _ _ _ _ _ rfl OT.out (by omega) hs9 ?_; intro A10 c10 w10 hO hg; have O10 := Lib.hid hO; have Y10 := Lib.hid (grown_boxN O9.out hg Y9.out (by decide)); have HB10 := Lib.hid (HB9.out.trans (grown_belowN O9.out hg (Nat.le_refl _) hs9)); clear hO hg)
        clear O9 Y9 HB9 OT
        have hs10 := HB10.out.size
        go_wp2_with (at_builtin; refine wpList_append_own _ rfl _ _ 36 rfl w.heap.size 69 i0 (.agg #[.int .i64 0, .int .i64 0, .int .i64 0]) 3 24 Try.underlying36 hi hz0 hz1 hz2 rfl (by decide) _ _ _ rfl (OwnG.alloc O10.out _) ⟨w10.heap.size, 0, none⟩ 1 1 [.int .i64 D, .int .i64 (3 - P - Q), .int .i64 Q] rfl rfl (World.news_of_block (cs := #[.int .i64 D, .int .i64 (3 - P - Q), .int .i64 Q]) (t := 69) (fr := (0, 0)) (heap_alloc_new w10 _)) (by simp [Value.oneCell']) (by unfold maxLen; omega) (by omega) (by simp; omega) ?_; intro v' w11 hown' hgrow _; obtain ⟨A11, c11, rfl⟩ := ownG_shape hown'; have OO := Lib.hid hown'; have Y11 := Lib.hid (OwnG.grown_box O10.out hgrow Y10.out (by decide)); have HB11 := Lib.hid (HB10.out.trans (OwnG.grown_below O10.out hgrow (Nat.le_refl _) hs10)); clear hown' hgrow; obtain ⟨y0, y1, _, _⟩ := Y11.out.two)
        have O11 := Lib.hid (own_snoc OO.out)
        have hs11 := HB11.out.size
        clear OO O10 Y10 HB10
        go_wp2_with fail
        refine (l02Way_calls (some ad') D d (M.take D) P _ HMT.out (by omega) (fun h => by cases h) (HJT.out _ HB11.out) HPMT.out ⟨hP0, hP1⟩).mono ?_
        rintro e w6 ⟨A6, c6, rfl, hO, hb⟩
        have OW := Lib.hid hO
        have O6 := Lib.hid (OwnG.below O11.out hb)
        have HB6 := Lib.hid (HB11.out.trans (hb.mono HB11.out.size))
        clear hO hb Y11 O11 HB11 y0 y1
        go_wp2_with fail
        refine (l02Back_calls A6 (wayL (M.take D) (P)).length c6 (wayL (M.take D) (P)) _ rfl (by omega) (OwnM.mvs OW.out)).mono ?_
        rintro e w7 ⟨A7, c7, rfl, hO, hb⟩
        have OB := Lib.hid hO
        have O7 := Lib.hid (OwnG.below O6.out hb)
        have HB7 := Lib.hid (HB6.out.trans (hb.mono HB6.out.size))
        have hs7 := HB7.out.size
        have HQB := Lib.hid (bkL_len (wayL (M.take D) (P)))
        clear hO hb O6 HB6 OW
        go_wp2_with (at_builtin; refine wpList_append_mvs rfl _ _ rfl w.heap.size _ _ _ _ rfl O7.out _ _ _ _ _ rfl OB.out (by have h := HQB.out; omega) hs7 ?_; intro A8 c8 w8 hO hg; have O8 := Lib.hid hO; have HB8 := Lib.hid (HB7.out.trans (grown_belowN O7.out hg (Nat.le_refl _) hs7)); clear hO hg)
        go_ret2
        refine ret_of_own rfl O8.out ?_ HB8.out
        rw [← HE.out]
        unfold w2L
        simp
  · have hz' : (code2 p L q M != 0) = true := by simpa using hz
    rw [wbL_no hz]
    clear hz
    go_enter Try.func18, Try.ntmps18
    go_wp2_with fail
    refine (l02Code_two (w.heap.size + 1 + 1) A n c p L B m d q M _ Z0.out HL.out hn HI0.out HM.out hm HJ0.out).mono ?_
    rintro e w1 ⟨rfl, hb⟩
    have HB1 := Lib.hid (HB0.out.trans (hb.mono HB0.out.size))
    clear hb X0 Y0 Z0 HI0 HJ0 HB0
    go_wp2
    go_ret2
    exact retMvs_zero rfl HB1.out

end Go.Proofs.Ytbcgomimfgggnaa

namespace Go.Proofs.Ytbcgomimfgggnaa

section
variable {P : Program} {b : Frame} {a : Act} {k : List Item} {cs : List Frame} {w : World} {Q : Exit → Act → World → Prop} {F : Fence} {n : Nat}
theorem stepR_scopeS {c : Code} : step P (lone (b.atR a (.code (.scope c) :: k)) cs w) = .next (lone (b.atR a (.code c :: .inScope c :: k)) cs w) :=
  step_lone_go (by simp [stepG, stepG.exec, Frame.atR])
theorem stepR_inScopeS {c : Code} : step P (lone (b.atR a (.inScope c :: k)) cs w) = .next (lone (b.atR a k) cs w) :=
  step_lone_go (by simp [stepG, stepG.exec, Frame.atR])

/-- The fenced twin of the base's law: what holds at every jump, with a number that every pass lowers. -/
theorem wpIn_scope_ghost {c rest : Code} (l : Nat) (J : Nat → Act → World → Prop) (hf : findLabel c l = some rest)
    (first : c.wpIn F n P (Exit.jump l (fun a' w' => ∃ j, J j a' w') Q) a w)
    (pass : ∀ j a w, J j a w → rest.wpIn F n P (Exit.jump l (fun a' w' => ∃ j', J j' a' w' ∧ j' < j) Q) a w) : (Code.scope c).wpIn F n P Q a w := by
  intro b k cs hro hb hr
  have hg : gotoIn l (.inScope c :: k) = some (.code rest :: .inScope c :: k) := by simp [gotoIn, hf]
  have hx : ∀ id, exitTo id (.inScope c :: k) = exitTo id k := fun id => by simp [exitTo]
  have key : ∀ j a w, J j a w → ∃ e a' w', Q e a' w' ∧ ArrivesIn (Machine.fenced P F) P (lone (b.atR a (.code rest :: .inScope c :: k)) cs w) b k cs e a' w' := by
    intro j
    induction j using Nat.strongRecOn with
    | _ j ih =>
      intro a w hJ
      obtain ⟨e, a₁, w₁, hq, harr⟩ := pass j a w hJ b (.inScope c :: k) cs hro hb hr
      cases e with
      | normal => exact ⟨.normal, a₁, w₁, hq, StepsIn.trans harr (.one (fenced_calm hb hr rfl) stepR_inScopeS)⟩
      | exit id => exact ⟨.exit id, a₁, w₁, hq, fun k' hk => harr.1 k' (by rw [hx]; exact hk), fun hr' hk => harr.2 hr' (by rw [hx]; exact hk)⟩
      | goto l' =>
        obtain ⟨rfl, j', hJ', hlt⟩ := hq
        obtain ⟨e₂, a₂, w₂, hq₂, harr₂⟩ := ih j' hlt a₁ w₁ hJ'
        exact ⟨e₂, a₂, w₂, hq₂, .of_steps (harr.1 _ hg) harr₂⟩
      | ret => exact ⟨_, a₁, w₁, hq, harr⟩
      | panic ch => exact ⟨_, a₁, w₁, hq, harr⟩
      | outgrown => exact ⟨_, a₁, w₁, hq, harr⟩
  have h0 : (lone (b.atR a (.code (.scope c) :: k)) cs w).fenced P F := fenced_calm hb hr rfl
  obtain ⟨e, a₁, w₁, hq, harr⟩ := first b (.inScope c :: k) cs hro hb hr
  cases e with
  | normal => exact ⟨.normal, a₁, w₁, hq, .head h0 stepR_scopeS (StepsIn.trans harr (.one (fenced_calm hb hr rfl) stepR_inScopeS))⟩
  | exit id => exact ⟨.exit id, a₁, w₁, hq, fun k' hk => .head h0 stepR_scopeS (harr.1 k' (by rw [hx]; exact hk)), fun hr' hk => let ⟨k₁, h1, h2⟩ := harr.2 hr' (by rw [hx]; exact hk); ⟨k₁, h1, .head h0 stepR_scopeS h2⟩⟩
  | goto l' =>
    obtain ⟨rfl, j', hJ'⟩ := hq
    obtain ⟨e₂, a₂, w₂, hq₂, harr₂⟩ := key j' a₁ w₁ hJ'
    exact ⟨e₂, a₂, w₂, hq₂, .of_steps (.head h0 stepR_scopeS (harr.1 _ hg)) harr₂⟩
  | ret => exact ⟨_, a₁, w₁, hq, .of_steps (.one h0 stepR_scopeS) harr⟩
  | panic ch => exact ⟨_, a₁, w₁, hq, .of_steps (.one h0 stepR_scopeS) harr⟩
  | outgrown => exact ⟨_, a₁, w₁, hq, .of_steps (.one h0 stepR_scopeS) harr⟩

/-- A scope that begins with A and has its label behind it: the rest is walked once. -/
theorem wpIn_scope_once {A R : Code} (l : Nat) (J : Nat → Act → World → Prop) (hf : findLabel (A.seq ((Code.label l).seq R)) l = some (Code.skip.seq R))
    (first : A.wpIn F n P (Exit.then (fun a' w' => ∃ j, J j a' w') (fun _ _ _ => False)) a w)
    (pass : ∀ j a w, J j a w → R.wpIn F n P (Exit.jump l (fun a' w' => ∃ j', J j' a' w' ∧ j' < j) Q) a w) : (Code.scope (A.seq ((Code.label l).seq R))).wpIn F n P Q a w := by
  refine wpIn_scope_ghost l J hf (wpIn_seq (wpIn_mono first ?_)) (fun j a w h => wpIn_seq (wpIn_skip (pass j a w h)))
  rintro (_ | _ | _ | _ | _ | _) a w h <;> first | exact h.elim | skip
  obtain ⟨j, h⟩ := h
  refine wpIn_seq (wpIn_label (wpIn_mono (pass j a w h) ?_))
  rintro (_ | _ | _ | _ | _ | _) a w h <;> first | exact h | skip
  obtain ⟨h1, j', h2, _⟩ := h
  exact ⟨h1, j', h2⟩
end

end Go.Proofs.Ytbcgomimfgggnaa

namespace Go.Proofs.Ytbcgomimfgggnaa
open Go.RowKit
set_option linter.unusedVariables false
set_option maxRecDepth 100000

theorem OwnG.grown_belowC {e size B : Nat} {w w1 : World} {A : Option Addr} {n c : Nat} {xs : List Value} {B0 : Nat} (h : OwnG e size B w A n c xs) (hg : w.grownBy w1 (Value.slice A n c).ownBlock) (h1 : B0 ≤ B) (h2 : B0 ≤ w.heap.size) : Below B0 w w1 := by
  refine (Below.refl B0 w).grown hg h2 (fun k hk => ?_)
  rcases h.form with ⟨rfl, rfl, rfl⟩ | ⟨g, rfl, hB, _⟩
  · simp [Value.ownBlock] at hk
  · simp only [Value.ownBlock, Option.some.injEq] at hk
    omega

set_option maxHeartbeats 1000000 in
theorem clone_calls (ad : Addr) (n c : Nat) (L : List Int) (w : World) (hL : L.length = n) (hn : n ≤ 1000) (hI : Ints w (some ad) L) :
    Calls Try.prog 90 #[.slice (some ad) n c] w fun e w' => ∃ A c', e = .returned (.slice A n c') ∧ Own w.heap.size w' A n c' L ∧ Below w.heap.size w w' := by
  obtain ⟨i0, hi, hz0, hz1, hz2⟩ := info_parts Try.infoI
  have HL := Lib.hid hL
  have hb0 := (Below.refl w.heap.size w).alloc (Nat.le_refl _) (.cells #[] 2)
  have HI := Lib.hid (hI.below hb0)
  have HB := Lib.hid hb0
  have HO := Lib.hid (OwnG.emptyAt (e := 2) (size := 1) (Box.new w 2 #[]) (Nat.le_refl w.heap.size))
  have heq : ∀ W : World, (binOp .eql 28 (.slice (some ad) n c) (.slice none 0 0)).run Try.prog W = .ok (.bool false) W := fun W => by
    simp only [binOp]
    simp [run_equal_slice_nil W 28 2 (some ad) n c Try.underlying28]
  clear hL hI hb0
  go_enter Try.func90, Try.ntmps90
  go_wp2_with (at_builtin; refine wpList_append_own _ rfl _ _ 28 rfl w.heap.size 2 i0 (.int .i64 0) 1 8 Try.underlying28 hi hz0 hz1 hz2 rfl (by decide) _ _ _ rfl HO.out ad n c (L.map (Value.int .i64)) rfl (by simp [HL.out]) (HI.out.news) (ints_oneCell _ _) (by unfold maxLen; omega) (by omega) (by simp) ?_; intro v' w4 hown' hgrow _; obtain ⟨A4, c4, rfl⟩ := ownG_shape hown'; have HO4 := Lib.hid hown'; have HG4 := Lib.hid hgrow; clear hown' hgrow)
  go_ret
  exact ⟨A4, c4, by simp, by simpa [Own] using HO4.out, HB.out.trans (OwnG.grown_belowC HO.out HG4.out (Nat.le_refl _) (by simp))⟩

set_option maxHeartbeats 1000000 in
theorem cloneA_calls (A : Option Addr) (n c : Nat) (L : List Int) (w : World) (hL : L.length = n) (hn : n ≤ 1000) (hA : A = none → c = 0) (hI : Ints w A L) :
    Calls Try.prog 90 #[.slice A n c] w fun e w' => ∃ A' c', e = .returned (.slice A' n c') ∧ Own w.heap.size w' A' n c' L ∧ Below w.heap.size w w' := by
  rcases A with _ | ad
  · obtain rfl := hA rfl
    have hn0 : n = 0 := by
      rcases Nat.eq_zero_or_pos n with h | h
      · exact h
      · obtain ⟨_, h1, _⟩ := hI 0 (by omega)
        cases h1
    subst hn0
    obtain rfl : L = [] := List.eq_nil_of_length_eq_zero hL
    have heq : ∀ W : World, (binOp .eql 28 (.slice none 0 0) (.slice none 0 0)).run Try.prog W = .ok (.bool true) W := fun W => by
      simp only [binOp]
      simp [run_equal_slice_nil W 28 2 none 0 0 Try.underlying28]
    clear hL hI hA
    go_enter Try.func90, Try.ntmps90
    go_wp2
    go_ret
    exact ⟨none, 0, rfl, Own.nilS _ _, Below.refl _ _⟩
  · exact clone_calls ad n c L w hL hn hI

end Go.Proofs.Ytbcgomimfgggnaa

namespace Go.Proofs.Ytbcgomimfgggnaa
open Go.RowKit Go.Shelf
set_option maxRecDepth 100000

/-- What the iterator owes: to each round an element of which G is known there. -/
def SeqTold {α : Type} (n : Nat) (P : Program) (g : Nat) (lb : Array Value) (encs : α → Array Value) (G : List α → α → World → Prop) (Kp : World → World → Prop) (S : List α → Prop) (w : World) : Prop :=
  ∀ (l : Nat) (J : List α → World → Prop) (W : World), Below w.heap.size w W → (∀ pre A B, J pre A → Below A.heap.size A B → J pre B) →
    (∀ pre x W1, J pre W1 → G pre x W1 → YieldAt Fence.wide (n - 1) P l (encs x) W1 fun e W' => e = .returned (.bool true) ∧ J (pre ++ [x]) W' ∧ Kp W1 W') →
    J [] W → CallsIn Fence.wide n P g (#[.func (.yield l) #[] #[]] ++ lb) W fun e W' => (∃ v, e = .returned v) ∧ ∃ xs, S xs ∧ J xs W'

/-- How a round ends: it goes on. -/
def toldPost {α : Type} (B : Nat) (Kp : World → World → Prop) (I : List α → World → Prop) (xs : List α) (W : World) : Exit → Act → World → Prop
  | .normal, _, W' => KeepsFrom B W W' ∧ Kp W W' ∧ I xs W'
  | _, _, _ => False

variable {P : Program} {n : Nat}

theorem rangeFunc_told {α : Type} {g : Operand} {ps : Array Tmp} {assign body : Code} {Q : Exit → Act → World → Prop} {a : Act} {w : World} (h1 : 1 ≤ n) {gf : Nat} {lb : Array Value}
    (hg : a.eval g = .func (.func gf) #[] lb) (eg : ∀ args w, (callFunc gf args).run P w = .ok (.enter gf args) w)
    {encs : α → Array Value} {G : List α → α → World → Prop} {Kp : World → World → Prop} {S : List α → Prop} (hseq : SeqTold (n - 1) P gf lb encs G Kp S w) (hps : ∀ x, (encs x).size = ps.size)
    (hKt : ∀ {A B C : World}, Kp A B → Kp B C → Kp A C) (hKb : ∀ (W : World) (l : Nat) (o o' : Obj), w.heap.size ≤ l → W.heap[l]? = some o → o.isCells = false → o.isWalk = false → Kp W (W.putObj l o'))
    (I : List α → World → Prop) (hI : OwnFrom w.heap.size I) (h0 : I [] w) (Ax : List α → α → Act → World → Prop) (hAx : ∀ pre x a', OwnFrom w.heap.size (fun (_ : Unit) W => Ax pre x a' W))
    (hassign : ∀ (l : Nat) (pre : List α) (x : α) (W : World) (K : Act → World → Prop), I pre W → G pre x W → (∀ a' W', KeepsFrom w.heap.size W W' → Kp W W' → I pre W' → Ax pre x a' W' → K a' W') →
      assign.wpIn (Fence.wide.inRound l) (n - 1 - 1) P (Exit.then K (fun _ _ _ => False)) { tmps := (ps.zip (encs x)).foldl (fun t (p, v) => t.setIfInBounds p v) a.tmps, defers := [] } W)
    (hbody : ∀ (l : Nat) (pre : List α) (x : α) (a' : Act) (W : World), I pre W → Ax pre x a' W → body.wpIn (Fence.wide.inRound l) (n - 1 - 1) P (toldPost w.heap.size Kp I (pre ++ [x]) W) a' W)
    (hdone : ∀ (D : Nat) (xs : List α) (W : World), w.heap.size ≤ D → S xs → I xs W → W.heap[D]? = some (.deferred (some [])) → Q .normal { a with defers := { target := .collected D, args := #[] } :: a.defers } W) :
    (Code.rangeFunc g ps assign body).wpIn Fence.wide n P Q a w := by
  refine wpIn_rangeFunc fun fn hfn => ?_
  -- the record of the loop, at each of its states
  let R : LoopState → Option Code → Obj := fun st pe => .loop { state := st, pending := pe, fn, tmps := a.tmps, params := ps, assign, body, defers := w.heap.size }
  -- the two blocks of book-keeping, and the world in which the iterator is called
  let L : Nat := w.heap.size + 1
  obtain ⟨V, hV⟩ : ∃ V, (w.alloc (.deferred (some []))).alloc (R .ready none) = V := ⟨_, rfl⟩
  have bV : Below w.heap.size w V := by rw [← hV]; exact ((Below.refl _ w).alloc (Nat.le_refl _) _).alloc (by simp) _
  have kV : V.heap[w.heap.size]? = some (.deferred (some [])) := by
    rw [← hV]; exact (Below.heap_alloc _ _ _ (by simp)).trans (World.alloc_heap_new w _)
  have lV : V.heap[L]? = some (R .ready none) := by
    rw [← hV]; have := World.alloc_heap_new (w.alloc (.deferred (some []))) (R .ready none); rwa [World.size_alloc] at this
  have iV : I [] V := by rw [← hV]; exact hI.alloc _ (hI.alloc _ h0)
  -- what holds between two rounds
  let J : List α → World → Prop := fun pre W => I pre W ∧ W.heap[w.heap.size]? = some (.deferred (some [])) ∧ W.heap[L]? = some (R .ready none)
  refine ⟨L, [{ target := .collected w.heap.size, args := #[] }], V, { target := .fn (.func gf) lb, args := #[.func (.yield L) #[] #[]] }, V, gf, #[.func (.yield L) #[] #[]] ++ lb, V,
    by rw [← hV]; exact run_enterLoop_outer _ _ _ _ _, by simp only [resolve, hg]; simp [go_sem], fun _ _ => trivial, by simp [invoke, go_sem, eg], fun _ => h1, ?_⟩
  refine (hseq L J V bV (fun pre A B ⟨i, k, l⟩ hb => ⟨hI _ _ _ none i (grown_of_below hb) (fun r e => by cases e), (hb.block _ (Array.getElem?_eq_some_iff.1 k).1).trans k, (hb.block _ (Array.getElem?_eq_some_iff.1 l).1).trans l⟩) ?round ⟨iV, kV, lV⟩).mono ?_
  case round =>
    rintro pre x W ⟨i, k, l⟩ hG
    refine ⟨fn, _, assign, body, run_yield l (hps x), roundIn_of_wpIn hfn (hassign L pre x W _ i hG fun a' U kf kp iU ax => ?_)⟩
    have kU := kf.same _ _ (Nat.le_refl _) k rfl
    have lU := kf.same _ _ (Nat.le_succ _) l rfl
    have ltU := (Array.getElem?_eq_some_iff.1 lU).1
    refine ⟨_, run_beginRound lU rfl, ?_⟩
    -- the round begins: the record is busy
    obtain ⟨U2, hU2⟩ : ∃ U2, U.putObj L (R .busy none) = U2 := ⟨_, rfl⟩
    have lU2 : U2.heap[L]? = some (R .busy none) := by rw [← hU2]; exact World.putObj_heap_same ltU
    have kU2 : U2.heap[w.heap.size]? = some (.deferred (some [])) := by rw [← hU2]; exact (World.putObj_heap_other (by omega)).trans kU
    have iU2 : I pre U2 := by rw [← hU2]; exact hI.putObj _ iU (Nat.le_succ _) lU rfl
    have aU2 : Ax pre x a' U2 := by rw [← hU2]; exact (hAx pre x a').putObj (s := ()) _ ax (Nat.le_succ _) lU rfl
    have pU2 : Kp U U2 := by rw [← hU2]; exact hKb _ _ _ _ (Nat.le_succ _) lU rfl rfl
    show body.wpIn (Fence.wide.inRound L) (n - 1 - 1) P _ a' (U.putObj L (R .busy none))
    rw [hU2]
    refine wpIn_mono (hbody L pre x a' U2 iU2 aU2) ?_
    rintro (_ | _ | _ | _ | _ | _) a3 U3 hp <;> first | exact hp.elim | skip
    obtain ⟨kf3, kp3, i3⟩ := hp
    have l3 := kf3.same _ _ (Nat.le_succ _) lU2 rfl
    have k3 := kf3.same _ _ (Nat.le_refl _) kU2 rfl
    refine ⟨_, _, run_endRound none l3, rfl, ⟨hI.putObj _ i3 (Nat.le_succ _) l3 rfl, (World.putObj_heap_other (by omega)).trans k3, World.putObj_heap_same (Array.getElem?_eq_some_iff.1 l3).1⟩, ?_⟩
    exact hKt kp (hKt pU2 (hKt kp3 (hKb _ _ _ _ (Nat.le_succ _) l3 rfl rfl)))
  · rintro e W2 ⟨⟨v, rfl⟩, xs, hS, i, k, l⟩
    exact ⟨none, _, run_endLoop l (by simp), hdone _ xs _ (Nat.le_refl _) hS (hI.putObj _ i (Nat.le_succ _) l rfl) ((World.putObj_heap_other (by omega)).trans k)⟩

end Go.Proofs.Ytbcgomimfgggnaa

namespace Go.Proofs.Ytbcgomimfgggnaa
open Go.RowKit Go.Shelf
set_option linter.unusedVariables false
set_option maxRecDepth 100000

/-- What the iterator owes: it keeps a private block R between its yields, in which its rounds do not write. -/
def SeqPriv {α : Type} (n : Nat) (P : Program) (g : Nat) (lb : Array Value) (encs : α → Array Value) (et : Nat) (bs : Nat → Prop) (xs : List α) (w : World) : Prop :=
  ∀ (l : Nat) (J : Nat → List α → World → Prop) (W : World), Below w.heap.size w W → (∀ R pre A B, J R pre A → A.grownBy B (some R) → J R pre B) →
    (∀ R pre x W1, W.heap.size ≤ R → (∃ cs, W1.heap[R]? = some (.cells cs et (0, 0))) → (pre ++ [x]) <+: xs → J R pre W1 → YieldAt Fence.wide (n - 1) P l (encs x) W1 fun e W' => e = .returned (.bool true) ∧ J R (pre ++ [x]) W' ∧ KeepB (fun b => bs b ∨ b = R) W1 W' ∧ W1.heap.size ≤ W'.heap.size) →
    (∀ R, W.heap.size ≤ R → J R [] W) → CallsIn Fence.wide n P g (#[.func (.yield l) #[] #[]] ++ lb) W fun e W' => (∃ v, e = .returned v) ∧ ∃ R, J R xs W'

theorem grownR {W W' : World} {r : Option Nat} (h : Below W.heap.size W W') : W.grownBy W' r := ⟨h.os, h.tape, h.output, h.size, fun k hk _ => h.block k hk⟩
theorem grownSet (W : World) (R i : Nat) (v : Value) : W.grownBy (W.setCell ⟨R, i, none⟩ v) (some R) :=
  ⟨rfl, rfl, rfl, by simp [World.setCell], fun k _ hk => heap_setCell_other W ⟨R, i, none⟩ k v (fun e => hk (by rw [e]))⟩
theorem ownCells {B : Nat} {w : World} {g n c : Nat} {L : List Int} (h : OwnG 2 1 B w (some ⟨g, 0, none⟩) n c (L.map (Value.int .i64))) : ∃ cs, w.heap[g]? = some (.cells cs 2 (0, 0)) := by
  rcases h.2 with ⟨hv, _⟩ | ⟨g1, cap, cur, hv, _, hh, _⟩
  · simp at hv
  · injection hv with h1
    injection h1 with h1
    injection h1 with h1
    subst h1
    exact ⟨_, hh⟩
theorem ownKeptW {B : Nat} {w w' : World} {g n c : Nat} {xs : List Value} (h : OwnG 2 1 B w (some ⟨g, 0, none⟩) n c xs) (hb : w'.heap[g]? = w.heap[g]?) (hs : w.heap.size ≤ w'.heap.size) : OwnG 2 1 B w' (some ⟨g, 0, none⟩) n c xs := by
  refine ⟨h.1, ?_⟩
  rcases h.2 with ⟨hv, h2⟩ | ⟨g1, cap, cur, hv, h3, hh, h4⟩
  · simp at hv
  · have hv' := hv
    injection hv' with h1
    injection h1 with h1
    injection h1 with h1
    subst h1
    exact .inr ⟨_, cap, cur, hv, h3, hb.trans hh, h4⟩
def mvEnc (m : Mv) : Array Value := #[mvV m]

set_option maxRecDepth 100000 in
set_option maxHeartbeats 4000000 in
theorem movesToPeg_priv (N bp ba : Nat) (hN : 1 ≤ N) (A : Option Addr) (n c : Nat) (L : List Int) (a : Int) (hA : A = none → c = 0) (hL : L.length = n) (hn : n ≤ 8) (hp : pegsOk L) (ha : 0 ≤ a ∧ a ≤ 2) (w : World) (hbp : Box w bp 28 #[.slice A n c]) (hba : Box w ba 2 #[.int .i64 a]) (hI : Ints w A L) :
    SeqPriv N Try.prog 89 #[.pointer (some ⟨bp, 0, none⟩), .pointer (some ⟨ba, 0, none⟩)] mvEnc 2 (fun b => b = bp ∨ b = ba) (wayL L a) w := by
  intro l J W hW hJ hY h0
  have hp1 := Lib.hid (hbp.below hW hbp.lt)
  have ha1 := Lib.hid (hba.below hW hba.lt)
  have HI := Lib.hid (hI.below hW)
  have HL := Lib.hid hL
  have HNA := Lib.hid hA
  clear hA
  have HP := Lib.hid hp
  clear hL hp hI
  refine callsIn_of_wp Try.func89 rfl trivial ?_ rfl
  simp only [Try.ntmps89, List.size_toArray, List.length_cons, List.length_nil, Nat.reduceAdd, Nat.reduceSub, Array.replicate_succ, Array.replicate_zero, List.push_toArray, List.append_toArray, List.nil_append, List.cons_append]
  refine wpIn_scope_once 0 (fun j a' w' => ∃ (Lc : List Int) (pre : List Mv) (R : Nat) (An : Option Addr) (cn : Nat) (u5 u6 u7 u8 u9 u10 u11 u12 u13 u14 u15 u16 u17 u18 u19 u20 u21 u22 u23 u24 u25 u26 u27 u28 u29 u30 u31 u32 u33 u34 u35 u36 u37 u38 : Value), a' = { tmps := #[.func (.yield l) #[] #[], .pointer (some ⟨bp, 0, none⟩), .pointer (some ⟨ba, 0, none⟩), undef, .slice An n cn, u5, u6, u7, u8, u9, u10, u11, u12, u13, u14, u15, u16, u17, u18, u19, u20, u21, u22, u23, u24, u25, u26, u27, u28, u29, u30, u31, u32, u33, u34, u35, u36, u37, u38], defers := [] } ∧ Hid (j = (distP Lc a).toNat) ∧ Hid (wayL L a = pre ++ wayL Lc a) ∧ Hid (Lc.length = n) ∧ Hid (pegsOk Lc) ∧ J R pre w' ∧ W.heap.size ≤ R ∧ (∀ g, An = some ⟨g, 0, none⟩ → g = R) ∧ OwnG 2 1 W.heap.size w' An n cn (Lc.map (Value.int .i64)) ∧ Box w' bp 28 #[.slice A n c] ∧ Box w' ba 2 #[.int .i64 a] ∧ W.heap.size ≤ w'.heap.size) rfl ?_ ?_
  · obtain ⟨c0, _⟩ := hp1.out.one
    gi_wp2_with fail
    refine ⟨trivial, ?_⟩
    refine (callsIn_wide.2 (cloneA_calls A n c L W HL.out (by omega) HNA.out HI.out)).mono ?_
    rintro e w1 ⟨An, cn, rfl, hO, hb⟩
    gi_wp2
    have hO' : OwnG 2 1 W.heap.size w1 An n cn (L.map (Value.int .i64)) := hO
    rcases hO'.form with ⟨rfl, h1, h2⟩ | ⟨g, rfl, hB, hg⟩
    · exact ⟨_, L, [], W.heap.size, none, cn, _, _, _, _, _, _, _, _, _, _, _, _, _, _, _, _, _, _, _, _, _, _, _, _, _, _, _, _, _, _, _, _, _, _, rfl, Lib.hid rfl, Lib.hid rfl, HL, HP, hJ _ _ _ _ (h0 _ (Nat.le_refl _)) (grownR hb), Nat.le_refl _, (fun g h => by cases h), hO', hp1.out.below hb hp1.out.lt, ha1.out.below hb ha1.out.lt, hb.size⟩
    · exact ⟨_, L, [], g, some ⟨g, 0, none⟩, cn, _, _, _, _, _, _, _, _, _, _, _, _, _, _, _, _, _, _, _, _, _, _, _, _, _, _, _, _, _, _, _, _, _, _, rfl, Lib.hid rfl, Lib.hid rfl, HL, HP, hJ _ _ _ _ (h0 _ hB) (grownR hb), hB, (fun g' h => by injection h with h; injection h with h; exact h.symm), hO', hp1.out.below hb hp1.out.lt, ha1.out.below hb ha1.out.lt, hb.size⟩
  · rintro j0 a' wr ⟨Lc, pre, R, An, cn, u5, u6, u7, u8, u9, u10, u11, u12, u13, u14, u15, u16, u17, u18, u19, u20, u21, u22, u23, u24, u25, u26, u27, u28, u29, u30, u31, u32, u33, u34, u35, u36, u37, u38, rfl, HJ0, HW, HLc, HPc, hJr, hR, hAR, hN1, hbp1, hba1, hsz⟩
    have HN := Lib.hid hN1
    obtain ⟨c1, _⟩ := hba1.one
    gi_wp2_with fail
    refine ⟨trivial, ?_⟩
    refine (callsIn_wide.2 (goalsOf_calls An n cn Lc a wr HLc.out hn (intsW HN.out) HPc.out ha)).mono ?_
    rintro e w2 ⟨g, rfl, hg, hrow, hb2⟩
    have HG := Lib.hid (own_of_row (B := wr.heap.size) hrow hg (by rw [goalsL_len]; exact HLc.out) hn)
    have HN2 := Lib.hid (OwnG.below HN.out hb2)
    have hbp2 := Lib.hid (hbp1.below hb2 hbp1.lt)
    have hba2 := Lib.hid (hba1.below hb2 hba1.lt)
    have hJ2 := hJ _ _ _ _ hJr (grownR (r := some R) hb2)
    have hs2 := hb2.size
    clear hrow hb2 HN hN1 c1 hJr hbp1 hba1
    gi_wp2
    gi_loopw [5, 6, 13] (fun _ _ i wr' => ∃ j : Nat, j ≤ n ∧ i = .int .i64 j ∧ Hid (∀ i, i < j → Lc[i]?.getD 0 = (goalsL Lc a)[i]?.getD 0) ∧ wr' = w2) (fun _ _ i _ => n - (intOf i).toNat)
    case atStart => exact ⟨0, Nat.zero_le _, rfl, Lib.hid (fun i hi => absurd hi (by omega)), rfl⟩
    case round =>
      obtain ⟨j, hj, rfl, HS, rfl⟩ := hrel
      by_cases hlt : j < n
      · obtain ⟨gn, rfl, hBn, hgnl, hcn⟩ := ownAtW HN2.out HLc.out hlt
        obtain rfl := hAR gn rfl
        obtain ⟨_, hag, hBg, hgl, hcg⟩ := ownAtW HG.out (by rw [goalsL_len]; exact HLc.out) hlt
        injection hag with hag
        injection hag with hag
        subst hag
        have hk0 : (0 : Int) ≤ (j : Int) := by omega
        have hk1 : (j : Int) < (n : Int) := by omega
        by_cases hne : Lc[j]?.getD 0 = (goalsL Lc a)[j]?.getD 0
        · have ht : (Lc[j]?.getD 0 == (goalsL Lc a)[j]?.getD 0) = true := by simpa using hne
          have HS2 := Lib.hid (show ∀ i, i < j + 1 → Lc[i]?.getD 0 = (goalsL Lc a)[i]?.getD 0 from fun i hi => by
            by_cases h : i = j
            · rw [h]; exact hne
            · exact HS.out i (by omega))
          clear hne
          gi_wp2
          go_roundw
          case rel => exact ⟨j + 1, by omega, by go_num, HS2, trivial⟩
          case measure => simp [intOf]; omega
        · have ht : (Lc[j]?.getD 0 == (goalsL Lc a)[j]?.getD 0) = false := by simpa using hne
          have HF := Lib.hid (fdW_is Lc a (by rw [HLc.out]; exact hlt) HS.out hne)
          clear hne
          have hmore := wayL_more HPc.out ha (by rw [HF.out, HLc.out]; exact hlt)
          have HMV := Lib.hid (show mvW Lc a = ((j : Int), Lc[j]?.getD 0, (goalsL Lc a)[j]?.getD 0) by unfold mvW; rw [HF.out])
          have HST := Lib.hid (show stepW Lc a = Lc.set j ((goalsL Lc a)[j]?.getD 0) by unfold stepW; rw [HF.out])
          have HW' := Lib.hid (show wayL L a = (pre ++ [((j : Int), Lc[j]?.getD 0, (goalsL Lc a)[j]?.getD 0)]) ++ wayL (stepW Lc a) a by rw [HW.out, hmore, HMV.out]; simp)
          have HLs := Lib.hid (show (stepW Lc a).length = n by rw [stepW_len]; exact HLc.out)
          have HPs := Lib.hid (stepW_pegs Lc a HPc.out ha)
          have HLT := Lib.hid (show (distP (stepW Lc a) a).toNat < j0 by
            have h1 := (fdW_lt_iff Lc a).1 (by rw [HF.out, HLc.out]; exact hlt)
            have h2 := (stepW_dist Lc a HPc.out ha h1).1
            have h3 := distP_nonneg (stepW Lc a) a
            rw [HJ0.out]
            omega)
          obtain ⟨fn, tmps, assign, body, hy, hR3⟩ := hY gn pre ((j : Int), Lc[j]?.getD 0, (goalsL Lc a)[j]?.getD 0) wr hR (ownCells HN2.out) ⟨_, HW'.out.symm⟩ hJ2
          dsimp only [mvEnc, mvV] at hy
          clear hmore
          gi_wp2
          refine hR3.mono ?_
          rintro e W3 ⟨rfl, hJ3, hk3, hs3⟩
          have HN3 := Lib.hid (ownKeptW HN2.out (hk3 _ (.inr rfl)) hs3)
          have hbp3 := Lib.hid ((hk3 _ (.inl (.inl rfl))).trans hbp2.out)
          have hba3 := Lib.hid ((hk3 _ (.inl (.inr rfl))).trans hba2.out)
          clear hcn
          obtain ⟨_, h0', _, hgnl3, hcn⟩ := ownAtW HN3.out HLc.out hlt
          injection h0' with h0'
          injection h0' with h0'
          subst h0'
          have hfz := OwnG.frozen HN3.out rfl j
          gi_wp2
          refine wpIn_goto ?_
          change _ ∧ _
          refine ⟨rfl, _, ⟨stepW Lc a, _, gn, some ⟨gn, 0, none⟩, cn, _, _, _, _, _, _, _, _, _, _, _, _, _, _, _, _, _, _, _, _, _, _, _, _, _, _, _, _, _, _, _, _, _, _, rfl, Lib.hid rfl, HW', HLs, HPs, hJ _ _ _ _ hJ3 (grownSet _ _ _ _), hR, (fun g h => by injection h with h; injection h with h; exact h.symm), ?_, ?_, ?_, ?_⟩, HLT.out⟩
          · have st := (World.ownsRow.stored HN3.out j (.int .i64 ((goalsL Lc a)[j]?.getD 0))).1
            rw [HST.out, List.map_set]
            exact st
          · exact (heap_setCell_other _ _ _ _ (by have := hbp.lt; have := hW.size; show bp ≠ gn; omega)).trans hbp3.out
          · exact (heap_setCell_other _ _ _ _ (by have := hba.lt; have := hW.size; show ba ≠ gn; omega)).trans hba3.out
          · simp [World.setCell]; omega
      · obtain rfl : j = n := by omega
        have HF := Lib.hid (fdW_all Lc a (fun i hi => HS.out i (by rw [HLc.out] at hi; exact hi)))
        have HE := Lib.hid (show pre = wayL L a by rw [HW.out, wayL_end HF.out, List.append_nil])
        gi_wp2
        simp only [Exit.jump]
        go_end0
        exact ⟨⟨_, rfl⟩, R, by rw [← HE.out]; exact hJ2⟩

end Go.Proofs.Ytbcgomimfgggnaa

namespace Go.Proofs.Ytbcgomimfgggnaa
open Go.RowKit Go.Shelf
set_option maxRecDepth 100000

/-- How a round ends: it goes on, and the private block is as it was. -/
def privPost {α : Type} (B : Nat) (bs : Nat → Prop) (I : Nat → List α → World → Prop) (R : Nat) (xs : List α) (W : World) : Exit → Act → World → Prop
  | .normal, _, W' => KeepsFrom B W W' ∧ KeepB (fun b => bs b ∨ b = R) W W' ∧ I R xs W'
  | _, _, _ => False

variable {P : Program} {n : Nat}

theorem rangeFunc_priv {α : Type} {g : Operand} {ps : Array Tmp} {assign body : Code} {Q : Exit → Act → World → Prop} {a : Act} {w : World} (h1 : 1 ≤ n) {gf : Nat} {lb : Array Value}
    (hg : a.eval g = .func (.func gf) #[] lb) (eg : ∀ args w, (callFunc gf args).run P w = .ok (.enter gf args) w)
    {encs : α → Array Value} {et : Nat} {bs : Nat → Prop} {xs : List α} (hseq : SeqPriv (n - 1) P gf lb encs et bs xs w) (hps : ∀ x, (encs x).size = ps.size) (hbs : ∀ b, bs b → b < w.heap.size)
    (I : Nat → List α → World → Prop) (hI : ∀ R, OwnFrom w.heap.size (I R)) (hIR : ∀ R pre A B, I R pre A → A.grownBy B (some R) → I R pre B) (h0 : ∀ R, w.heap.size + 2 ≤ R → I R [] w) (Ax : Nat → List α → α → Act → World → Prop) (hAx : ∀ R pre x a', OwnFrom w.heap.size (fun (_ : Unit) W => Ax R pre x a' W))
    (hassign : ∀ (l R : Nat) (pre : List α) (x : α) (W : World) (K : Act → World → Prop), w.heap.size + 2 ≤ R → (∃ cs, W.heap[R]? = some (.cells cs et (0, 0))) → (pre ++ [x]) <+: xs → I R pre W → (∀ a' W', KeepsFrom w.heap.size W W' → KeepB (fun b => bs b ∨ b = R) W W' → I R pre W' → Ax R pre x a' W' → K a' W') →
      assign.wpIn (Fence.wide.inRound l) (n - 1 - 1) P (Exit.then K (fun _ _ _ => False)) { tmps := (ps.zip (encs x)).foldl (fun t (p, v) => t.setIfInBounds p v) a.tmps, defers := [] } W)
    (hbody : ∀ (l R : Nat) (pre : List α) (x : α) (a' : Act) (W : World), w.heap.size + 2 ≤ R → (∃ cs, W.heap[R]? = some (.cells cs et (0, 0))) → (pre ++ [x]) <+: xs → I R pre W → Ax R pre x a' W → body.wpIn (Fence.wide.inRound l) (n - 1 - 1) P (privPost w.heap.size bs I R (pre ++ [x]) W) a' W)
    (hdone : ∀ (D R : Nat) (W : World), w.heap.size ≤ D → w.heap.size + 2 ≤ R → I R xs W → W.heap[D]? = some (.deferred (some [])) → Q .normal { a with defers := { target := .collected D, args := #[] } :: a.defers } W) :
    (Code.rangeFunc g ps assign body).wpIn Fence.wide n P Q a w := by
  refine wpIn_rangeFunc fun fn hfn => ?_
  -- the record of the loop, at each of its states
  let C : LoopState → Option Code → Obj := fun st pe => .loop { state := st, pending := pe, fn, tmps := a.tmps, params := ps, assign, body, defers := w.heap.size }
  -- the two blocks of book-keeping, and the world in which the iterator is called
  let L : Nat := w.heap.size + 1
  obtain ⟨V, hV⟩ : ∃ V, (w.alloc (.deferred (some []))).alloc (C .ready none) = V := ⟨_, rfl⟩
  have bV : Below w.heap.size w V := by rw [← hV]; exact ((Below.refl _ w).alloc (Nat.le_refl _) _).alloc (by simp) _
  have sV : V.heap.size = w.heap.size + 2 := by rw [← hV]; simp
  have kV : V.heap[w.heap.size]? = some (.deferred (some [])) := by
    rw [← hV]; exact (Below.heap_alloc _ _ _ (by simp)).trans (World.alloc_heap_new w _)
  have lV : V.heap[L]? = some (C .ready none) := by
    rw [← hV]; have := World.alloc_heap_new (w.alloc (.deferred (some []))) (C .ready none); rwa [World.size_alloc] at this
  have iV : ∀ R, w.heap.size + 2 ≤ R → I R [] V := by rw [← hV]; exact fun R hR => (hI R).alloc _ ((hI R).alloc _ (h0 R hR))
  -- what holds between two rounds
  let J : Nat → List α → World → Prop := fun R pre W => w.heap.size + 2 ≤ R ∧ I R pre W ∧ W.heap[w.heap.size]? = some (.deferred (some [])) ∧ W.heap[L]? = some (C .ready none)
  refine ⟨L, [{ target := .collected w.heap.size, args := #[] }], V, { target := .fn (.func gf) lb, args := #[.func (.yield L) #[] #[]] }, V, gf, #[.func (.yield L) #[] #[]] ++ lb, V,
    by rw [← hV]; exact run_enterLoop_outer _ _ _ _ _, by simp only [resolve, hg]; simp [go_sem], fun _ _ => trivial, by simp [invoke, go_sem, eg], fun _ => h1, ?_⟩
  refine (hseq L J V bV (fun R pre A B ⟨hR, i, k, l⟩ hb => ⟨hR, hIR _ _ _ _ i hb, (hb.block _ (Array.getElem?_eq_some_iff.1 k).1 (by simp; omega)).trans k, (hb.block _ (Array.getElem?_eq_some_iff.1 l).1 (by simp [L]; omega)).trans l⟩) ?round (fun R hR => ⟨by omega, iV R (by omega), kV, lV⟩)).mono ?_
  case round =>
    rintro R pre x W _ ⟨cs, hcs⟩ hpx ⟨hR, i, k, l⟩
    refine ⟨fn, _, assign, body, run_yield l (hps x), roundIn_of_wpIn hfn (hassign L R pre x W _ hR ⟨cs, hcs⟩ hpx i fun a' U kf kp iU ax => ?_)⟩
    have kU := kf.same _ _ (Nat.le_refl _) k rfl
    have lU := kf.same _ _ (Nat.le_succ _) l rfl
    have ltU := (Array.getElem?_eq_some_iff.1 lU).1
    have hKb : ∀ (A : World) (o' : Obj), KeepB (fun b => bs b ∨ b = R) A (A.putObj L o') := fun A o' b hb => World.putObj_heap_other (by
      rcases hb with hb | rfl
      · have := hbs b hb; show b ≠ w.heap.size + 1; omega
      · show b ≠ w.heap.size + 1; omega)
    refine ⟨_, run_beginRound lU rfl, ?_⟩
    -- the round begins: the record is busy
    obtain ⟨U2, hU2⟩ : ∃ U2, U.putObj L (C .busy none) = U2 := ⟨_, rfl⟩
    have lU2 : U2.heap[L]? = some (C .busy none) := by rw [← hU2]; exact World.putObj_heap_same ltU
    have kU2 : U2.heap[w.heap.size]? = some (.deferred (some [])) := by rw [← hU2]; exact (World.putObj_heap_other (by omega)).trans kU
    have iU2 : I R pre U2 := by rw [← hU2]; exact (hI R).putObj _ iU (Nat.le_succ _) lU rfl
    have aU2 : Ax R pre x a' U2 := by rw [← hU2]; exact (hAx R pre x a').putObj (s := ()) _ ax (Nat.le_succ _) lU rfl
    have pU2 : KeepB (fun b => bs b ∨ b = R) U U2 := by rw [← hU2]; exact hKb _ _
    have sU2 : U2.heap.size = U.heap.size := by rw [← hU2]; simp [World.putObj]
    show body.wpIn (Fence.wide.inRound L) (n - 1 - 1) P _ a' (U.putObj L (C .busy none))
    rw [hU2]
    refine wpIn_mono (hbody L R pre x a' U2 hR ⟨cs, (pU2 R (.inr rfl)).trans ((kp R (.inr rfl)).trans hcs)⟩ hpx iU2 aU2) ?_
    rintro (_ | _ | _ | _ | _ | _) a3 U3 hp <;> first | exact hp.elim | skip
    obtain ⟨kf3, kp3, i3⟩ := hp
    have l3 := kf3.same _ _ (Nat.le_succ _) lU2 rfl
    have k3 := kf3.same _ _ (Nat.le_refl _) kU2 rfl
    refine ⟨_, _, run_endRound none l3, rfl, ⟨hR, (hI R).putObj _ i3 (Nat.le_succ _) l3 rfl, (World.putObj_heap_other (by omega)).trans k3, World.putObj_heap_same (Array.getElem?_eq_some_iff.1 l3).1⟩, ?_, ?_⟩
    · exact keepB_t kp (keepB_t pU2 (keepB_t kp3 (hKb _ _)))
    · have h1 := kf.size
      have h2 := kf3.size
      simp [World.putObj]
      omega
  · rintro e W2 ⟨⟨v, rfl⟩, R, hR, i, k, l⟩
    exact ⟨none, _, run_endLoop l (by simp), hdone _ R _ (Nat.le_refl _) hR ((hI R).putObj _ i (Nat.le_succ _) l rfl) ((World.putObj_heap_other (by omega)).trans k)⟩

end Go.Proofs.Ytbcgomimfgggnaa
