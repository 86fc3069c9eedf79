/- Contracts: the legal moves of a heap. -/
import Derived.Test.YtpiglaolofddfaaDoorHpReg
import Derived.Test.YtpiglaolofddfaaDoorMvS
namespace Go.Proofs.YtpiglaolofddfaaDoor
open Go.RowKit
set_option linter.unusedVariables false

/-- The legal moves of disc d from peg a to the first k pegs; from the first pegs; of the first discs. T: the tops. -/
def hmb (T : Nat → Int) (d : Int) (a : Nat) : Nat → List Mv
  | 0 => []
  | b + 1 => hmb T d a b ++ (if T a = d ∧ d < T b then [(d, (a : Int), (b : Int))] else [])
def hma (T : Nat → Int) (d : Int) : Nat → List Mv
  | 0 => []
  | a + 1 => hma T d a ++ hmb T d a 3
def hmd (T : Nat → Int) : Nat → List Mv
  | 0 => []
  | d + 1 => hmd T d ++ hma T (d : Int) 3
theorem hmb_len (T : Nat → Int) (d : Int) (a : Nat) : ∀ b, (hmb T d a b).length ≤ b
  | 0 => by simp [hmb]
  | b + 1 => by have := hmb_len T d a b; unfold hmb; split <;> simp <;> omega
theorem hma_len (T : Nat → Int) (d : Int) : ∀ a, (hma T d a).length ≤ 3 * a
  | 0 => by simp [hma]
  | a + 1 => by have := hma_len T d a; have := hmb_len T d a 3; unfold hma; simp; omega
theorem hmd_len (T : Nat → Int) : ∀ d, (hmd T d).length ≤ 9 * d
  | 0 => by simp [hmd]
  | d + 1 => by have := hmd_len T d; have := hma_len T d 3; unfold hmd; simp; omega
theorem hmb_none {T : Nat → Int} {d : Int} {a : Nat} (h : ¬ T a = d) : ∀ b, hmb T d a b = []
  | 0 => rfl
  | b + 1 => by unfold hmb; rw [hmb_none h b, if_neg (fun h2 => h h2.1)]; rfl
theorem hmb_yes {T : Nat → Int} {d : Int} {a b : Nat} (h : T a = d) (h2 : d < T b) : hmb T d a (b + 1) = hmb T d a b ++ [(d, (a : Int), (b : Int))] := by rw [hmb, if_pos ⟨h, h2⟩]
theorem hmb_no {T : Nat → Int} {d : Int} {a b : Nat} (h2 : ¬ d < T b) : hmb T d a (b + 1) = hmb T d a b := by rw [hmb, if_neg (fun h => h2 h.2), List.append_nil]

/-- The top of a stack. -/
def topH (LL : List (List Int)) (a : Nat) : Int := pilesOf LL (a * 4)
theorem topH_at {LL : List (List Int)} {a : Nat} {l : List Int} (h : LL[a]? = some l) : topH LL a = if l.length = 0 then 4 else l[l.length - 1]?.getD 0 := by
  have h1 := pilesOf_at LL a 0 (by omega)
  simp only [Nat.add_zero] at h1
  unfold topH
  rw [h1, h, Option.getD_some]
  show l.reverse[0]?.getD 4 = _
  by_cases hl : l.length = 0
  · rw [if_pos hl, List.eq_nil_of_length_eq_zero hl]; rfl
  · rw [if_neg hl, List.getElem?_reverse (by omega)]
    have : l.length - 1 - 0 < l.length := by omega
    rw [show l.length - 1 - 0 = l.length - 1 by omega, List.getElem?_eq_getElem (by omega)]
    rfl
theorem topH_disc {LL : List (List Int)} (h : heapB LL = true) {a : Nat} (ha : a < 3) : (0 ≤ topH LL a ∧ topH LL a < cntL LL) ∨ topH LL a = 4 := by
  have h3 := (heapB_facts h).1
  have hl : LL[a]? = some LL[a] := List.getElem?_eq_getElem (by omega)
  rw [topH_at hl]
  by_cases h0 : LL[a].length = 0
  · right; rw [if_pos h0]
  · left
    rw [if_neg h0, List.getElem?_eq_getElem (by omega), Option.getD_some]
    have := (heap_stack h hl).2 _ (List.getElem_mem (by omega : LL[a].length - 1 < LL[a].length))
    exact ⟨this.1, this.2.1⟩
def hmL (LL : List (List Int)) : List Mv := if heapB LL = true then hmd (topH LL) 4 else []
def hmE (LL : List (List Int)) : Int := if heapB LL = true then 0 else 1
theorem hm_yes {LL : List (List Int)} (h : heapB LL = true) : hmL LL = hmd (topH LL) 4 ∧ hmE LL = 0 := ⟨by unfold hmL; rw [if_pos h], by unfold hmE; rw [if_pos h]⟩
theorem hm_no {LL : List (List Int)} (h : heapB LL = false) : hmL LL = [] ∧ hmE LL = 1 := ⟨by unfold hmL; rw [h]; rfl, by unfold hmE; rw [h]; rfl⟩
theorem hmL_len (LL : List (List Int)) : (hmL LL).length ≤ 1048576 := by
  unfold hmL
  split
  · have := hmd_len (topH LL) 4; omega
  · simp
theorem hmd_cnt {LL : List (List Int)} (h : heapB LL = true) : hmd (topH LL) 4 = hmd (topH LL) (cntL LL) := by
  have key : ∀ d, cntL LL ≤ d → d < 4 → hma (topH LL) (d : Int) 3 = [] := by
    intro d hd hd4
    have hz : ∀ a, a < 3 → hmb (topH LL) (d : Int) a 3 = [] := by
      intro a ha
      refine hmb_none ?_ 3
      rcases topH_disc h ha with h1 | h1 <;> omega
    show (([] ++ hmb (topH LL) (d : Int) 0 3) ++ hmb (topH LL) (d : Int) 1 3) ++ hmb (topH LL) (d : Int) 2 3 = []
    rw [hz 0 (by omega), hz 1 (by omega), hz 2 (by omega)]
    rfl
  have h4 := (heapB_facts h).2.1
  have step : ∀ k, cntL LL + k ≤ 4 → hmd (topH LL) (cntL LL + k) = hmd (topH LL) (cntL LL) := by
    intro k
    induction k with
    | zero => intro _; rfl
    | succ k ih =>
      intro hk
      rw [← Nat.add_assoc, hmd, key (cntL LL + k) (by omega) (by omega), List.append_nil]
      exact ih (by omega)
  have := step (4 - cntL LL) (by omega)
  rw [show cntL LL + (4 - cntL LL) = 4 by omega] at this
  exact this

set_option maxHeartbeats 1000000 in
theorem l06Top_calls (A : Option Addr) (n c : Nat) (rs : List Rw) (a : Nat) (ha : a < 3) (w : World) (hL : rs.length = n) (hI : IntsSS w A rs) (hh : heapB (LLof rs) = true) :
    Calls Tryd.prog 35 #[.agg #[.slice A n c], .int .i64 (a : Int)] w fun e w' => e = .returned (.int .i64 (topH (LLof rs) a)) ∧ Below w.heap.size w w' := by
  have h3 : n = 3 := by have := (heapB_facts hh).1; rw [LL_len, hL] at this; exact this
  subst h3
  have hb0 : Below w.heap.size w (w.alloc (.cells #[.slice A 3 c] 29)) := (Below.refl _ _).alloc (Nat.le_refl _) _
  obtain ⟨r, hr⟩ := get_of_lt (rs := rs) (k := a) (by rw [hL]; exact ha)
  obtain ⟨ad, hA, had, hc, hll, hi⟩ := (hI.below hb0) a r hr
  have HT := Lib.hid (topH_at (LL_at hr))
  have hl4 := (heap_stack hh (LL_at hr)).1
  clear hr hI hh
  obtain ⟨rA, rn, rc, rd, rL⟩ := r
  change rL.length = rn at hll
  change rL.length ≤ 4 at hl4
  change _ = some (Value.slice rA rn rc) at hc
  change Ints _ rA rL at hi
  change Hid (topH (LLof rs) a = if rL.length = 0 then 4 else rL[rL.length - 1]?.getD 0) at HT
  rw [hll] at HT
  have ha2 : (a : Int) < 3 := by omega
  subst hA
  by_cases h0 : rn = 0
  · rw [if_pos h0] at HT
    have h0' : ((rn : Int) == 0) = true := by simp; omega
    clear hi hll hl4 h0
    go_enter Tryd.func35, Tryd.ntmps35
    go_wp2
    go_ret
    exact ⟨ret_int HT.out.symm, hb0⟩
  · rw [if_neg h0] at HT
    obtain ⟨k, rfl⟩ : ∃ k, rn = k + 1 := ⟨rn - 1, by omega⟩
    obtain ⟨ae, hae, had2, hcd⟩ := hi k (by omega)
    subst hae
    rw [List.getD_eq_getElem?_getD] at hcd
    rw [show k + 1 - 1 = k by omega] at HT
    have hk1 : ((k + 1 : Nat) : Int) - 1 = (k : Int) := by omega
    have hk4 : k + 1 ≤ 4 := by omega
    have hne : (((k + 1 : Nat) : Int) == 0) = false := by simp; omega
    have hklt : (k : Int) < ((k + 1 : Nat) : Int) := by omega
    generalize rL[k]?.getD 0 = x at *
    clear hi hll h0 hl4
    generalize hK : k + 1 = K at *
    clear hK
    go_enter Tryd.func35, Tryd.ntmps35
    go_wp2
    go_ret
    exact ⟨ret_int HT.out.symm, hb0⟩

set_option maxRecDepth 100000 in
set_option maxHeartbeats 8000000 in
theorem l06Moves_calls (A : Option Addr) (n c : Nat) (rs : List Rw) (w : World) (hL : rs.length = n) (hn : n ≤ 1048576) (hb : totN rs ≤ 1048576) (hI : IntsSS w A rs) (hh : heapB (LLof rs) = true) :
    Calls Tryd.prog 20 #[.agg #[.slice A n c]] w fun e w' => ∃ A' c', e = .returned (.slice A' (hmd (topH (LLof rs)) (totN rs)).length c') ∧ OwnM w.heap.size w' A' (hmd (topH (LLof rs)) (totN rs)).length c' (hmd (topH (LLof rs)) (totN rs)) ∧ Below w.heap.size w w' := by
  obtain ⟨i0, hi, hz0, hz1', hz2'⟩ := info_parts Tryd.infoM
  have HL := Lib.hid hL
  have HT := Lib.hid hb
  have HH := Lib.hid hh
  have HI := Lib.hid hI
  have hN4 : totN rs ≤ 4 := by have := (heapB_facts hh).2.1; have := cnt_tot hI; omega
  clear hL hb hh hI
  obtain ⟨N, hN⟩ : ∃ N, N = totN rs := ⟨_, rfl⟩
  obtain ⟨T, hT⟩ : ∃ T, T = topH (LLof rs) := ⟨_, rfl⟩
  rw [← hN, ← hT]
  rw [← hN] at hN4
  have HN := Lib.hid hN
  have HTT := Lib.hid hT
  clear hN hT
  go_enter Tryd.func20, Tryd.ntmps20
  go_wp2
  go_loopw [3, 4, 5, 6] (fun o d _ _ wr => ∃ k : Nat, k ≤ N ∧ d = .int .i64 k ∧ ∃ A' m c', o = .slice A' m c' ∧ OwnM (w.heap.size + 1) wr A' m c' (hmd T k) ∧ Box wr w.heap.size 29 #[.slice A n c] ∧ Below w.heap.size w wr) (fun _ d _ _ _ => N - (intOf d).toNat)
  case atStart =>
    have e1 : Box (w.alloc (.cells #[.slice A n c] 29)) w.heap.size 29 #[.slice A n c] := Box.new _ _ _
    have e2 := Box.new (w.alloc (.cells #[.slice A n c] 29)) 40 #[]
    rw [World.size_alloc] at e2
    exact ⟨0, Nat.zero_le _, rfl, _, _, _, rfl, OwnG.emptyAt e2 (Nat.le_refl _), e1.alloc _, ((Below.refl _ _).alloc (Nat.le_refl _) _).alloc (by simp) _⟩
  case round =>
    obtain ⟨k, hk, rfl, A', m, c', rfl, hO, hbx, hb⟩ := hrel
    obtain ⟨c0, f0⟩ := hbx.one
    have hlt0 := hbx.lt
    have HIr := Lib.hid (HI.out.below hb)
    have HBX := Lib.hid hbx
    have HO := Lib.hid hO
    have HB := Lib.hid hb
    have hsz := hb.size
    clear hO hbx hb
    go_wp2_with fail
    refine (l06Count_calls A n c rs _ HL.out hn HT.out HIr.out).mono ?_
    rintro e w1 ⟨rfl, hb1⟩
    rw [← HN.out]
    have HBX1 := Lib.hid (HBX.out.below hb1 hlt0)
    have HO1 := Lib.hid (HO.out.below hb1)
    have HB1 := Lib.hid (HB.out.trans (hb1.mono hsz))
    clear hb1 HBX HO HB HIr c0 f0 hsz hlt0
    by_cases hlt : k < N
    · go_wp2
      go_loopw [3, 5, 6] (fun o t _ wr => ∃ j : Nat, j ≤ 3 ∧ t = .int .i64 j ∧ ∃ A' m c', o = .slice A' m c' ∧ OwnM (w.heap.size + 1) wr A' m c' (hmd T k ++ hma T k j) ∧ Box wr w.heap.size 29 #[.slice A n c] ∧ Below w.heap.size w wr) (fun _ t _ _ => 3 - (intOf t).toNat)
      case atStart => exact ⟨0, by omega, rfl, A', m, c', rfl, by simpa [hma] using HO1.out, HBX1.out, HB1.out⟩
      case round =>
        clear HO1 HB1 HBX1
        obtain ⟨j, hj, rfl, A', m, c', rfl, hO, hbx, hb⟩ := hrel
        have HBX := Lib.hid hbx
        have HO := Lib.hid hO
        have HB := Lib.hid hb
        clear hO hbx hb
        by_cases hjl : j < 3
        · have hjl2 : (j : Int) < 3 := by omega
          go_wp2
          go_loopw [3, 6] (fun o t wr => ∃ b : Nat, b ≤ 3 ∧ t = .int .i64 b ∧ ∃ A' m c', o = .slice A' m c' ∧ OwnM (w.heap.size + 1) wr A' m c' (hmd T k ++ (hma T k j ++ hmb T k j b)) ∧ Box wr w.heap.size 29 #[.slice A n c] ∧ Below w.heap.size w wr) (fun _ t _ => 3 - (intOf t).toNat)
          case atStart => exact ⟨0, by omega, rfl, A', m, c', rfl, by simpa [hmb] using HO.out, HBX.out, HB.out⟩
          case round =>
            clear HO HB HBX
            obtain ⟨b, hb3, rfl, A', m, c', rfl, hO, hbx, hb⟩ := hrel
            obtain ⟨c0, f0⟩ := hbx.one
            have hlt0 := hbx.lt
            have hsz := hb.size
            have HIr := Lib.hid (HI.out.below hb)
            have HBX := Lib.hid hbx
            have HO := Lib.hid hO
            have HB := Lib.hid hb
            have hm40 : m ≤ 60 := by
              have h1 := OwnM.len hO
              have h2 := hmd_len T k
              have h3 := hma_len T k j
              have h4 := hmb_len T k j b
              simp only [List.length_append] at h1
              omega
            clear hO hbx hb
            by_cases hbl : b < 3
            · have hbl2 : (b : Int) < 3 := by omega
              go_wp2_with fail
              refine (l06Top_calls A n c rs j hjl _ HL.out HIr.out HH.out).mono ?_
              rintro e w1 ⟨rfl, hb1⟩
              have HBX1 := Lib.hid (HBX.out.below hb1 hlt0)
              have HO1 := Lib.hid (HO.out.below hb1)
              have HB1 := Lib.hid (HB.out.trans (hb1.mono hsz))
              have HI1 := Lib.hid (HIr.out.below hb1)
              rw [← HTT.out]
              clear hb1 HBX HO HB HIr c0 f0 hsz hlt0
              by_cases hTj : T j = (k : Int)
              · have ht : (T j == (k : Int)) = true := by simpa using hTj
                have HTJ := Lib.hid hTj
                clear hTj
                obtain ⟨c0, f0⟩ := HBX1.out.one
                have hlt0 := HBX1.out.lt
                have hsz := HB1.out.size
                by_cases hjb : j = b
                · have hrow := Lib.hid (hmb_no (T := T) (d := (k : Int)) (a := j) (b := b) (by rw [← hjb, HTJ.out]; omega))
                  have hd : ((j : Int) != (b : Int)) = false := by simp; omega
                  clear hjb
                  go_wp2
                  go_roundw
                  case rel => exact ⟨b + 1, by omega, by go_num, A', m, c', rfl, by rw [hrow.out]; exact HO1.out, HBX1.out, HB1.out⟩
                  case measure => simp [intOf]; omega
                · have hd : ((j : Int) != (b : Int)) = true := by simp; omega
                  clear hjb
                  go_wp2_with fail
                  refine (l06Top_calls A n c rs b hbl _ HL.out HI1.out HH.out).mono ?_
                  rintro e w2 ⟨rfl, hb2⟩
                  have HBX2 := Lib.hid (HBX1.out.below hb2 hlt0)
                  have HO2 := Lib.hid (HO1.out.below hb2)
                  have HB2 := Lib.hid (HB1.out.trans (hb2.mono hsz))
                  rw [← HTT.out]
                  clear hb2 HBX1 HO1 HB1 HI1 c0 f0 hsz hlt0
                  have hsz := HB2.out.size
                  have hlt0 := HBX2.out.lt
                  by_cases hTb : (k : Int) < T b
                  · have hrow := Lib.hid (hmb_yes HTJ.out hTb)
                    generalize T b = y at *
                    go_wp2_with (at_builtin; refine wpList_append_own _ rfl _ _ 26 rfl (w.heap.size + 1) 40 i0 (.agg #[.int .i64 0, .int .i64 0, .int .i64 0]) 3 24 Tryd.underlying26 hi hz0 hz1' hz2' rfl (by decide) _ _ _ rfl (HO2.out.alloc _) ⟨w2.heap.size, 0, none⟩ 1 1 [.int .i64 k, .int .i64 j, .int .i64 b] rfl rfl (World.news_of_block (cs := #[.int .i64 k, .int .i64 j, .int .i64 b]) (t := 40) (fr := (0, 0)) (heap_alloc_new w2 _)) (by simp [Value.oneCell']) (by unfold maxLen; omega) (by omega) (by simp; omega) ?_; intro v' w3 hown' hgrow _; obtain ⟨A2, c2, rfl⟩ := ownG_shape hown'; have HO3 := Lib.hid hown'; have HBX3 := Lib.hid (HO2.out.grown_box hgrow HBX2.out (by decide)); have HB3 := Lib.hid (HB2.out.trans (HO2.out.grown_below hgrow (by omega) hsz)); clear hown' hgrow)
                    go_roundw
                    case rel =>
                      refine ⟨b + 1, by omega, by go_num, A2, m + 1, c2, rfl, ?_, HBX3.out, HB3.out⟩
                      rw [hrow.out, ← List.append_assoc, ← List.append_assoc]
                      unfold OwnM OwnG
                      rw [mvCells_snoc, List.append_assoc]
                      exact HO3.out
                    case measure => simp [intOf]; omega
                  · have hrow := Lib.hid (hmb_no (T := T) (d := (k : Int)) (a := j) (b := b) hTb)
                    generalize T b = y at *
                    go_wp2
                    go_roundw
                    case rel => exact ⟨b + 1, by omega, by go_num, A', m, c', rfl, by rw [hrow.out]; exact HO2.out, HBX2.out, HB2.out⟩
                    case measure => simp [intOf]; omega
              · have ht : (T j == (k : Int)) = false := by simpa using hTj
                have hnn := Lib.hid (hmb_none hTj)
                clear hTj
                go_wp2
                go_roundw
                case rel => exact ⟨j + 1, by omega, by go_num, A', m, c', rfl, by rw [hma, hnn.out 3]; have := HO1.out; rw [hnn.out b] at this; exact this, HBX1.out, HB1.out⟩
                case measure => simp [intOf]; omega
            · obtain rfl : b = 3 := by omega
              go_wp2
              go_roundw
              case rel => exact ⟨j + 1, by omega, by go_num, A', m, c', rfl, by rw [hma]; exact HO.out, HBX.out, HB.out⟩
              case measure => simp [intOf]; omega
        · obtain rfl : j = 3 := by omega
          go_wp2
          go_roundw
          case rel => exact ⟨k + 1, by omega, by go_num, A', m, c', rfl, by rw [hmd]; exact HO.out, HBX.out, HB.out⟩
          case measure => simp [intOf]; omega
    · obtain rfl : k = N := by omega
      have hm : m = (hmd T k).length := (OwnM.len HO1.out).symm
      subst hm
      go_wp2
      go_ret
      exact ⟨A', c', rfl, HO1.out.mono (by omega), HB1.out⟩

set_option maxHeartbeats 1000000 in
theorem specHeapMoves_h (A : Option Addr) (n c : Nat) (rs : List Rw) (w : World) (hL : rs.length = n) (hn : n ≤ 1048576) (hb : totN rs ≤ 1048576) (hI : IntsSS w A rs) :
    Calls Tryd.prog 6 #[.agg #[.slice A n c]] w (RetMvs w (hmL (LLof rs)).length (hmL (LLof rs)) (hmE (LLof rs))) := by
  have hb0 : Below w.heap.size w (w.alloc (.cells #[.slice A n c] 29)) := (Below.refl _ _).alloc (Nat.le_refl _) _
  have HL := Lib.hid hL
  have HI := Lib.hid (hI.below hb0)
  have HB0 := Lib.hid hb0
  have HT := Lib.hid hb
  have HC := Lib.hid (cnt_tot hI)
  have X0 := Lib.hid (Box.new w 29 #[.slice A n c])
  clear hb0 hI hL hb
  go_enter Tryd.func6, Tryd.ntmps6
  go_wp2_with fail
  refine (l06Is_calls A n c rs _ HL.out hn HT.out HI.out).mono ?_
  rintro e w1 ⟨rfl, hb1⟩
  have HB1 := Lib.hid (HB0.out.trans (hb1.mono HB0.out.size))
  have HI1 := Lib.hid (HI.out.below hb1)
  have X1 := Lib.hid (X0.out.below hb1 X0.out.lt)
  clear hb1 HB0 HI X0
  cases hh : heapB (LLof rs) with
  | true =>
    have HD := Lib.hid (hm_yes hh)
    have HH := Lib.hid hh
    have hcc := hmd_cnt hh
    rw [← HC.out] at hcc
    have HCC := Lib.hid hcc
    clear hh hcc
    obtain ⟨x0, _⟩ := X1.out.one
    go_wp2_with fail
    refine (l06Moves_calls A n c rs _ HL.out hn HT.out HI1.out HH.out).mono ?_
    rintro e w2 ⟨A', c', rfl, hO, hb2⟩
    have HO := Lib.hid (hO.mono HB1.out.size)
    have HB2 := Lib.hid (HB1.out.trans (hb2.mono HB1.out.size))
    clear hb2 hO
    go_wp2
    go_ret2
    rw [HD.out.1, HD.out.2, HCC.out]
    exact ⟨A', c', rfl, HO.out, HB2.out⟩
  | false =>
    have HD := Lib.hid (hm_no hh)
    clear hh
    go_wp2
    go_ret2
    rw [HD.out.1, HD.out.2]
    exact retMvs_zero rfl HB1.out

set_option maxRecDepth 100000 in
set_option maxHeartbeats 8000000 in
theorem heapMoves_calls (Z : Nat → Int) (T : Nat → Int) (hT : ∀ a, a < 3 → T a = Z (a * 4)) (w : World) :
    Calls Tryd.prog 23 #[.agg (zA Z)] w fun e w' => ∃ A' c', e = .returned (.slice A' (hmd T 4).length c') ∧ OwnM w.heap.size w' A' (hmd T 4).length c' (hmd T 4) ∧ Below w.heap.size w w' := by
  obtain ⟨i0, hi, hz0, hz1', hz2'⟩ := info_parts Tryd.infoM
  have HTZ := Lib.hid hT
  have HIX : Hid (∀ a : Nat, a < 3 → ∀ w, (Instr.index 50 (.agg (zA Z)) (.int .i64 (a : Int))).run Tryd.prog w = .ok (.agg #[.int .i64 (Z (a * 4)), .int .i64 (Z (a * 4 + 1)), .int .i64 (Z (a * 4 + 2)), .int .i64 (Z (a * 4 + 3))]) w) := fun a ha w => ix_piles Z a ha w
  have P0 := Lib.hid (Box.new w 50 (zA Z))
  have hb0 : Below w.heap.size w (w.alloc (.cells (zA Z) 50)) := (Below.refl _ _).alloc (Nat.le_refl _) _
  obtain ⟨W0, hW0⟩ : ∃ W0, W0 = w.alloc (.cells (zA Z) 50) := ⟨_, rfl⟩
  rw [← hW0] at P0 hb0
  have HB0 := Lib.hid hb0
  have HW := Lib.hid hW0
  clear hT hb0 hW0
  simp only [zA] at HIX HW
  simp only [zA]
  go_enter Tryd.func23, Tryd.ntmps23
  go_wp2
  rw [← HW.out]
  go_loopw [3, 4, 9] (fun o _ d wr => ∃ k : Nat, k ≤ 4 ∧ d = .int .i64 k ∧ ∃ A' m c', o = .slice A' m c' ∧ OwnM W0.heap.size wr A' m c' (hmd T k) ∧ Below W0.heap.size W0 wr) (fun _ _ d _ => 4 - (intOf d).toNat)
  case atStart => exact ⟨0, by omega, rfl, _, _, _, rfl, OwnG.nilS _ _ _ _, Below.refl _ _⟩
  case round =>
    obtain ⟨k, hk, rfl, A', m, c', rfl, hO, hb⟩ := hrel
    have HO := Lib.hid hO
    have HB := Lib.hid hb
    have P1 := Lib.hid (P0.out.below hb P0.out.lt)
    clear hO hb
    obtain ⟨d0, d1, d2, d3, d4, d5, d6, d7, d8, d9, d10, d11⟩ := P1.out.z12
    by_cases hlt : k < 4
    · have hlt2 : (k : Int) < 4 := by omega
      go_wp2
      go_loopw [3, 5, 6, 13] (fun o _ _ t wr => ∃ j : Nat, j ≤ 3 ∧ t = .int .i64 j ∧ ∃ A' m c', o = .slice A' m c' ∧ OwnM W0.heap.size wr A' m c' (hmd T k ++ hma T k j) ∧ Below W0.heap.size W0 wr) (fun _ _ _ t _ => 3 - (intOf t).toNat)
      case atStart => exact ⟨0, by omega, rfl, A', m, c', rfl, by simpa [hma] using HO.out, HB.out⟩
      case round =>
        clear HO HB P1 d0 d1 d2 d3 d4 d5 d6 d7 d8 d9 d10 d11
        obtain ⟨j, hj, rfl, A', m, c', rfl, hO, hb⟩ := hrel
        have HO := Lib.hid hO
        have HB := Lib.hid hb
        have P1 := Lib.hid (P0.out.below hb P0.out.lt)
        have hzz := P1.out.lt
        clear hO hb
        obtain ⟨d0, d1, d2, d3, d4, d5, d6, d7, d8, d9, d10, d11⟩ := P1.out.z12
        by_cases hjl : j < 3
        · have hjl2 : (j : Int) < 3 := by omega
          have hix := HIX.out j hjl
          have hb6 := Box.new wr 48 #[.int .i64 (Z (j * 4)), .int .i64 (Z (j * 4 + 1)), .int .i64 (Z (j * 4 + 2)), .int .i64 (Z (j * 4 + 3))]
          have hal : Below wr.heap.size wr (wr.alloc (.cells #[.int .i64 (Z (j * 4)), .int .i64 (Z (j * 4 + 1)), .int .i64 (Z (j * 4 + 2)), .int .i64 (Z (j * 4 + 3))] 48)) := (Below.refl _ _).alloc (Nat.le_refl _) _
          obtain ⟨wj, hwj⟩ : ∃ wj, wj = wr := ⟨_, rfl⟩
          obtain ⟨W6, hW6⟩ : ∃ W6, W6 = wr.alloc (.cells #[.int .i64 (Z (j * 4)), .int .i64 (Z (j * 4 + 1)), .int .i64 (Z (j * 4 + 2)), .int .i64 (Z (j * 4 + 3))] 48) := ⟨_, rfl⟩
          rw [← hW6] at hb6 hal
          have X6 := Lib.hid hb6
          have HAL := Lib.hid hal
          have HO6 := Lib.hid (HO.out.below hal)
          have HB6 := Lib.hid (HB.out.trans (hal.mono HB.out.size))
          have HW6 := Lib.hid hW6
          have hTj := Lib.hid (HTZ.out j hjl)
          subst hwj
          clear hb6 hal hW6
          go_wp2
          rw [← HW6.out]
          go_loopw [3, 7, 8, 18] (fun o _ _ t wx => ∃ b : Nat, b ≤ 3 ∧ t = .int .i64 b ∧ ∃ A' m c', o = .slice A' m c' ∧ OwnM W0.heap.size wx A' m c' (hmd T k ++ (hma T k j ++ hmb T k j b)) ∧ Box wx wj.heap.size 48 #[.int .i64 (Z (j * 4)), .int .i64 (Z (j * 4 + 1)), .int .i64 (Z (j * 4 + 2)), .int .i64 (Z (j * 4 + 3))] ∧ Below W0.heap.size W0 wx) (fun _ _ _ t _ => 3 - (intOf t).toNat)
          case atStart => exact ⟨0, by omega, rfl, A', m, c', rfl, by simpa [hmb] using HO6.out, X6.out, HB6.out⟩
          case round =>
            clear HO HB HO6 HB6 X6
            obtain ⟨b, hb3, rfl, A', m, c', rfl, hO, hbx, hb⟩ := hrel
            have HO := Lib.hid hO
            have HB := Lib.hid hb
            have hsz := hb.size
            have HBX := Lib.hid hbx
            have hzx := hbx.lt
            have x0 : wr.cell? ⟨wj.heap.size, 0, none⟩ = some (.int .i64 (Z (j * 4))) := by simpa using hbx.cell 0
            have hm40 : m ≤ 60 := by
              have h1 := OwnM.len hO
              have h2 := hmd_len T k
              have h3 := hma_len T k j
              have h4 := hmb_len T k j b
              simp only [List.length_append] at h1
              omega
            rw [← hTj.out] at x0
            clear hO hb hbx
            by_cases hbl : b < 3
            · have hbl2 : (b : Int) < 3 := by omega
              have hix := HIX.out b hbl
              have hTb := Lib.hid (HTZ.out b hbl)
              rw [← hTb.out] at hix
              have hal : Below wr.heap.size wr (wr.alloc (.cells #[.int .i64 (T b), .int .i64 (Z (b * 4 + 1)), .int .i64 (Z (b * 4 + 2)), .int .i64 (Z (b * 4 + 3))] 48)) := (Below.refl _ _).alloc (Nat.le_refl _) _
              have HO8 := Lib.hid (HO.out.below hal)
              have HB8 := Lib.hid (HB.out.trans (hal.mono hsz))
              have HBX8 := Lib.hid (HBX.out.below hal hzx)
              clear hal
              by_cases hTj2 : T j = (k : Int)
              · have ht : (T j == (k : Int)) = true := by simpa using hTj2
                have HTJ := Lib.hid hTj2
                clear hTj2
                by_cases hTb2 : (k : Int) < T b
                · have hrow := Lib.hid (hmb_yes HTJ.out hTb2)
                  generalize T b = y at *
                  generalize T j = x at *
                  have hs8 := HB8.out.size
                  have hnw := heap_alloc_new (wr.alloc (.cells #[.int .i64 y, .int .i64 (Z (b * 4 + 1)), .int .i64 (Z (b * 4 + 2)), .int .i64 (Z (b * 4 + 3))] 48)) (.cells #[.int .i64 k, .int .i64 j, .int .i64 b] 40)
                  rw [show (wr.alloc (.cells #[.int .i64 y, .int .i64 (Z (b * 4 + 1)), .int .i64 (Z (b * 4 + 2)), .int .i64 (Z (b * 4 + 3))] 48)).heap.size = wr.heap.size + 1 by simp] at hnw
                  have hs9 : W0.heap.size ≤ wr.heap.size + 1 := by omega
                  have HNW := Lib.hid hnw
                  clear hnw
                  go_wp2_with (at_builtin; refine wpList_append_own _ rfl _ _ 26 rfl W0.heap.size 40 i0 (.agg #[.int .i64 0, .int .i64 0, .int .i64 0]) 3 24 Tryd.underlying26 hi hz0 hz1' hz2' rfl (by decide) _ _ _ rfl (HO8.out.alloc _) ⟨wr.heap.size + 1, 0, none⟩ 1 1 [.int .i64 k, .int .i64 j, .int .i64 b] rfl rfl (World.news_of_block (cs := #[.int .i64 k, .int .i64 j, .int .i64 b]) (t := 40) (fr := (0, 0)) HNW.out) (by simp [Value.oneCell']) (by unfold maxLen; omega) (by omega) (by simp; omega) ?_; intro v' w3 hown' hgrow _; obtain ⟨A2, c2, rfl⟩ := ownG_shape hown'; have HO3 := Lib.hid hown'; have HBX3 := Lib.hid (HO8.out.grown_box hgrow HBX8.out (by decide)); have HB3 := Lib.hid (HB8.out.trans (HO8.out.grown_below hgrow (Nat.le_refl _) hs8)); clear hown' hgrow)
                  go_roundw
                  case rel =>
                    refine ⟨b + 1, by omega, by go_num, A2, m + 1, c2, rfl, ?_, HBX3.out, HB3.out⟩
                    rw [hrow.out, ← List.append_assoc, ← List.append_assoc]
                    unfold OwnM OwnG
                    rw [mvCells_snoc, List.append_assoc]
                    exact HO3.out
                  case measure => simp [intOf]; omega
                · have hrow := Lib.hid (hmb_no (T := T) (d := (k : Int)) (a := j) (b := b) hTb2)
                  generalize T b = y at *
                  generalize T j = x at *
                  go_wp2
                  go_roundw
                  case rel => exact ⟨b + 1, by omega, by go_num, A', m, c', rfl, by rw [hrow.out]; exact HO8.out, HBX8.out, HB8.out⟩
                  case measure => simp [intOf]; omega
              · have ht : (T j == (k : Int)) = false := by simpa using hTj2
                have hnn := Lib.hid (hmb_none hTj2)
                clear hTj2
                generalize T b = y at *
                generalize T j = x at *
                go_wp2
                go_roundw
                case rel => exact ⟨b + 1, by omega, by go_num, A', m, c', rfl, by have := HO8.out; rw [hnn.out b] at this; rw [hnn.out (b + 1)]; exact this, HBX8.out, HB8.out⟩
                case measure => simp [intOf]; omega
            · obtain rfl : b = 3 := by omega
              go_wp2
              go_roundw
              case rel => exact ⟨j + 1, by omega, by go_num, A', m, c', rfl, by rw [hma]; exact HO.out, HB.out⟩
              case measure => simp [intOf]; omega
        · obtain rfl : j = 3 := by omega
          go_wp2
          go_roundw
          case rel => exact ⟨k + 1, by omega, by go_num, A', m, c', rfl, by rw [hmd]; exact HO.out, HB.out⟩
          case measure => simp [intOf]; omega
    · obtain rfl : k = 4 := by omega
      have hm : m = (hmd T 4).length := (OwnM.len HO.out).symm
      subst hm
      go_wp2
      go_ret
      exact ⟨A', c', rfl, HO.out.mono HB0.out.size, HB0.out.trans (HB.out.mono HB0.out.size)⟩

set_option maxHeartbeats 2000000 in
theorem implHeapMoves_h (A : Option Addr) (n c : Nat) (rs : List Rw) (ea : Addr) (w : World) (hL : rs.length = n) (hn : n ≤ 1048576) (hb : totN rs ≤ 1048576) (hI : IntsSS w A rs) (hS : Sent w ea) :
    Calls Tryd.prog 8 #[.agg #[.slice A n c]] w (RetMvs w (hmL (LLof rs)).length (hmL (LLof rs)) (hmE (LLof rs))) := by
  have hb0 : Below w.heap.size w (w.alloc (.cells #[.slice A n c] 29)) := (Below.refl _ _).alloc (Nat.le_refl _) _
  have HL := Lib.hid hL
  have HI := Lib.hid (hI.below hb0)
  have HB0 := Lib.hid hb0
  have S0 := Lib.hid (hS.below hb0)
  have HT := Lib.hid hb
  clear hb0 hI hL hb hS
  go_enter Tryd.func8, Tryd.ntmps8
  go_wp2_with fail
  refine (heapDoor_calls A n c rs ea _ HL.out hn HT.out HI.out S0.out).mono ?_
  rintro e w1 ⟨rfl, hb1⟩
  have HB1 := Lib.hid (HB0.out.trans (hb1.mono HB0.out.size))
  clear hb1
  cases hh : heapB (LLof rs) with
  | true =>
    have HD := Lib.hid (hm_yes hh)
    have hd := door_yes hh
    rw [hd.1, hd.2]
    clear hd hh
    have HB2 := Lib.hid (HB1.out.alloc HB1.out.size (.cells (zA (pilesOf (LLof rs))) 50))
    have hr := Lib.hid (heapMoves_calls (pilesOf (LLof rs)) (topH (LLof rs)) (fun a _ => rfl) (w1.alloc (.cells (zA (pilesOf (LLof rs))) 50)))
    obtain ⟨T, hT⟩ : ∃ T, T = topH (LLof rs) := ⟨_, rfl⟩
    rw [← hT] at hr HD
    clear hT
    generalize pilesOf (LLof rs) = Z at *
    simp only [zA] at hr HB2
    simp only [zA]
    go_wp2_with fail
    refine hr.out.mono ?_
    rintro e w2 ⟨A', c', rfl, hO, hb2⟩
    have HO := Lib.hid (hO.mono HB2.out.size)
    have HB3 := Lib.hid (HB2.out.trans (hb2.mono HB2.out.size))
    clear hb2 hO
    go_wp2
    go_ret2
    rw [HD.out.1, HD.out.2]
    exact ⟨A', c', rfl, HO.out, HB3.out⟩
  | false =>
    have HD := Lib.hid (hm_no hh)
    have hd := door_no hh
    rw [hd.1, hd.2]
    clear hd hh
    simp only [zA]
    go_wp2
    go_ret2
    rw [HD.out.1, HD.out.2]
    exact retMvs_zero rfl (HB1.out.alloc HB1.out.size _)

end Go.Proofs.YtpiglaolofddfaaDoor
