/- Contracts: the stacks of a state. -/
import Derived.Test.YtfdjlgpdbgmdkaaSS2
import Derived.Test.YtfdjlgpdbgmdkaaState1
import Derived.Deep.AppendLies
namespace Go.Proofs.Ytfdjlgpdbgmdkaa
open Go.RowKit
set_option linter.unusedVariables false

/-- The discs of a peg among the k greatest ones, the greatest first. -/
def stkL (L : List Int) (peg : Int) : Nat → List Int
  | 0 => []
  | k + 1 => stkL L peg k ++ (if L[L.length - 1 - k]?.getD 0 = peg then [((L.length - 1 - k : Nat) : Int)] else [])
theorem stkL_len (L : List Int) (peg : Int) : ∀ k, (stkL L peg k).length ≤ k
  | 0 => by simp [stkL]
  | k + 1 => by have := stkL_len L peg k; unfold stkL; split <;> simp <;> omega
def stacksL (p : Nat) (L : List Int) (k : Nat) : List (List Int) := (List.range p).map (fun i : Nat => stkL L (i : Int) k)
theorem stacksL_succ (p : Nat) (L : List Int) (k : Nat) : stacksL (p + 1) L k = stacksL p L k ++ [stkL L (p : Int) k] := by simp [stacksL, List.range_succ]
theorem stacksL_len (p : Nat) (L : List Int) (k : Nat) : (stacksL p L k).length = p := by simp [stacksL]
def stkV (p : Int) (L : List Int) : List (List Int) := if stateB p L = true then stacksL p.toNat L L.length else []
theorem stk_yes {p : Nat} {L : List Int} {n : Nat} (h : stateB p L = true) (hL : L.length = n) : stkV p L = stacksL p L n ∧ codeS p L = 0 := ⟨by unfold stkV; rw [if_pos h, Int.toNat_natCast, hL], codeS_yes h⟩
theorem stk_no {p : Int} {L : List Int} (h : stateB p L = false) : stkV p L = [] ∧ codeS p L = 1 := ⟨by unfold stkV; rw [h]; rfl, codeS_no h⟩

theorem stkV_small (p : Int) (L : List Int) : ((stkV p L).map List.length).sum + (stkV p L).length ≤ 1048576 := by
  by_cases h : stateB p L = true
  · obtain ⟨h3, h5, h8, _⟩ := state_facts h rfl
    obtain ⟨q, rfl⟩ := Int.eq_ofNat_of_zero_le (a := p) (by omega)
    rw [(stk_yes h rfl).1, stacksL_len]
    have hs : ∀ (l : List Nat) (b : Nat), (∀ x ∈ l, x ≤ b) → l.sum ≤ l.length * b := by
      intro l b hl
      induction l with
      | nil => simp
      | cons x t ih =>
        have h1 := hl x List.mem_cons_self
        have h2 := ih (fun y hy => hl y (List.mem_cons_of_mem _ hy))
        rw [List.sum_cons, List.length_cons, Nat.add_mul]
        omega
    have h1 := hs ((stacksL q L L.length).map List.length) 8 (fun x hx => by
      obtain ⟨l, hl, rfl⟩ := List.mem_map.1 hx
      unfold stacksL at hl
      obtain ⟨i, _, rfl⟩ := List.mem_map.1 hl
      have := stkL_len L i L.length
      omega)
    rw [List.length_map, stacksL_len] at h1
    omega
  · rw [(stk_no (by simpa using h)).1]; simp

/-- What lay before the world wo is as it was, when only younger blocks have been written to. -/
theorem ss_young {B n c : Nat} {wo wr w4 : World} {A : Option Addr} {rs : List Rw} (h0 : OwnSS B wo A n c rs) (_h : OwnSS B wr A n c rs) (hb : Below wo.heap.size wo wr) (hg : Below wo.heap.size wr w4) : OwnSS B w4 A n c rs :=
  h0.below (hb.trans hg)

set_option maxRecDepth 100000 in
set_option maxHeartbeats 4000000 in
theorem specStacksOf_ret (A : Option Addr) (n c : Nat) (p : Int) (L : List Int) (w : World) (hL : L.length = n) (hn : n ≤ 1048576) (hI : Ints w A L) :
    Calls Try.prog 33 #[.agg #[.int .i64 p, .slice A n c]] w (RetSS w (stkV p L) (codeS p L)) := by
  have HL := Lib.hid hL
  have hb0 : Below w.heap.size w (w.alloc (.cells #[.int .i64 p, .slice A n c] 26)) := (Below.refl _ _).alloc (Nat.le_refl _) _
  have HB0 := Lib.hid hb0
  have HI0 := Lib.hid (hI.below hb0)
  have X0 := Lib.hid (Box.new w 26 #[.int .i64 p, .slice A n c])
  by_cases hs : stateB p L = true
  · obtain ⟨h3, h5, h8, _⟩ := state_facts hs hL
    obtain ⟨q, rfl⟩ := Int.eq_ofNat_of_zero_le (a := p) (by omega)
    obtain ⟨i0, hi, hz0, hz1, hz2⟩ := info_parts Try.infoI
    obtain ⟨j0, hj, hy0, hy1, hy2⟩ := info_parts Try.infoSS
    have H := Lib.hid (stk_yes hs hL)
    have hq5 : q ≤ 5 := by omega
    have HSt := Lib.hid hs
    clear hL hb0 hs
    go_enter Try.func33, Try.ntmps33
    go_wp2_with fail
    refine (l01Is_calls A n c q L _ HL.out hn HI0.out).mono ?_
    rintro e w1 ⟨rfl, hb⟩
    have HB1 := Lib.hid (HB0.out.trans (hb.mono HB0.out.size))
    have X1 := Lib.hid (X0.out.below hb X0.out.lt)
    rw [show stateB (q : Int) L = true from HSt.out]
    obtain ⟨x0, x1, _, _⟩ := X1.out.two
    clear hb X0 HB0 HI0
    go_wp2
    go_loopw [4, 5, 6, 7] (fun v pg _ _ wr => ∃ k : Nat, k ≤ q ∧ pg = .int .i64 k ∧ (∃ AA cc rs, v = .slice AA k cc ∧ OwnSS w.heap.size wr AA k cc rs ∧ LLof rs = stacksL k L n) ∧ Box wr w.heap.size 26 #[.int .i64 q, .slice A n c] ∧ Below w.heap.size w wr) (fun _ pg _ _ _ => q - (intOf pg).toNat)
    case atStart =>
      have e2 := Box.new w1 24 #[]
      have hal : Below w1.heap.size w1 (w1.alloc (.cells #[] 24)) := (Below.refl _ _).alloc (Nat.le_refl _) _
      exact ⟨0, Nat.zero_le _, rfl, ⟨_, _, [], rfl, ⟨OwnG.emptyAt e2 HB1.out.size, fun r hr => by simp at hr, List.Pairwise.nil⟩, rfl⟩, X1.out.below hal X1.out.lt, HB1.out.trans (hal.mono HB1.out.size)⟩
    case round =>
      obtain ⟨k, hk, rfl, ⟨AA, cc, rs, rfl, hSS, hLL⟩, hX, hb⟩ := hrel
      have HSS := Lib.hid hSS
      have HLL := Lib.hid hLL
      have HX := Lib.hid hX
      have HB := Lib.hid hb
      have hsz := hb.size
      clear hSS hLL hX hb x0 x1 X1
      obtain ⟨x0, x1, _, _⟩ := HX.out.two
      have hzx := HX.out.lt
      by_cases hlt : k < q
      · have hold : Hid (∀ s ∈ rs, ∀ g, s.A = some ⟨g, 0, none⟩ → g < wr.heap.size) := by
          intro s hs g hA
          have := HSS.out.2.1 s hs
          rw [hA] at this
          exact (ownG_lt this).2
        have hal : Below wr.heap.size wr (wr.alloc (.cells #[] 2)) := (Below.refl _ _).alloc (Nat.le_refl _) _
        have HS0 := Lib.hid (OwnG.emptyAt (e := 2) (size := 1) (Box.new wr 2 #[]) (Nat.le_refl wr.heap.size))
        have HSS0 := Lib.hid (HSS.out.below hal)
        have HX0 := Lib.hid (HX.out.below hal HX.out.lt)
        have HAL := Lib.hid hal
        clear hal
        obtain ⟨wo, rfl⟩ : ∃ wo : World, wo = wr := ⟨_, rfl⟩
        go_wp2
        clear x0 x1
        go_loopw [6, 7] (fun v d wq => ∃ m x l : Nat, m + x = n ∧ d = .int .i64 ((m : Int) - 1) ∧ Hid ((stkL L k x).length = l) ∧ (∃ SA sc, v = .slice SA l sc ∧ OwnG 2 1 wo.heap.size wq SA l sc ((stkL L k x).map (Value.int .i64))) ∧ OwnSS w.heap.size wq AA k cc rs ∧ Box wq w.heap.size 26 #[.int .i64 q, .slice A n c] ∧ Below wo.heap.size wo wq) (fun _ d _ => (intOf d + 1).toNat)
        case atStart => exact ⟨n, 0, 0, by omega, rfl, rfl, ⟨_, _, rfl, HS0.out⟩, HSS0.out, HX0.out, HAL.out⟩
        case round =>
          obtain ⟨m, x, l, hmx, rfl, hl, ⟨SA, sc, rfl, hS⟩, hSS, hX, hbl⟩ := hrel
          have HS := Lib.hid hS
          have HSS2 := Lib.hid hSS
          have HX2 := Lib.hid hX
          have HBl := Lib.hid hbl
          have hsz2 := hbl.size
          have HMX := Lib.hid hmx
          have hx8 : x ≤ 8 := by omega
          have hl8 : l ≤ 8 := by have := stkL_len L k x; have := hl.out; omega
          clear hS hSS hX hbl
          obtain ⟨x0, x1, _, _⟩ := HX2.out.two
          by_cases hm : 0 < m
          · obtain ⟨j, rfl⟩ : ∃ j, m = j + 1 := ⟨m - 1, by omega⟩
            have hjn : j < n := by omega
            obtain ⟨ad, rfl, had, hc⟩ := (hI.below (HB.out.trans (HBl.out.mono hsz))) j (by rw [HL.out]; exact hjn)
            have hst : Hid (stkL L k (x + 1) = stkL L k x ++ (if L[j]?.getD 0 = (k : Int) then [(j : Int)] else [])) := by
              have e : L.length - 1 - x = j := by rw [HL.out]; omega
              unfold Hid
              rw [stkL, e]
            have hidx : ((j + 1 : Nat) : Int) - 1 = (j : Int) := by omega
            have hj1 : (j : Int) < (n : Int) := by omega
            rw [hidx]
            clear hidx hmx
            generalize stkL L k x = D at *
            by_cases hpk : L[j]?.getD 0 = (k : Int)
            · have ht : (L[j]?.getD 0 == (k : Int)) = true := by simpa using hpk
              have hst2 : Hid (stkL L k (x + 1) = D ++ [(j : Int)]) := by unfold Hid; rw [hst.out, if_pos hpk]
              clear hpk hst
              go_wp2_with (at_builtin; refine wpList_append_own _ rfl _ _ 24 rfl wo.heap.size 2 i0 (.int .i64 0) 1 8 Try.underlying24 hi hz0 hz1 hz2 rfl (by decide) _ _ _ rfl (HS.out.alloc _) ⟨wr.heap.size, 0, none⟩ 1 1 [.int .i64 j] rfl rfl (cell_one_new _ _ _) (by simp [Value.oneCell']) (by unfold maxLen; omega) (by omega) (by simp; omega) ?_; intro v' w4 hown' hgrow _; obtain ⟨A4, c4, rfl⟩ := ownG_shape hown'; have HO4 := Lib.hid hown'; have HG4 := Lib.hid (OwnG.grown_below HS.out hgrow (Nat.le_refl _) hsz2); have HX4 := Lib.hid (OwnG.grown_box HS.out hgrow HX2.out (by decide)); have HSS4 := Lib.hid (ss_young HSS.out HSS2.out HBl.out HG4.out); clear hown' hgrow)
              go_roundw
              case rel =>
                refine ⟨j, x + 1, l + 1, by have := HMX.out; omega, rfl, by unfold Hid; rw [hst2.out, List.length_append, hl.out]; rfl, ⟨A4, c4, rfl, ?_⟩, HSS4.out, HX4.out, HBl.out.trans HG4.out⟩
                rw [hst2.out, List.map_append]
                exact HO4.out
              case measure => simp [intOf]
            · have ht : (L[j]?.getD 0 == (k : Int)) = false := by simpa using hpk
              have hst2 : Hid (stkL L k (x + 1) = D) := by unfold Hid; rw [hst.out, if_neg hpk, List.append_nil]
              clear hpk hst
              go_wp2
              go_roundw
              case rel => exact ⟨j, x + 1, l, by have := HMX.out; omega, rfl, by unfold Hid; rw [hst2.out]; exact hl.out, ⟨SA, sc, rfl, by rw [hst2.out]; exact HS.out⟩, HSS2.out, HX2.out, HBl.out⟩
              case measure => simp [intOf]
          · obtain rfl : m = 0 := by omega
            have hxn : Hid (x = n) := by unfold Hid; omega
            obtain ⟨R, hR⟩ : ∃ R : Rw, R = ⟨SA, l, sc, sc, stkL L k x⟩ := ⟨_, rfl⟩
            have HRv : Hid (R.v = .slice SA l sc) := by rw [hR]; rfl
            have HRo : Hid (Own w.heap.size wr R.A R.n R.d R.L) := by rw [hR]; exact HS.out.mono hsz
            have HRb : Hid (∀ g, R.A = some ⟨g, 0, none⟩ → wo.heap.size ≤ g) := by
              intro g hg
              rw [hR] at hg
              change SA = some ⟨g, 0, none⟩ at hg
              have := HS.out
              rw [hg] at this
              exact (ownG_lt this).1
            have HRl : Hid (R.L = stkL L k n) := by rw [hR]; show stkL L k x = _; rw [hxn.out]
            have hszw : w.heap.size ≤ wr.heap.size := Nat.le_trans hsz hsz2
            have hmaps : (rs.map Rw.v).length = k := by have := HSS2.out.len; simpa using this
            clear hR hmx
            go_wp2_with (at_builtin; refine wpList_append_own _ rfl _ _ 36 rfl w.heap.size 24 j0 (.slice none 0 0) 1 24 Try.underlying36 hj hy0 hy1 hy2 rfl (by decide) _ _ _ rfl (HSS2.out.1.alloc _) ⟨wr.heap.size, 0, none⟩ 1 1 [.slice SA l sc] rfl rfl (cell_one_new _ _ _) (by simp [Value.oneCell']) (by unfold maxLen; omega) (by omega) (by simp; omega) ?_; intro v' w4 hown' hgrow _; obtain ⟨A4, c4, rfl⟩ := ownG_shape hown'; have HO4 := Lib.hid hown'; have HG4 := Lib.hid hgrow; clear hown' hgrow)
            go_roundw
            case rel =>
              refine ⟨k + 1, by omega, by go_num, ⟨A4, c4, rs ++ [R], rfl, ?_, ?_⟩, OwnG.grown_box HSS2.out.1 HG4.out HX2.out (by decide), HB.out.trans ((HBl.out.mono hsz).trans (OwnG.grown_below HSS2.out.1 HG4.out (Nat.le_refl _) hszw))⟩
              · refine OwnSS.snoc HSS2.out HRo.out HRb.out hold.out ?_ HG4.out
                rw [HRv.out]
                exact HO4.out
              · unfold LLof
                rw [List.map_append, stacksL_succ, List.map_cons, List.map_nil, HRl.out]
                exact congrArg (· ++ [stkL L k n]) HLL.out
            case measure => simp [intOf]; omega
      · obtain rfl : k = q := by omega
        go_wp2
        go_ret2
        obtain ⟨q1, q2⟩ := H.out
        rw [q1, q2]
        exact ⟨AA, k, cc, rs, rfl, HSS.out, HLL.out, HB.out⟩
  · have hs' : stateB p L = false := by simpa using hs
    have H := Lib.hid (stk_no hs')
    clear hs hL hb0
    go_enter Try.func33, Try.ntmps33
    go_wp2_with fail
    refine (l01Is_calls A n c p L _ HL.out hn HI0.out).mono ?_
    rintro e w1 ⟨rfl, hb⟩
    have HB := Lib.hid (HB0.out.trans (hb.mono HB0.out.size))
    clear hb
    go_wp2
    go_ret2
    obtain ⟨q1, q2⟩ := H.out
    rw [q1, q2]
    exact retSS_zero rfl HB.out

/-- As many lists as pegs, none of which has an element. -/
def nilRow : Rw := ⟨none, 0, 0, 0, []⟩
theorem ownSS_made {B : Nat} {w : World} {g p : Nat} (hb : Box w g 24 (List.replicate p (Value.slice none 0 0)).toArray) (hB : B ≤ g) (hp : p ≤ 100) : OwnSS B w (some ⟨g, 0, none⟩) p p (List.replicate p nilRow) := by
  refine ⟨⟨by simp, .inr ⟨g, p, _, rfl, hB, hb, Nat.le_refl _, by unfold maxLen; omega, by simp, ?_⟩⟩, ?_, ?_⟩
  · rw [List.take_of_length_le (by simp)]
    simp [nilRow, Rw.v]
  · intro r hr
    rw [List.eq_of_mem_replicate hr]
    exact Own.nilS _ _
  · unfold Distinct
    rw [List.pairwise_iff_getElem]
    intro i j hi hj _ g hA
    rw [List.getElem_replicate] at hA
    cases hA

theorem stacks_start (q : Nat) (L : List Int) : LLof (List.replicate q nilRow) = stacksL q L 0 := by
  unfold LLof stacksL
  apply List.ext_getElem (by simp)
  intro i h1 h2
  simp [nilRow, stkL]
theorem stacks_step {q k n d P : Nat} {L : List Int} (hL : L.length = n) (hd : d + k + 1 = n) (hP : L[d]?.getD 0 = (P : Int)) (hPq : P < q) : (stacksL q L k).set P (stkL L P k ++ [(d : Int)]) = stacksL q L (k + 1) := by
  have e : L.length - 1 - k = d := by omega
  apply List.ext_getElem (by simp [stacksL])
  intro i h1 h2
  rw [List.getElem_set]
  have hs : ∀ j (hj : j < (stacksL q L (k + 1)).length), (stacksL q L (k + 1))[j] = stkL L (j : Int) (k + 1) := by intro j hj; simp [stacksL]
  have hs0 : ∀ j (hj : j < (stacksL q L k).length), (stacksL q L k)[j] = stkL L (j : Int) k := by intro j hj; simp [stacksL]
  rw [hs]
  by_cases hi : P = i
  · subst hi
    rw [if_pos rfl, stkL, e, if_pos hP]
  · rw [if_neg hi, hs0, stkL, e, if_neg (by rw [hP]; omega), List.append_nil]
/-- The outer row behind an append to one of the lists. -/
theorem OwnSS.outer {B n c i : Nat} {w w1 : World} {o : Obj} {gA : Nat} {rs : List Rw} {r : Rw} (h : OwnSS B w (some ⟨gA, 0, none⟩) n c rs) (hi : rs[i]? = some r) (hg : (w.alloc o).grownBy w1 (Value.slice r.A r.n r.c).ownBlock) : OwnG 24 1 B w1 (some ⟨gA, 0, none⟩) n c (rs.map Rw.v) := by
  have hrow := h.2.1 r (List.mem_of_getElem? hi)
  rw [ownBlock_cap r.A r.n r.c r.d] at hg
  refine (h.1.alloc o).kept hg ?_
  intro g' hA e
  injection hA with hA
  injection hA with hA
  subst hA
  have h1 := block_of_own hrow e
  have h2 := hrow
  rw [h1] at h2
  exact absurd (OwnG.two_types h.1 h2) (by decide)

set_option maxRecDepth 100000 in
set_option maxHeartbeats 4000000 in
theorem implStacksOf_ret (A : Option Addr) (n c : Nat) (p : Int) (L : List Int) (w : World) (hL : L.length = n) (hn : n ≤ 1048576) (hI : Ints w A L) :
    Calls Try.prog 13 #[.agg #[.int .i64 p, .slice A n c]] w (RetSS w (stkV p L) (codeS p L)) := by
  have HL := Lib.hid hL
  have hb0 : Below w.heap.size w (w.alloc (.cells #[.int .i64 p, .slice A n c] 26)) := (Below.refl _ _).alloc (Nat.le_refl _) _
  have HB0 := Lib.hid hb0
  have HI0 := Lib.hid (hI.below hb0)
  have X0 := Lib.hid (Box.new w 26 #[.int .i64 p, .slice A n c])
  by_cases hs : stateB p L = true
  · obtain ⟨h3, h5, h8, _⟩ := state_facts hs hL
    obtain ⟨q, rfl⟩ := Int.eq_ofNat_of_zero_le (a := p) (by omega)
    obtain ⟨i0, hi, hz0, hz1, hz2⟩ := info_parts Try.infoI
    have hmk := run_make_row' (P := Try.prog) 36 24 (.slice none 0 0) 24 Try.underlying36 Try.infoSS rfl .i64 .i64 q (by omega) (by omega)
    obtain ⟨Z, HZ⟩ : ∃ Z : List Value, Hid (Z = List.replicate q (Value.slice none 0 0)) := ⟨_, rfl⟩
    have hmc : madeCells #[Value.slice none 0 0] q = Z.toArray := by
      apply Array.ext'
      rw [toList_madeCells_one, HZ.out]
    rw [hmc] at hmk
    have H := Lib.hid (stk_yes hs hL)
    have hq5 : q ≤ 5 := by omega
    have HSt := Lib.hid hs
    have hsa := Lib.hid (state_at hs)
    clear hL hb0 hs hmc
    go_enter Try.func13, Try.ntmps13
    go_wp2_with fail
    refine (implIsState_calls A n c q L _ HL.out hn HI0.out).mono ?_
    rintro e w1 ⟨rfl, hb⟩
    have HB1 := Lib.hid (HB0.out.trans (hb.mono HB0.out.size))
    have X1 := Lib.hid (X0.out.below hb X0.out.lt)
    rw [show stateB (q : Int) L = true from HSt.out]
    obtain ⟨x0, x1, _, _⟩ := X1.out.two
    have hzx := X1.out.lt
    have hal : Below w1.heap.size w1 (w1.alloc (.cells Z.toArray 24)) := (Below.refl _ _).alloc (Nat.le_refl _) _
    have HSS0 : Hid (OwnSS w.heap.size (w1.alloc (.cells Z.toArray 24)) (some ⟨w1.heap.size, 0, none⟩) q q (List.replicate q nilRow)) := ownSS_made (by have := Box.new w1 24 Z.toArray; rw [HZ.out] at this ⊢; exact this) HB1.out.size (by omega)
    have X2 := Lib.hid (X1.out.below hal X1.out.lt)
    have HB2 := Lib.hid (HB1.out.trans (hal.mono HB1.out.size))
    clear hb X0 HB0 HI0 hal
    go_wp2
    clear x0 x1
    generalize hgA : w1.heap.size = gA at *
    have HgA := Lib.hid hgA
    clear hgA
    go_loopw [5, 6] (fun d _ wr => ∃ m k : Nat, m + k = n ∧ d = .int .i64 ((m : Int) - 1) ∧ (∃ rs, OwnSS w.heap.size wr (some ⟨gA, 0, none⟩) q q rs ∧ LLof rs = stacksL q L k ∧ ∀ r ∈ rs, r.d = r.c) ∧ Box wr w.heap.size 26 #[.int .i64 q, .slice A n c] ∧ Below w.heap.size w wr) (fun d _ _ => (intOf d + 1).toNat)
    case atStart => exact ⟨n, 0, by omega, rfl, ⟨List.replicate q nilRow, HSS0.out, stacks_start q L, fun r hr => by rw [List.eq_of_mem_replicate hr]; rfl⟩, X2.out, HB2.out⟩
    case round =>
      obtain ⟨m, k, hmk2, rfl, ⟨rs, hSS, hLL, hcd⟩, hX, hbl⟩ := hrel
      have HSS := Lib.hid hSS
      have HLL := Lib.hid hLL
      have HCD := Lib.hid hcd
      have HX := Lib.hid hX
      have HB := Lib.hid hbl
      have hsz := hbl.size
      have HMK := Lib.hid hmk2
      have hk8 : k ≤ 8 := by omega
      clear hSS hLL hcd hX hbl
      obtain ⟨x0, x1, _, _⟩ := HX.out.two
      by_cases hm : 0 < m
      · obtain ⟨j, rfl⟩ : ∃ j, m = j + 1 := ⟨m - 1, by omega⟩
        have hjn : j < n := by omega
        obtain ⟨ad, rfl, had, hc⟩ := (hI.below HB.out) j (by rw [HL.out]; exact hjn)
        have hxb := hsa.out j (by rw [HL.out]; exact hjn)
        obtain ⟨P, hP⟩ := Int.eq_ofNat_of_zero_le hxb.1
        have hPq : P < q := by omega
        obtain ⟨r, hr⟩ : ∃ r, rs[P]? = some r := ⟨_, List.getElem?_eq_getElem (by rw [HSS.out.len]; exact hPq)⟩
        obtain ⟨ad2, hA2, _, hcr, hlr, _⟩ := HSS.out.ints P r hr
        injection hA2 with hA2
        subst hA2
        rw [add_zero_at] at hcr
        have hro := HSS.out.2.1 r (List.mem_of_getElem? hr)
        have hrcd := HCD.out r (List.mem_of_getElem? hr)
        have hrL : Hid (r.L = stkL L P k) := by
          have h1 : (LLof rs)[P]? = some r.L := by unfold LLof; rw [List.getElem?_map, hr]; rfl
          rw [HLL.out] at h1
          unfold stacksL at h1
          rw [List.getElem?_map, List.getElem?_range hPq] at h1
          injection h1 with h1
          exact h1.symm
        have hrn8 : r.n ≤ 8 := by rw [← hlr, hrL.out]; have := stkL_len L P k; omega
        rw [hrcd] at hro
        have HR := Lib.hid hr
        have HRO := Lib.hid hro
        have HRL := Lib.hid hlr
        have HP := Lib.hid hP
        have HHX := Lib.hid hc
        obtain ⟨rA, rn, rc, rd, rL⟩ := r
        change _ = some (Value.slice rA rn rc) at hcr
        change rn ≤ 8 at hrn8
        have hc2 : wr.cell? (ad.add j) = some (.int .i64 P) := by
          rw [List.getD_eq_getElem?_getD, hP] at hc
          exact hc
        have hidx : ((j + 1 : Nat) : Int) - 1 = (j : Int) := by omega
        have hj1 : (j : Int) < (n : Int) := by omega
        have hPq1 : (P : Int) < (q : Int) := by omega
        rw [hidx]
        clear hidx hmk2 hr hro hlr hrcd hP hxb hc hsa
        go_wp2_with (at_builtin; refine wpList_append_lies _ rfl _ _ 24 rfl w.heap.size 2 i0 (.int .i64 0) 1 8 Try.underlying24 hi hz0 hz1 hz2 rfl (by decide) (.slice rA rn rc) rn (rL.map (Value.int .i64)) rfl (OwnG.alloc HRO.out _) ⟨wr.heap.size, 0, none⟩ 1 1 [.int .i64 j] rfl rfl (cell_one_new _ _ _) (by simp [Value.oneCell']) (by omega) (by unfold maxLen; omega) (by omega) (by simp; omega) (wr.heap.size + 1) (by simp) ?_; intro g cap w4 hown1 hgrow hat hlt; have HO4 := Lib.hid hown1; have HG4 := Lib.hid hgrow; have HAT := Lib.hid hat; have HOut := Lib.hid (OwnSS.outer HSS.out HR.out HG4.out); obtain ⟨_, e0, _, _, hcc⟩ := HOut.out.cell P (by omega); have hff := HOut.out.frozen rfl P; injection e0 with e0; injection e0 with e0; subst e0; have hcc4 : ∃ u, w4.cell? ⟨gA, P, none⟩ = some u := ⟨_, hcc.trans (List.getElem?_eq_getElem (by rw [HOut.out.len]; omega))⟩; obtain ⟨u4, hcu⟩ := hcc4; clear hown1 hgrow hat hcc)
        go_roundw
        case rel =>
          refine ⟨j, k + 1, by have := HMK.out; omega, rfl, ⟨rs.set P ⟨some ⟨g, 0, none⟩, rn + 1, cap, cap, rL ++ [(j : Int)]⟩, ?_, ?_, ?_⟩, ?_, ?_⟩
          · have hO : Own w.heap.size w4 (some ⟨g, 0, none⟩) (rn + 1) cap (rL ++ [(j : Int)]) := by
              have := HO4.out
              unfold Own
              rw [List.map_append]
              exact this
            exact OwnSS.pushed HSS.out HR.out hO HG4.out HAT.out
          · have h1 := stacks_step (q := q) (k := k) (L := L) HL.out (by have := HMK.out; omega) HP.out hPq
            have h2 : rL = stkL L P k := hrL.out
            unfold LLof
            rw [List.map_set, ← h1, ← h2]
            exact congrArg (fun t => t.set P (rL ++ [(j : Int)])) HLL.out
          · intro s hs
            rcases List.mem_or_eq_of_mem_set hs with hs | rfl
            · exact HCD.out s hs
            · rfl
          · exact (OwnG.grown_box (show OwnG 2 1 w.heap.size wr rA rn rc (rL.map (Value.int .i64)) from HRO.out) HG4.out HX.out (by decide)).other (by show w.heap.size ≠ gA; omega) _
          · exact HB.out.trans (OwnSS.pushed_below HSS.out HR.out HG4.out (Nat.le_refl _) hsz)
        case measure => simp [intOf]
      · obtain rfl : m = 0 := by omega
        obtain rfl : k = n := by omega
        go_wp2
        go_ret2
        obtain ⟨q1, q2⟩ := H.out
        rw [q1, q2]
        exact ⟨_, q, q, rs, rfl, HSS.out, HLL.out, HB.out⟩
  · have hs' : stateB p L = false := by simpa using hs
    have H := Lib.hid (stk_no hs')
    clear hs hL hb0
    go_enter Try.func13, Try.ntmps13
    go_wp2_with fail
    refine (implIsState_calls A n c p L _ HL.out hn HI0.out).mono ?_
    rintro e w1 ⟨rfl, hb⟩
    have HB := Lib.hid (HB0.out.trans (hb.mono HB0.out.size))
    clear hb
    go_wp2
    go_ret2
    obtain ⟨q1, q2⟩ := H.out
    rw [q1, q2]
    exact retSS_zero rfl HB.out

end Go.Proofs.Ytfdjlgpdbgmdkaa
