/- Contracts of the laws' functions over lists of states: they compare, mark, look for marks. -/
import Derived.Test.YtagaopdpnloblaaSt
import Derived.Test.YtagaopdpnloblaaMark
import Derived.StillTailTactics
namespace Go.Proofs.Ytagaopdpnloblaa
open Go.RowKit
set_option linter.unusedVariables false

set_option maxRecDepth 100000 in
set_option maxHeartbeats 1000000 in
theorem eqStateS_calls (A A' : Option Addr) (n c n' c' : Nat) (rs rs' : List Sw) (w : World) (hL : rs.length = n) (hL' : rs'.length = n') (hn : n ≤ 1048576) (hn' : n' ≤ 1048576) (hb : ∀ r ∈ rs, r.n ≤ 1048576) (hb' : ∀ r ∈ rs', r.n ≤ 1048576) (hI : IntsSt w A rs) (hI' : IntsSt w A' rs') :
    Calls Try.prog 10 #[.slice A n c, .slice A' n' c'] w fun e w' => e = .returned (.bool (decide (QLof rs = QLof rs'))) ∧ Below w.heap.size w w' := by
  have HL := Lib.hid hL
  have HL' := Lib.hid hL'
  have HB := Lib.hid hb
  have HB' := Lib.hid hb'
  clear hL hL' hb hb'
  by_cases hne : n = n'
  · subst hne
    go_enter Try.func10, Try.ntmps10
    go_wp2
    go_loopw [5] (fun i wr => ∃ k : Nat, k ≤ n ∧ i = .int .i64 k ∧ Hid (∀ j, j < k → (QLof rs)[j]? = (QLof rs')[j]?) ∧ Below w.heap.size w wr) (fun i _ => n - (intOf i).toNat)
    case atStart => exact ⟨0, Nat.zero_le _, rfl, fun j hj => absurd hj (by omega), Below.refl _ _⟩
    case round =>
      obtain ⟨k, hk, rfl, hsame, hbw⟩ := hrel
      have HBW := Lib.hid hbw
      have HIr := Lib.hid (hI.below hbw)
      have HIr' := Lib.hid (hI'.below hbw)
      clear hbw
      by_cases hlt : k < n
      · obtain ⟨r, hr⟩ := getT_of_lt (rs := rs) (k := k) (by rw [HL.out]; exact hlt)
        obtain ⟨r', hr'⟩ := getT_of_lt (rs := rs') (k := k) (by rw [HL'.out]; exact hlt)
        obtain ⟨g, rfl, had, hc, hc1, hl, hi⟩ := HIr.out k r hr
        obtain ⟨g', rfl, had', hc', hc1', hl', hi'⟩ := HIr'.out k r' hr'
        have hnr := HB.out r (List.mem_of_getElem? hr)
        have hnr' := HB'.out r' (List.mem_of_getElem? hr')
        have HG := Lib.hid (QL_at hr)
        have HG' := Lib.hid (QL_at hr')
        obtain ⟨rq, rA, rn, rc, rd, rL⟩ := r
        obtain ⟨sq, sA, sn, sc, sd, sL⟩ := r'
        change _ = some (Value.int .i64 rq) at hc
        change _ = some (Value.int .i64 sq) at hc'
        change _ = some (Value.slice rA rn rc) at hc1
        change _ = some (Value.slice sA sn sc) at hc1'
        change rL.length = rn at hl
        change sL.length = sn at hl'
        have HLr := Lib.hid hl
        have HLs := Lib.hid hl'
        have HIa : Hid (Ints wr rA rL) := hi
        have HIb : Hid (Ints wr sA sL) := hi'
        have hnr2 : rn ≤ 1048576 := hnr
        have hnr3 : sn ≤ 1048576 := hnr'
        clear hl hl' hi hi' hr hr' hnr hnr'
        go_wp2_with fail
        go_still_tail 8, (by kernel_rfl)
        change wpList _ _ _ _ _ wr.drew
        go_wp2_with fail
        refine (eqState_calls rA sA rn rc sn sc rq sq rL sL _ HLr.out HLs.out hnr2 hnr3 (show Ints wr.drew rA rL from HIa.out) (show Ints wr.drew sA sL from HIb.out)).mono ?_
        rintro e w1 ⟨rfl, hb1⟩
        have HB1 := Lib.hid (HBW.out.drew.trans (hb1.mono HBW.out.size))
        clear hb1
        by_cases he : rq = sq ∧ rL = sL
        · have hd : Hid (decide (rq = sq ∧ rL = sL) = true) := by unfold Hid; simpa using he
          have HE := Lib.hid he
          clear he
          rw [hd.out]
          go_wp2
          go_roundw
          case rel =>
            refine ⟨k + 1, by omega, by go_num, fun j hj => ?_, HB1.out⟩
            by_cases hjk : j = k
            · subst hjk
              rw [HG.out, HG'.out]
              show some (rq, rL) = some (sq, sL)
              rw [HE.out.1, HE.out.2]
            · exact hsame.out j (by omega)
          case measure => simp [intOf]; omega
        · have hd : Hid (decide (rq = sq ∧ rL = sL) = false) := by unfold Hid; simpa using he
          have HE := Lib.hid he
          have H : Hid (false = decide (QLof rs = QLof rs')) := by
            unfold Hid
            symm
            rw [decide_eq_false_iff_not]
            intro e
            have h1 := HG.out
            rw [e, HG'.out] at h1
            injection h1 with h1
            injection h1 with h1 h2
            exact HE.out ⟨h1.symm, h2.symm⟩
          clear he
          rw [hd.out]
          go_wp2
          go_ret
          exact ⟨ret_bool H.out, HB1.out⟩
      · obtain rfl : k = n := by omega
        have H : Hid (true = decide (QLof rs = QLof rs')) := by
          unfold Hid
          symm
          rw [decide_eq_true_iff]
          apply List.ext_getElem?
          intro j
          by_cases hj : j < k
          · exact hsame.out j hj
          · rw [List.getElem?_eq_none (by rw [QL_len, HL.out]; omega), List.getElem?_eq_none (by rw [QL_len, HL'.out]; omega)]
        go_wp2
        go_ret
        exact ⟨ret_bool H.out, HBW.out⟩
  · have hd : ((n : Int) != (n' : Int)) = true := by simp; omega
    have H : Hid (false = decide (QLof rs = QLof rs')) := by
      unfold Hid
      symm
      rw [decide_eq_false_iff_not]
      intro e
      have := congrArg List.length e
      rw [QL_len, QL_len, HL.out, HL'.out] at this
      exact hne this
    clear hne
    go_enter Try.func10, Try.ntmps10
    go_wp2
    go_ret
    exact ⟨ret_bool H.out, Below.refl _ _⟩

set_option maxHeartbeats 1000000 in
theorem markStateS_calls (B : Nat) (A : Option Addr) (n c : Nat) (rs : List Sw) (k : Int) (w : World) (hO : OwnSt B w A n c rs) (hn : n ≤ 1048576) (hb : totT rs ≤ 1048576) (hk0 : 0 ≤ k) (hk1 : k ≤ 900000000000) :
    Calls Try.prog 13 #[.slice A n c, .int .i64 k] w fun e w' => e = .returned (.int .i64 (k + totT rs)) ∧ OwnSt B w' A n c (mkSt k rs) ∧ Below B w w' := by
  have HL := Lib.hid hO.len
  have HT := Lib.hid hb
  have HBs : Hid (rs ≠ [] → B ≤ w.heap.size) := by
    intro h
    rcases hO.1.form with ⟨_, h0, _⟩ | ⟨g, _, h1, h2⟩
    · exact absurd (List.eq_nil_of_length_eq_zero (by rw [hO.len]; exact h0)) h
    · omega
  have HO := Lib.hid hO
  clear hO hb
  go_enter Try.func13, Try.ntmps13
  go_wp2
  go_loopw [1, 5] (fun m i wr => ∃ j q : Nat, j ≤ n ∧ i = .int .i64 j ∧ m = .int .i64 (k + q) ∧ Hid (q = totT (rs.take j)) ∧ q ≤ 1048576 ∧ OwnSt B wr A n c (mixSt k rs j) ∧ Below B w wr) (fun _ i _ => n - (intOf i).toNat)
  case atStart => exact ⟨0, 0, Nat.zero_le _, rfl, by simp, by unfold Hid totT; simp, by omega, by rw [mixSt_zero]; exact HO.out, Below.refl _ _⟩
  case round =>
    obtain ⟨j, q, hj, rfl, rfl, hq, hqb, hown, hbl⟩ := hrel
    have HOw := Lib.hid hown
    have HBl := Lib.hid hbl
    clear hown hbl
    by_cases hlt : j < n
    · obtain ⟨r, hr⟩ := getT_of_lt (rs := rs) (k := j) (by rw [HL.out]; exact hlt)
      have hrm := mixSt_get (k := k) hr
      obtain ⟨gA, hA, had, hc, hc1, hl, hi⟩ := HOw.out.ints j r hrm
      subst hA
      have hro := HOw.out.2.1 r (List.mem_of_getElem? hrm)
      have hts := totT_take_succ hr
      have htl := totT_take_le rs (j + 1)
      have hrn : r.n ≤ 1048576 := by have := HT.out; omega
      have hq2 : q + (r.n + 1) ≤ 1048576 := by have := HT.out; have := hq.out; omega
      obtain ⟨hS1, hG1⟩ := HOw.out.setq hrm (k + q)
      have hf0 := World.ownsRow.frozenAt HOw.out.1 (j * 2)
      have HR := Lib.hid hr
      have HRM := Lib.hid hrm
      have HTS := Lib.hid hts
      have HBn := Lib.hid (HBs.out (by intro e; rw [e] at hr; simp at hr))
      have hgA : B ≤ gA := (ownG_lt HOw.out.1).1
      have hj2 : j < (mixSt k rs j).length := (List.getElem?_eq_some_iff.1 hrm).1
      have hS2 : ((mixSt k rs j).set j { r with q := k + q })[j]? = some { r with q := k + q } := by rw [List.getElem?_set, if_pos rfl, if_pos hj2]
      have HS1 := Lib.hid hS1
      have HS2 := Lib.hid hS2
      have HRO := Lib.hid (hS1.2.1 _ (List.mem_of_getElem? hS2))
      have HB1 := Lib.hid (HBl.out.grown hG1 (Nat.le_trans HBn.out HBl.out.size) (fun g hg => by injection hg with hg; omega))
      clear hr hrm hro hts htl hl hi hS1 hG1 hS2 hj2
      obtain ⟨rq, rA, rn, rc, rd, rL⟩ := r
      change _ = some (Value.slice rA rn rc) at hc1
      change _ = some (Value.int .i64 rq) at hc
      change rn ≤ 1048576 at hrn
      change q + (rn + 1) ≤ 1048576 at hq2
      have hlt2 : (j : Int) < (n : Int) := by omega
      go_wp2_with fail
      refine (markInt64S_gen B rA rn rd rc rL (k + q + 1) _ HRO.out hrn (by omega) (by omega)).mono ?_
      rintro e w2 ⟨rfl, hO2, hg2⟩
      have HO2 := Lib.hid (HS1.out.row HS2.out hO2 hg2)
      have HB2 := Lib.hid (HB1.out.grown hg2 (Nat.le_trans HBn.out HB1.out.size) (fun g hg => own_bk HRO.out g hg))
      clear hO2 hg2
      go_wp2
      go_roundw
      case rel =>
        refine ⟨j + 1, q + (rn + 1), by omega, by go_num, by go_num, ?_, hq2, ?_, HB2.out⟩
        · unfold Hid
          rw [HTS.out, ← hq.out]
        · have h1 := mixSt_step (k := k) HR.out
          rw [← h1, ← hq.out]
          have h2 := HO2.out
          rw [List.set_set] at h2
          exact h2
      case measure => simp [intOf]; omega
    · obtain rfl : j = n := by omega
      go_wp2
      go_ret
      have e : rs.take j = rs := List.take_of_length_le (by rw [HL.out]; exact Nat.le_refl _)
      refine ⟨ret_int (by rw [hq.out, e]), ?_, HBl.out⟩
      have := mixSt_all k rs
      rw [HL.out] at this
      rw [← this]
      exact HOw.out

set_option maxHeartbeats 1000000 in
theorem heldStateS_calls (A : Option Addr) (n c : Nat) (rs : List Sw) (k : Int) (w : World) (hL : rs.length = n) (hI : IntsSt w A (mkSt k rs)) (hn : n ≤ 1048576) (hb : totT rs ≤ 1048576) (hk0 : 0 ≤ k) (hk1 : k ≤ 900000000000) :
    Calls Try.prog 14 #[.slice A n c, .int .i64 k] w fun e w' => e = .returned (.int .i64 (k + totT rs)) ∧ Below w.heap.size w w' := by
  have HL := Lib.hid hL
  have HT := Lib.hid hb
  clear hL hb
  go_enter Try.func14, Try.ntmps14
  go_wp2
  go_loopw [1, 5] (fun m i wr => ∃ j q : Nat, j ≤ n ∧ i = .int .i64 j ∧ m = .int .i64 (k + q) ∧ Hid (q = totT (rs.take j)) ∧ q ≤ 1048576 ∧ Below w.heap.size w wr) (fun _ i _ => n - (intOf i).toNat)
  case atStart => exact ⟨0, 0, Nat.zero_le _, rfl, by simp, by unfold Hid totT; simp, by omega, Below.refl _ _⟩
  case round =>
    obtain ⟨j, q, hj, rfl, rfl, hq, hqb, hbw⟩ := hrel
    have HBW := Lib.hid hbw
    have HIr := Lib.hid (hI.below hbw)
    clear hbw
    by_cases hlt : j < n
    · obtain ⟨r, hr⟩ := getT_of_lt (rs := rs) (k := j) (by rw [HL.out]; exact hlt)
      have hrm := mkSt_get k rs j r hr
      obtain ⟨g, hA, had, hc, hc1, hl, hi⟩ := HIr.out j _ hrm
      have hts := totT_take_succ hr
      have htl := totT_take_le rs (j + 1)
      have hrn : r.n ≤ 1048576 := by have := HT.out; omega
      have hq2 : q + (r.n + 1) ≤ 1048576 := by have := HT.out; have := hq.out; omega
      have HTS := Lib.hid hts
      have HI2 := Lib.hid hi
      clear hr hrm hts htl hl hi
      subst hA
      obtain ⟨rq, rA, rn, rc, rd, rL⟩ := r
      change _ = some (Value.slice rA rn rc) at hc1
      change rn ≤ 1048576 at hrn
      change q + (rn + 1) ≤ 1048576 at hq2
      have HI3 : Hid (Ints wr rA (iotaL (k + q + 1) rn)) := by
        have := HI2.out
        rw [← hq.out] at this
        exact this
      rw [← hq.out] at hc
      have hlt2 : (j : Int) < (n : Int) := by omega
      have hq3 : (k + (q : Int) != k + (q : Int)) = false := by simp
      have hnn : ¬ (k + q + 1 + rn : Int) < 0 := by omega
      go_wp2_with fail
      refine (heldInt64S_calls rA rn rc (k + q + 1) _ HI3.out hrn (by omega) (by omega)).mono ?_
      rintro e w2 ⟨rfl, m2, rfl⟩
      have HB2 := Lib.hid (HBW.out.trans (belowDraws (Below.refl _ _) m2))
      go_wp2
      go_roundw
      case rel =>
        refine ⟨j + 1, q + (rn + 1), by omega, by go_num, by go_num, ?_, hq2, ?_⟩
        · unfold Hid
          rw [HTS.out, ← hq.out]
        · exact HB2.out
      case measure => simp [intOf]; omega
    · obtain rfl : j = n := by omega
      go_wp2
      go_ret
      have e : rs.take j = rs := List.take_of_length_le (by rw [HL.out]; exact Nat.le_refl _)
      exact ⟨ret_int (by rw [hq.out, e]), HBW.out⟩

end Go.Proofs.Ytagaopdpnloblaa
