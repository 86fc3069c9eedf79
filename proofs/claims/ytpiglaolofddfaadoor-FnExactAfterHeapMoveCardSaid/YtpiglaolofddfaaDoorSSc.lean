/- Contracts of the laws' functions over lists of lists: they compare, mark, look for marks. -/
import Derived.Test.YtpiglaolofddfaaDoorSS
namespace Go.Proofs.YtpiglaolofddfaaDoor
open Go.RowKit
set_option linter.unusedVariables false

theorem LL_at {rs : List Rw} {k : Nat} {r : Rw} (h : rs[k]? = some r) : (LLof rs)[k]? = some r.L := by unfold LLof; rw [List.getElem?_map, h]; rfl
theorem LL_len (rs : List Rw) : (LLof rs).length = rs.length := by simp [LLof]
theorem get_of_lt {rs : List Rw} {k : Nat} (h : k < rs.length) : ∃ r, rs[k]? = some r := ⟨_, List.getElem?_eq_getElem h⟩

set_option maxHeartbeats 1000000 in
theorem eqInt64SS_calls (A A' : Option Addr) (n c n' c' : Nat) (rs rs' : List Rw) (w : World) (hL : rs.length = n) (hL' : rs'.length = n') (hn : n ≤ 1048576) (hn' : n' ≤ 1048576) (hb : ∀ r ∈ rs, r.n ≤ 1048576) (hb' : ∀ r ∈ rs', r.n ≤ 1048576) (hI : IntsSS w A rs) (hI' : IntsSS w A' rs') :
    Calls Tryd.prog 25 #[.slice A n c, .slice A' n' c'] w fun e w' => e = .returned (.bool (decide (LLof rs = LLof rs'))) ∧ ∃ m, w' = w.drewN m := by
  have HL := Lib.hid hL
  have HL' := Lib.hid hL'
  have HB := Lib.hid hb
  have HB' := Lib.hid hb'
  clear hL hL' hb hb'
  by_cases hne : n = n'
  · subst hne
    go_enter Tryd.func25, Tryd.ntmps25
    go_wp2
    go_loopw [5] (fun i wr => ∃ k : Nat, k ≤ n ∧ i = .int .i64 k ∧ Hid (∀ j, j < k → (LLof rs)[j]? = (LLof rs')[j]?) ∧ Hid (∃ m, wr = w.drewN m)) (fun i _ => n - (intOf i).toNat)
    case atStart => exact ⟨0, Nat.zero_le _, rfl, fun j hj => absurd hj (by omega), 0, rfl⟩
    case round =>
      obtain ⟨k, hk, rfl, hsame, hw⟩ := hrel
      have HIr : Hid (IntsSS wr A rs) := by obtain ⟨m, hm⟩ := hw.out; rw [hm]; exact hI
      have HIr' : Hid (IntsSS wr A' rs') := by obtain ⟨m, hm⟩ := hw.out; rw [hm]; exact hI'
      by_cases hlt : k < n
      · obtain ⟨r, hr⟩ := get_of_lt (rs := rs) (k := k) (by rw [HL.out]; exact hlt)
        obtain ⟨r', hr'⟩ := get_of_lt (rs := rs') (k := k) (by rw [HL'.out]; exact hlt)
        obtain ⟨ad, rfl, had, hc, hl, hi⟩ := HIr.out k r hr
        obtain ⟨ad', rfl, had', hc', hl', hi'⟩ := HIr'.out k r' hr'
        have hnr := HB.out r (List.mem_of_getElem? hr)
        have hnr' := HB'.out r' (List.mem_of_getElem? hr')
        have HG := Lib.hid (LL_at hr)
        have HG' := Lib.hid (LL_at hr')
        obtain ⟨rA, rn, rc, rd, rL⟩ := r
        obtain ⟨sA, sn, sc, sd, sL⟩ := r'
        change _ = some (Value.slice rA rn rc) at hc
        change _ = some (Value.slice sA sn sc) at hc'
        change rL.length = rn at hl
        change sL.length = sn at hl'
        have HLr := Lib.hid hl
        have HLs := Lib.hid hl'
        have HIa : Hid (Ints wr rA rL) := hi
        have HIb : Hid (Ints wr sA sL) := hi'
        have hnr2 : rn ≤ 1048576 := hnr
        have hnr3 : sn ≤ 1048576 := hnr'
        have hlt2 : (k : Int) < (n : Int) := by omega
        clear hl hl' hi hi' hr hr' hnr hnr'
        go_wp2_with fail
        go_quiet ((go_at_call 39; exact Calls.quiet_of (eqInt64S_calls rA sA rn rc sn sc rL sL _ HLr.out HLs.out hnr2 hnr3 HIa.out HIb.out)))
        by_cases he : rL = sL
        · have hd : Hid (decide (rL = sL) = true) := by unfold Hid; simpa using he
          have HE := Lib.hid he
          clear he
          rw [hd.out]
          go_wp2
          go_roundw
          case rel =>
            refine ⟨k + 1, by omega, by go_num, fun j hj => ?_, ?_⟩
            · by_cases hjk : j = k
              · subst hjk
                rw [HG.out, HG'.out]
                show some rL = some sL
                rw [HE.out]
              · exact hsame.out j (by omega)
            · obtain ⟨m, hm⟩ := hw.out
              exact ⟨m + nq, by rw [hm, World.drewN_drewN]⟩
          case measure => simp [intOf]; omega
        · have hd : Hid (decide (rL = sL) = false) := by unfold Hid; simpa using he
          have HE := Lib.hid he
          have H : Hid (false = decide (LLof rs = LLof rs')) := by
            unfold Hid
            symm
            rw [decide_eq_false_iff_not]
            intro e
            have h1 := HG.out
            rw [e, HG'.out] at h1
            injection h1 with h1
            exact HE.out h1.symm
          clear he
          rw [hd.out]
          go_wp2
          go_ret
          refine ⟨ret_bool H.out, ?_⟩
          obtain ⟨m, hm⟩ := hw.out
          exact ⟨m + nq, by rw [hm, World.drewN_drewN]⟩
      · obtain rfl : k = n := by omega
        have H : Hid (true = decide (LLof rs = LLof rs')) := by
          unfold Hid
          symm
          rw [decide_eq_true_iff]
          apply List.ext_getElem?
          intro j
          by_cases hj : j < k
          · exact hsame.out j hj
          · rw [List.getElem?_eq_none (by rw [LL_len, HL.out]; omega), List.getElem?_eq_none (by rw [LL_len, HL'.out]; omega)]
        go_wp2
        go_ret
        exact ⟨ret_bool H.out, hw.out⟩
  · have hd : ((n : Int) != (n' : Int)) = true := by simp; omega
    have H : Hid (false = decide (LLof rs = LLof rs')) := by
      unfold Hid
      symm
      rw [decide_eq_false_iff_not]
      intro e
      have := congrArg List.length e
      rw [LL_len, LL_len, HL.out, HL'.out] at this
      exact hne this
    clear hne
    go_enter Tryd.func25, Tryd.ntmps25
    go_wp2
    go_ret
    exact ⟨ret_bool H.out, 0, rfl⟩

set_option maxHeartbeats 1000000 in
theorem markInt64SS_calls (B : Nat) (A : Option Addr) (n c : Nat) (rs : List Rw) (k : Int) (w : World) (hO : OwnSS B w A n c rs) (hn : n ≤ 1048576) (hb : totN rs ≤ 1048576) (hk0 : 0 ≤ k) (hk1 : k ≤ 900000000000) :
    Calls Tryd.prog 26 #[.slice A n c, .int .i64 k] w fun e w' => e = .returned (.int .i64 (k + totN rs)) ∧ OwnSS B w' A n c (mkSS k rs) ∧ Below B w w' := by
  have HL := Lib.hid hO.len
  have HO := Lib.hid hO
  have HT := Lib.hid hb
  have hBs : rs ≠ [] → B ≤ w.heap.size := by
    intro h
    rcases hO.1.form with ⟨_, h0, _⟩ | ⟨g, _, h1, h2⟩
    · exact absurd (List.eq_nil_of_length_eq_zero (by rw [hO.len]; exact h0)) h
    · omega
  have HBs := Lib.hid hBs
  clear hO hb hBs
  go_enter Tryd.func26, Tryd.ntmps26
  go_wp2
  go_loopw [1, 5] (fun m i wr => ∃ j q : Nat, j ≤ n ∧ i = .int .i64 j ∧ m = .int .i64 (k + q) ∧ Hid (q = totN (rs.take j)) ∧ q ≤ 1048576 ∧ OwnSS B wr A n c (mixSS k rs j) ∧ Below B w wr) (fun _ i _ => n - (intOf i).toNat)
  case atStart => exact ⟨0, 0, Nat.zero_le _, rfl, by simp, by unfold Hid totN; simp, by omega, by rw [mixSS_zero]; exact HO.out, Below.refl _ _⟩
  case round =>
    obtain ⟨j, q, hj, rfl, rfl, hq, hqb, hown, hbl⟩ := hrel
    have HOw := Lib.hid hown
    have HBl := Lib.hid hbl
    clear hown hbl
    by_cases hlt : j < n
    · obtain ⟨r, hr⟩ := get_of_lt (rs := rs) (k := j) (by rw [HL.out]; exact hlt)
      have hrm := mixSS_get (k := k) hr
      obtain ⟨ad, hA, had, hc, hl, hi⟩ := HOw.out.ints j r hrm
      have hro := HOw.out.2.1 r (List.mem_of_getElem? hrm)
      have hts := totN_take_succ hr
      have htl := totN_take_le rs (j + 1)
      have hrn : r.n ≤ 1048576 := by have := HT.out; omega
      have hq2 : q + r.n ≤ 1048576 := by have := HT.out; have := hq.out; omega
      have HR := Lib.hid hr
      have HRM := Lib.hid hrm
      have HRO := Lib.hid hro
      have HTS := Lib.hid hts
      have HBn := Lib.hid (HBs.out (by intro e; rw [e] at hr; simp at hr))
      clear hr hrm hro hts htl hl hi
      obtain ⟨rA, rn, rc, rd, rL⟩ := r
      change _ = some (Value.slice rA rn rc) at hc
      change rn ≤ 1048576 at hrn
      change q + rn ≤ 1048576 at hq2
      subst hA
      have hlt2 : (j : Int) < (n : Int) := by omega
      go_wp2_with fail
      refine (markInt64S_gen B rA rn rd rc rL (k + q) _ HRO.out hrn (by omega) (by omega)).mono ?_
      rintro e w2 ⟨rfl, hO2, hg2⟩
      have HO2 := Lib.hid (HOw.out.row HRM.out hO2 hg2)
      have HB2 := Lib.hid (HBl.out.grown hg2 (Nat.le_trans HBn.out HBl.out.size) (fun g hg => own_bk HRO.out g hg))
      clear hO2 hg2
      go_wp2
      go_roundw
      case rel =>
        refine ⟨j + 1, q + rn, by omega, by go_num, by go_num, ?_, hq2, ?_, HB2.out⟩
        · unfold Hid
          rw [HTS.out, ← hq.out]
        · have h1 := mixSS_step (k := k) HR.out
          rw [← h1, ← hq.out]
          exact HO2.out
      case measure => simp [intOf]; omega
    · obtain rfl : j = n := by omega
      go_wp2
      go_ret
      have e : rs.take j = rs := List.take_of_length_le (by rw [HL.out]; exact Nat.le_refl _)
      refine ⟨ret_int (by rw [hq.out, e]), ?_, HBl.out⟩
      have := mixSS_all k rs
      rw [HL.out] at this
      rw [← this]
      exact HOw.out

set_option maxHeartbeats 1000000 in
theorem heldInt64SS_calls (A : Option Addr) (n c : Nat) (rs : List Rw) (k : Int) (w : World) (hL : rs.length = n) (hI : IntsSS w A (mkSS k rs)) (hn : n ≤ 1048576) (hb : totN rs ≤ 1048576) (hk0 : 0 ≤ k) (hk1 : k ≤ 900000000000) :
    Calls Tryd.prog 31 #[.slice A n c, .int .i64 k] w fun e w' => e = .returned (.int .i64 (k + totN rs)) ∧ ∃ m, w' = w.drewN m := by
  have HL := Lib.hid hL
  have HT := Lib.hid hb
  clear hL hb
  go_enter Tryd.func31, Tryd.ntmps31
  go_wp2
  go_loopw [1, 5] (fun m i wr => ∃ j q : Nat, j ≤ n ∧ i = .int .i64 j ∧ m = .int .i64 (k + q) ∧ Hid (q = totN (rs.take j)) ∧ q ≤ 1048576 ∧ Hid (∃ m, wr = w.drewN m)) (fun _ i _ => n - (intOf i).toNat)
  case atStart => exact ⟨0, 0, Nat.zero_le _, rfl, by simp, by unfold Hid totN; simp, by omega, 0, rfl⟩
  case round =>
    obtain ⟨j, q, hj, rfl, rfl, hq, hqb, hw⟩ := hrel
    have HIr : Hid (IntsSS wr A (mkSS k rs)) := by obtain ⟨m, hm⟩ := hw.out; rw [hm]; exact hI
    by_cases hlt : j < n
    · obtain ⟨r, hr⟩ := get_of_lt (rs := rs) (k := j) (by rw [HL.out]; exact hlt)
      have hrm := mkSS_get k rs j r hr
      obtain ⟨ad, hA, had, hc, hl, hi⟩ := HIr.out j _ hrm
      have hts := totN_take_succ hr
      have htl := totN_take_le rs (j + 1)
      have hrn : r.n ≤ 1048576 := by have := HT.out; omega
      have hq2 : q + r.n ≤ 1048576 := by have := HT.out; have := hq.out; omega
      have HTS := Lib.hid hts
      have HI2 := Lib.hid hi
      clear hr hrm hts htl hl hi
      obtain ⟨rA, rn, rc, rd, rL⟩ := r
      change _ = some (Value.slice rA rn rc) at hc
      change rn ≤ 1048576 at hrn
      change q + rn ≤ 1048576 at hq2
      subst hA
      have hlt2 : (j : Int) < (n : Int) := by omega
      have HI3 : Hid (Ints wr rA (iotaL (k + q) rn)) := by
        have := HI2.out
        rw [← hq.out] at this
        exact this
      have hnn : ¬ (k + q + rn : Int) < 0 := by omega
      go_wp2_with fail
      refine (heldInt64S_calls rA rn rc (k + q) _ HI3.out hrn (by omega) (by omega)).mono ?_
      rintro e w2 ⟨rfl, m2, rfl⟩
      go_wp2
      go_roundw
      case rel =>
        refine ⟨j + 1, q + rn, by omega, by go_num, by go_num, ?_, hq2, ?_⟩
        · unfold Hid
          rw [HTS.out, ← hq.out]
        · obtain ⟨m, hm⟩ := hw.out
          exact ⟨m + m2, by rw [hm, World.drewN_drewN]⟩
      case measure => simp [intOf]; omega
    · obtain rfl : j = n := by omega
      go_wp2
      go_ret
      have e : rs.take j = rs := List.take_of_length_le (by rw [HL.out]; exact Nat.le_refl _)
      exact ⟨ret_int (by rw [hq.out, e]), hw.out⟩

end Go.Proofs.YtpiglaolofddfaaDoor
