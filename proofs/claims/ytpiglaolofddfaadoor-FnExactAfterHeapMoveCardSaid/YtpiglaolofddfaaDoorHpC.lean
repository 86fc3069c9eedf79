/- Contracts of the laws' functions over heaps: they copy, compare, mark, look for marks, count. -/
import Derived.Test.YtpiglaolofddfaaDoorHpW
import Derived.Test.YtpiglaolofddfaaDoorSSc
namespace Go.Proofs.YtpiglaolofddfaaDoor
open Go.RowKit
set_option linter.unusedVariables false

set_option maxHeartbeats 1000000 in
theorem szInt64SS_calls (A : Option Addr) (n c : Nat) (rs : List Rw) (left : Int) (w : World) (hA : ArgSS w A n rs) (h0 : 0 ≤ left) (h1 : left ≤ 1048576) :
    Calls Tryd.prog 18 #[.slice A n c, .int .i64 left] w fun e w' => e = .returned (.int .i64 (szI (n + totN rs) left)) ∧ w = w' := by
  obtain ⟨hL, hn, hb, hI⟩ := hA
  have HL := Lib.hid hL
  have HB := Lib.hid hb
  clear hL hb
  by_cases hln : left < n
  · have H : Hid (szI (n + totN rs) left = -1) := by unfold Hid szI; rw [if_pos (by omega)]
    go_enter Tryd.func18, Tryd.ntmps18
    go_wp2
    go_ret
    exact ⟨ret_int H.out.symm, rfl⟩
  · go_enter Tryd.func18, Tryd.ntmps18
    go_wp2
    go_loop [1, 5] (fun l i => ∃ j q : Nat, j ≤ n ∧ i = .int .i64 j ∧ l = .int .i64 (left - n - q) ∧ Hid (q = totN (rs.take j)) ∧ (q : Int) ≤ left - n) (fun _ i => n - (intOf i).toNat)
    case atStart => exact ⟨0, 0, Nat.zero_le _, rfl, by simp, by unfold Hid totN; simp, by omega⟩
    case round =>
      obtain ⟨j, q, hj, rfl, rfl, hq, hqb⟩ := hrel
      by_cases hlt : j < n
      · obtain ⟨r, hr⟩ := get_of_lt (rs := rs) (k := j) (by rw [HL.out]; exact hlt)
        obtain ⟨ad, hA, had, hc, hl, hi⟩ := hI j r hr
        have hts := totN_take_succ hr
        have htl := totN_take_le rs (j + 1)
        have hrn := HB.out r (List.mem_of_getElem? hr)
        have HTS := Lib.hid hts
        have HTL := Lib.hid htl
        clear hr hts htl hl hi
        obtain ⟨rA, rn, rc, rd, rL⟩ := r
        change _ = some (Value.slice rA rn rc) at hc
        change rn ≤ 9223372036854775807 at hrn
        change Hid (totN (rs.take (j + 1)) = totN (rs.take j) + rn) at HTS
        subst hA
        have hlt2 : (j : Int) < (n : Int) := by omega
        go_wp2_with fail
        refine (szInt64S_calls rA rn rc (left - n - q) _ hrn (by omega) (by omega)).mono ?_
        rintro e w2 ⟨rfl, rfl⟩
        by_cases hs : left - n - q < rn
        · have e1 : szI rn (left - n - q) = -1 := by unfold szI; rw [if_pos hs]
          have H : Hid (szI (n + totN rs) left = -1) := by
            unfold Hid szI
            rw [if_pos]
            have h1 := HTS.out
            have h2 := HTL.out
            have h3 := hq.out
            omega
          rw [e1]
          clear hs e1
          go_wp2
          go_ret
          exact ⟨ret_int H.out.symm, rfl⟩
        · have e1 : szI rn (left - n - q) = left - n - (q + rn : Nat) := by unfold szI; rw [if_neg hs]; omega
          have hnn : ¬ left - n - ((q + rn : Nat) : Int) < 0 := by omega
          have hqq : ((q + rn : Nat) : Int) ≤ left - n := by omega
          rw [e1]
          clear hs e1
          generalize hq2 : q + rn = q2 at *
          have HQ2 := Lib.hid hq2
          clear hq2
          go_wp2
          go_round
          case rel => exact ⟨j + 1, q2, by omega, by go_num, by go_num, by unfold Hid; rw [HTS.out, ← hq.out, HQ2.out], hqq⟩
          case measure => simp [intOf]; omega
      · obtain rfl : j = n := by omega
        have H : Hid (szI (j + totN rs) left = left - j - q) := by
          have e : rs.take j = rs := List.take_of_length_le (by rw [HL.out]; exact Nat.le_refl _)
          have h3 := hq.out
          rw [e] at h3
          unfold Hid szI
          rw [if_neg (by omega)]
          omega
        go_wp2
        go_ret
        exact ⟨ret_int H.out.symm, rfl⟩

set_option maxHeartbeats 1000000 in
theorem szHeap_calls (A : Option Addr) (n c : Nat) (rs : List Rw) (left : Int) (w : World) (hA : ArgSS w A n rs) (h0 : 0 ≤ left) (h1 : left ≤ 1048576) :
    Calls Tryd.prog 5 #[.agg #[.slice A n c], .int .i64 left] w fun e w' => e = .returned (.int .i64 (szI (n + totN rs) left)) ∧ Below w.heap.size w w' := by
  have hb0 : Below w.heap.size w (w.alloc (.cells #[.slice A n c] 24)) := (Below.refl _ _).alloc (Nat.le_refl _) _
  have hA' : ArgSS (w.alloc (.cells #[.slice A n c] 24)) A n rs := ⟨hA.1, hA.2.1, hA.2.2.1, hA.2.2.2.below hb0⟩
  have hlo := szI_lo (n + totN rs) left h0
  go_enter Tryd.func5, Tryd.ntmps5
  go_wp2_with (go_at_call 18; refine (szInt64SS_calls A n c rs left _ hA' h0 h1).mono ?_; rintro e w' ⟨rfl, rfl⟩)
  all_goals
    go_ret
    exact ⟨ret_int (by omega), hb0⟩

theorem madeRows_box (w : World) (n : Nat) : Box (w.alloc (.cells (madeCells #[Value.slice none 0 0] n) 61)) w.heap.size 61 (List.replicate n (Value.slice none 0 0)).toArray := by
  have e : madeCells #[Value.slice none 0 0] n = (List.replicate n (Value.slice none 0 0)).toArray := by
    apply Array.ext (by simp [madeCells])
    intro i h1 h2
    simp [madeCells, Nat.mod_one]
  rw [← e]
  exact Box.new w _ _

set_option maxHeartbeats 1000000 in
theorem toInt64SS_calls (A : Option Addr) (n c : Nat) (rs : List Rw) (w : World) (hL : rs.length = n) (hn : n ≤ 1048576) (hb : ∀ r ∈ rs, r.n ≤ 1048576) (hI : IntsSS w A rs) :
    Calls Tryd.prog 21 #[.slice A n c] w fun e w' => ∃ g rs', e = .returned (.slice (some ⟨g, 0, none⟩) n n) ∧ w.heap.size ≤ g ∧ OwnSS w.heap.size w' (some ⟨g, 0, none⟩) n n rs' ∧ LLof rs' = LLof rs ∧ Below w.heap.size w w' := by
  have hmk := run_make_row' (P := Tryd.prog) 22 61 (.slice none 0 0) 24 Tryd.underlying22 Tryd.infoSS rfl .i64 .i64 n (by omega) (by omega)
  have HL := Lib.hid hL
  have HB := Lib.hid hb
  clear hL hb
  go_enter Tryd.func21, Tryd.ntmps21
  go_wp2
  go_loopw [4] (fun i wr => ∃ k : Nat, k ≤ n ∧ i = .int .i64 k ∧ (∃ rk, OwnSS w.heap.size wr (some ⟨w.heap.size, 0, none⟩) n n (rk ++ List.replicate (n - k) nilRw) ∧ LLof rk = LLof (rs.take k)) ∧ Below w.heap.size w wr) (fun i _ => n - (intOf i).toNat)
  case atStart =>
    refine ⟨0, Nat.zero_le _, rfl, ⟨[], ?_, by simp [LLof]⟩, (Below.refl _ _).alloc (Nat.le_refl _) _⟩
    rw [List.nil_append]
    exact ownSS_madeN (madeRows_box w n) (Nat.le_refl _) hn
  case round =>
    obtain ⟨k, hk, rfl, ⟨rk, hO, hLL⟩, hbl⟩ := hrel
    have HO := Lib.hid hO
    have HLL := Lib.hid hLL
    have HBl := Lib.hid hbl
    have hsz := hbl.size
    have hrk : rk.length = k := by have := congrArg List.length hLL; rw [LL_len, LL_len, List.length_take, HL.out] at this; omega
    have HRK := Lib.hid hrk
    clear hO hLL hbl hrk
    by_cases hlt : k < n
    · obtain ⟨r, hr⟩ := get_of_lt (rs := rs) (k := k) (by rw [HL.out]; exact hlt)
      obtain ⟨ad, hA, had, hc, hl, hi⟩ := (hI.below HBl.out) k r hr
      have hrn := HB.out r (List.mem_of_getElem? hr)
      have HT : Hid (LLof (rs.take (k + 1)) = LLof (rs.take k) ++ [r.L]) := by
        obtain ⟨h1, h2⟩ := List.getElem?_eq_some_iff.1 hr
        unfold Hid LLof
        rw [List.take_succ_eq_append_getElem h1, List.map_append, h2]
        rfl
      have HI := Lib.hid hi
      have HLr := Lib.hid hl
      clear hr hl hi
      obtain ⟨rA, rn, rc, rd, rL⟩ := r
      change _ = some (Value.slice rA rn rc) at hc
      change rn ≤ 1048576 at hrn
      change Hid (Ints wr rA rL) at HI
      change Hid (rL.length = rn) at HLr
      change Hid (LLof (rs.take (k + 1)) = LLof (rs.take k) ++ [rL]) at HT
      subst hA
      have hlt2 : (k : Int) < (n : Int) := by omega
      go_wp2_with fail
      refine (toInt64S_calls rA rn rc rL _ HLr.out hrn HI.out).mono ?_
      rintro e w2 ⟨g, rfl, hg, hrow, hb2⟩
      have hrow2 := hrow.own (B := wr.heap.size) hg (by rw [HLr.out]; exact hrn)
      rw [HLr.out] at hrow2
      have HRo : Hid (Own w.heap.size w2 (some ⟨g, 0, none⟩) rn rn rL) := hrow2.mono hsz
      have HO2 := Lib.hid (HO.out.below hb2)
      have HOld := Lib.hid HO.out.old
      have HB2 := Lib.hid (HBl.out.trans (hb2.mono hsz))
      have hk2 : k < (rk ++ List.replicate (n - k) nilRw).length := by rw [List.length_append, HRK.out, List.length_replicate]; omega
      have HP := Lib.hid (OwnSS.placed (r := ⟨some ⟨g, 0, none⟩, rn, rn, rn, rL⟩) HO2.out hk2 HRo.out (b := wr.heap.size) (fun g' h' => by have h2 : (some (⟨g, 0, none⟩ : Addr)) = some ⟨g', 0, none⟩ := h'; injection h2 with h2; injection h2 with h2; omega) HOld.out)
      obtain ⟨gx, q1, _, hgx, q4⟩ := HO2.out.1.cell k (by omega)
      have q2 := HO2.out.1.frozen rfl k
      simp only [Option.some.injEq, Addr.mk.injEq, and_true] at q1
      subst q1
      have hcc : ∃ u, w2.cell? ⟨w.heap.size, k, none⟩ = some u := ⟨_, q4.trans (List.getElem?_eq_getElem (by rw [HO2.out.1.len]; omega))⟩
      obtain ⟨u4, hcu⟩ := hcc
      clear hrow hrow2 hb2 q4 hk2
      go_wp2
      go_roundw
      case rel =>
        refine ⟨k + 1, by omega, by go_num, ⟨rk ++ [⟨some ⟨g, 0, none⟩, rn, rn, rn, rL⟩], ?_, ?_⟩, HB2.out.setCell (Nat.le_refl _) _⟩
        · have e : (rk ++ List.replicate (n - k) nilRw).set k ⟨some ⟨g, 0, none⟩, rn, rn, rn, rL⟩ = rk ++ [⟨some ⟨g, 0, none⟩, rn, rn, rn, rL⟩] ++ List.replicate (n - (k + 1)) nilRw := by
            rw [List.set_append_right _ _ (by rw [HRK.out]; exact Nat.le_refl _), HRK.out, Nat.sub_self]
            obtain ⟨j, hj⟩ : ∃ j, n - k = j + 1 := ⟨n - k - 1, by omega⟩
            rw [hj, List.replicate_succ, List.set_cons_zero, List.append_assoc]
            congr 2
            rw [show n - (k + 1) = j by omega]
            rfl
          rw [← e]
          exact HP.out
        · rw [HT.out, ← HLL.out]
          simp [LLof]
      case measure => simp [intOf]; omega
    · obtain rfl : k = n := by omega
      have e1 : rk ++ List.replicate (k - k) nilRw = rk := by simp
      have e2 : rs.take k = rs := List.take_of_length_le (by rw [HL.out]; exact Nat.le_refl _)
      rw [e1] at HO
      rw [e2] at HLL
      go_wp2
      go_ret
      exact ⟨_, rk, rfl, Nat.le_refl _, HO.out, HLL.out, HBl.out⟩

set_option maxHeartbeats 1000000 in
theorem toHeap_calls (A : Option Addr) (n c : Nat) (rs : List Rw) (w : World) (hL : rs.length = n) (hn : n ≤ 1048576) (hb : ∀ r ∈ rs, r.n ≤ 1048576) (hI : IntsSS w A rs) :
    Calls Tryd.prog 7 #[.agg #[.slice A n c]] w fun e w' => ∃ g rs', e = .returned (.agg #[.slice (some ⟨g, 0, none⟩) n n]) ∧ w.heap.size ≤ g ∧ OwnSS w.heap.size w' (some ⟨g, 0, none⟩) n n rs' ∧ LLof rs' = LLof rs ∧ Below w.heap.size w w' := by
  have HL := Lib.hid hL
  have HB := Lib.hid hb
  clear hL hb
  go_enter Tryd.func7, Tryd.ntmps7
  go_wp2_with fail
  have hb0 : Below w.heap.size w (((w.alloc (.cells #[.slice A n c] 24)).alloc (.cells #[.slice none 0 0] 29)).alloc (.cells #[.slice none 0 0] 29)) := (((Below.refl _ _).alloc (Nat.le_refl _) _).alloc (by simp) _).alloc (by simp; omega) _
  have HI0 := Lib.hid (hI.below hb0)
  have HB0 := Lib.hid hb0
  clear hb0
  refine (toInt64SS_calls A n c rs _ HL.out hn HB.out HI0.out).mono ?_
  rintro e w1 ⟨g, rs', rfl, hg, hO, hLL, hb⟩
  obtain ⟨hc, hf⟩ := keptCells hb
  have hz : w.heap.size + 3 ≤ w1.heap.size := by have := hb.size; simp at this; omega
  have hg' : w.heap.size + 3 ≤ g := by simp at hg; omega
  have HBx := Lib.hid hb
  have HO : Hid (OwnSS (w.heap.size + 3) w1 (some ⟨g, 0, none⟩) n n rs') := hO.mono (by simp)
  have HLL := Lib.hid hLL
  clear hb hO hLL hg
  go_wp2
  refine bodyPost_ret (v := .agg #[.slice (some ⟨g, 0, none⟩) n n]) (by simp [results, Tryd.results7, go_sem, hc]) rfl ⟨g, rs', rfl, by omega, ?_, HLL.out, ?_⟩
  · exact ((HO.out.setOld (by simp) _).setOld (by simp) _).mono (by omega)
  · exact (((HB0.out.trans (HBx.out.mono (by simp; omega))).setCell (by simp; omega) _).setCell (by simp) _)

set_option maxHeartbeats 1000000 in
theorem eqHeap_calls (A A' : Option Addr) (n c n' c' : Nat) (rs rs' : List Rw) (w : World) (hL : rs.length = n) (hL' : rs'.length = n') (hn : n ≤ 1048576) (hn' : n' ≤ 1048576) (hb : ∀ r ∈ rs, r.n ≤ 1048576) (hb' : ∀ r ∈ rs', r.n ≤ 1048576) (hI : IntsSS w A rs) (hI' : IntsSS w A' rs') :
    Calls Tryd.prog 10 #[.agg #[.slice A n c], .agg #[.slice A' n' c']] w fun e w' => e = .returned (.bool (decide (LLof rs = LLof rs'))) ∧ Below w.heap.size w w' := by
  have HL := Lib.hid hL
  have HL' := Lib.hid hL'
  have HB := Lib.hid hb
  have HB' := Lib.hid hb'
  have hb0 : Below w.heap.size w ((w.alloc (.cells #[.slice A n c] 29)).alloc (.cells #[.slice A' n' c'] 29)) := ((Below.refl _ _).alloc (Nat.le_refl _) _).alloc (by simp) _
  have HI0 := Lib.hid (hI.below hb0)
  have HI0' := Lib.hid (hI'.below hb0)
  have HB0 := Lib.hid hb0
  clear hL hL' hb hb' hb0 hI hI'
  go_enter Tryd.func10, Tryd.ntmps10
  go_wp2_with fail
  refine (eqInt64SS_calls A A' n c n' c' rs rs' _ HL.out HL'.out hn hn' HB.out HB'.out HI0.out HI0'.out).mono ?_
  rintro e w1 ⟨rfl, m, rfl⟩
  by_cases he : LLof rs = LLof rs'
  · have hd : Hid (decide (LLof rs = LLof rs') = true) := by unfold Hid; simpa using he
    clear he
    rw [hd.out]
    go_wp2
    go_ret
    exact ⟨ret_bool hd.out.symm, belowDraws HB0.out m⟩
  · have hd : Hid (decide (LLof rs = LLof rs') = false) := by unfold Hid; simpa using he
    clear he
    rw [hd.out]
    go_wp2
    go_ret
    exact ⟨ret_bool hd.out.symm, belowDraws HB0.out m⟩

set_option maxHeartbeats 1000000 in
theorem markHeap_calls (B : Nat) (A : Option Addr) (n c : Nat) (rs : List Rw) (k : Int) (w : World) (hO : OwnSS B w A n c rs) (hBw : B ≤ w.heap.size) (hn : n ≤ 1048576) (hb : totN rs ≤ 1048576) (hk0 : 0 ≤ k) (hk1 : k ≤ 900000000000) :
    Calls Tryd.prog 11 #[.agg #[.slice A n c], .int .i64 k] w fun e w' => e = .returned (.int .i64 (k + totN rs)) ∧ OwnSS B w' A n c (mkSS k rs) ∧ Below B w w' := by
  have hb0 : Below w.heap.size w (w.alloc (.cells #[.slice A n c] 29)) := (Below.refl _ _).alloc (Nat.le_refl _) _
  have HO := Lib.hid (hO.below hb0)
  have HB0 : Hid (Below B w (w.alloc (.cells #[.slice A n c] 29))) := hb0.mono hBw
  clear hO hb0
  go_enter Tryd.func11, Tryd.ntmps11
  go_wp2_with fail
  refine (markInt64SS_calls B A n c rs k _ HO.out hn hb hk0 hk1).mono ?_
  rintro e w1 ⟨rfl, hO, hg⟩
  have HO1 := Lib.hid hO
  have HB1 := Lib.hid (HB0.out.trans hg)
  clear hO hg
  go_wp2
  go_ret
  exact ⟨rfl, HO1.out, HB1.out⟩

set_option maxHeartbeats 1000000 in
theorem heldHeap_calls (A : Option Addr) (n c : Nat) (rs : List Rw) (k : Int) (w : World) (hL : rs.length = n) (hI : IntsSS w A (mkSS k rs)) (hn : n ≤ 1048576) (hb : totN rs ≤ 1048576) (hk0 : 0 ≤ k) (hk1 : k ≤ 900000000000) :
    Calls Tryd.prog 17 #[.agg #[.slice A n c], .int .i64 k] w fun e w' => e = .returned (.int .i64 (k + totN rs)) ∧ Below w.heap.size w w' := by
  have hb0 : Below w.heap.size w (w.alloc (.cells #[.slice A n c] 29)) := (Below.refl _ _).alloc (Nat.le_refl _) _
  have HI := Lib.hid (hI.below hb0)
  have HB0 := Lib.hid hb0
  have HL := Lib.hid hL
  have hnn : ¬ (k + totN rs : Int) < 0 := by omega
  clear hI hb0 hL
  go_enter Tryd.func17, Tryd.ntmps17
  go_wp2_with fail
  refine (heldInt64SS_calls A n c rs k _ HL.out HI.out hn hb hk0 hk1).mono ?_
  rintro e w1 ⟨rfl, m, rfl⟩
  go_wp2
  go_ret
  exact ⟨rfl, belowDraws HB0.out m⟩

end Go.Proofs.YtpiglaolofddfaaDoor
