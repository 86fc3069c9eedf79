/- Contracts: AfterHeapMove, by the specification's model. -/
import Derived.Test.YtpiglaolofddfaaDoorHpAS
import Derived.BigQuiet
namespace Go.Proofs.YtpiglaolofddfaaDoor
open Go.RowKit
set_option linter.unusedVariables false

theorem results_row_tmp2S {P : Program} {fn : Func} {p q : Tmp} {ty : TypeId} (h : fn.results = #[.cell p ty, .tmp q]) (tmps : Array Value) (w : World) (g : Nat) (t : TypeId) (cs : Array Value) (fr : Nat × Nat) (d : TypeDesc)
    (hp : tmps.getD p undef = .pointer (some ⟨g, 0, none⟩)) (hg : w.heap[g]? = some (.cells cs t fr))
    (hu : P.underlying ty = some d) (hd : (match d with | .struct _ | .array _ _ => true | _ => false) = true) (hi : (P.info? ty).map (·.size) = some cs.size) :
    (results fn tmps).run P w = .ok (.tuple #[.agg cs, tmps.getD q undef]) w := by
  have hp' : tmps[p]?.getD undef = .pointer (some ⟨g, 0, none⟩) := by simpa using hp
  simp [results, h, hp', asAddr, run_loadVar_row w g t ty cs fr d hg hu hd hi]


set_option maxRecDepth 100000 in
set_option maxHeartbeats 8000000 in
theorem specAfterHeapMove_h (A : Option Addr) (n c : Nat) (rs : List Rw) (m : Mv) (w : World) (hL : rs.length = n) (hn : n ≤ 1048576) (hb : totN rs ≤ 1048576) (hnc : ∀ r ∈ rs, r.A = none → r.c = 0) (hI : IntsSS w A rs) :
    Calls Tryd.prog 14 #[.agg #[.slice A n c], .agg #[.int .i64 m.1, .int .i64 m.2.1, .int .i64 m.2.2]] w (RetHeap w (ahL (LLof rs) m) (ahE (LLof rs) m)) := by
  obtain ⟨d, fr, tt⟩ := m
  dsimp only
  obtain ⟨W0, hW0⟩ : ∃ W0, W0 = ((w.alloc (.cells #[.slice A n c] 29)).alloc (.cells #[.int .i64 d, .int .i64 fr, .int .i64 tt] 40)).alloc (.cells #[.slice none 0 0] 29) := ⟨_, rfl⟩
  have hb0 : Below w.heap.size w W0 := by rw [hW0]; exact (((Below.refl _ _).alloc (Nat.le_refl _) _).alloc (by simp) _).alloc (by simp; omega) _
  have hh0 : Box W0 w.heap.size 29 #[.slice A n c] := by rw [hW0]; exact ((Box.new w _ _).alloc _).alloc _
  have hm0 : Box W0 (w.heap.size + 1) 40 #[.int .i64 d, .int .i64 fr, .int .i64 tt] := by
    have h := Box.new (w.alloc (.cells #[.slice A n c] 29)) 40 #[.int .i64 d, .int .i64 fr, .int .i64 tt]
    rw [World.size_alloc] at h
    rw [hW0]; exact h.alloc _
  have hr0 : Box W0 (w.heap.size + 1 + 1) 29 #[.slice none 0 0] := by
    have h := Box.new ((w.alloc (.cells #[.slice A n c] 29)).alloc (.cells #[.int .i64 d, .int .i64 fr, .int .i64 tt] 40)) 29 #[.slice none 0 0]
    rw [World.size_alloc, World.size_alloc] at h
    rw [hW0]; exact h
  have HC := Lib.hid (cnt_tot hI)
  have HL := Lib.hid hL
  have HT := Lib.hid hb
  have HNC := Lib.hid hnc
  have HI := Lib.hid (hI.below hb0)
  have HB0 := Lib.hid hb0
  have H0 := Lib.hid hh0
  have M0 := Lib.hid hm0
  have R0 := Lib.hid hr0
  have HW := Lib.hid hW0
  clear hb0 hI hL hb hnc hh0 hm0 hr0 hW0
  go_enter Tryd.func14, Tryd.ntmps14
  go_wp2_with fail
  rw [← HW.out]
  refine (l06Is_calls A n c rs _ HL.out hn HT.out HI.out).mono ?_
  rintro e w1 ⟨rfl, hb1⟩
  have HB1 := Lib.hid (HB0.out.trans (hb1.mono HB0.out.size))
  have H1 := Lib.hid (H0.out.below hb1 H0.out.lt)
  have M1 := Lib.hid (M0.out.below hb1 M0.out.lt)
  have R1 := Lib.hid (R0.out.below hb1 R0.out.lt)
  have HI1 := Lib.hid (HI.out.below hb1)
  have hsz1 := HB1.out.size
  have hr1 := R1.out.lt
  clear hb1 HB0 H0 M0 R0 HI HW
  cases hh : heapB (LLof rs) with
  | true =>
    obtain ⟨h0, hf0⟩ := H1.out.one
    have HH := Lib.hid hh
    have h4 := heapB_facts hh
    have HD3 := Lib.hid (heapB_facts hh)
    have HMM : Hid (hmL (LLof rs) = hmd (topH (LLof rs)) (totN rs)) := by unfold Hid; rw [(hm_yes hh).1, hmd_cnt hh, ← HC.out]
    go_wp2_with fail
    refine (l06Moves_calls A n c rs _ HL.out hn HT.out HI1.out hh).mono ?_
    rintro e w2 ⟨A2, c2, rfl, hO2, hb2⟩
    have HB2 := Lib.hid (HB1.out.trans (hb2.mono hsz1))
    have H2 := Lib.hid (H1.out.below hb2 H1.out.lt)
    have M2 := Lib.hid (M1.out.below hb2 M1.out.lt)
    have R2 := Lib.hid (R1.out.below hb2 R1.out.lt)
    have HI2 := Lib.hid (HI1.out.below hb2)
    have HV := Lib.hid hO2.mvs
    have HH := Lib.hid hh
    clear hb2 hO2 h4 HB1 H1 M1 R1 HI1 h0 hf0 hh
    have hlen := hmd_len (topH (LLof rs)) (totN rs)
    have ht4 := HD3.out.2.1
    rw [← HC.out] at ht4
    generalize hmd (topH (LLof rs)) (totN rs) = M at *
    obtain ⟨l, hl⟩ : ∃ l, M.length = l := ⟨_, rfl⟩
    have HLen := Lib.hid hl
    rw [hl]
    have hl36 : l ≤ 36 := by omega
    clear hl hlen ht4
    go_wp2
    go_loopw [7] (fun i wr => ∃ k : Nat, k ≤ l ∧ i = .int .i64 k ∧ Hid ((d, fr, tt) ∉ M.take k) ∧ Below w2.heap.size w2 wr) (fun i _ => l - (intOf i).toNat)
    case atStart => exact ⟨0, by omega, rfl, by unfold Hid; simp, Below.refl _ _⟩
    case round =>
      obtain ⟨k, hk, rfl, hno, hbl⟩ := hrel
      have HB := Lib.hid hbl
      have HN := Lib.hid hno
      have H3 := Lib.hid (H2.out.below hbl H2.out.lt)
      have M3 := Lib.hid (M2.out.below hbl M2.out.lt)
      have R3 := Lib.hid (R2.out.below hbl R2.out.lt)
      have HI3 := Lib.hid (HI2.out.below hbl)
      have HV3 := Lib.hid (HV.out.below hbl)
      have hszb := hbl.size
      clear hbl hno
      obtain ⟨h0, hf0⟩ := H3.out.one
      obtain ⟨x0, x1, x2⟩ := M3.out.three
      obtain ⟨r0, rf⟩ := R3.out.one
      have hr3 := R3.out.lt
      by_cases hlt : k < l
      · obtain ⟨g, hA, hg, y0, y1, y2⟩ := HV3.out k (by rw [HLen.out]; exact hlt)
        have hk2 : (k : Int) < (l : Int) := by omega
        subst hA
        have hlt' : k < M.length := by rw [HLen.out]; exact hlt
        have htk : Hid (M.take (k + 1) = M.take k ++ [M[k]?.getD (0, 0, 0)]) := by
          unfold Hid
          rw [List.take_succ_eq_append_getElem hlt', List.getElem?_eq_getElem hlt']
          rfl
        clear hlt'
        generalize M[k]?.getD (0, 0, 0) = y at *
        obtain ⟨v0, v1, v2⟩ := y
        simp only at y0 y1 y2
        have hq := move_equalIn v0 v1 v2 d fr tt
        have hq2 := move_equalIn d fr tt v0 v1 v2
        go_wp2_with fail
        go_quiet (fail)
        clear hq hq2
        have hbd : Below wr.heap.size wr (wr.drewN nq) := belowDraws (Below.refl _ _) _
        have HB5 := Lib.hid (HB.out.trans (hbd.mono hszb))
        have H5 := Lib.hid (H3.out.below hbd H3.out.lt)
        have M5 := Lib.hid (M3.out.below hbd M3.out.lt)
        have R5 := Lib.hid (R3.out.below hbd R3.out.lt)
        have HI5 := Lib.hid (HI3.out.below hbd)
        clear hbd h0 hf0 x0 x1 x2 r0 rf y0 y1 y2 HB H3 M3 R3 HI3 HV3 hszb hr3
        generalize wr.drewN nq = w5 at *
        have hsz5 := HB5.out.size
        have hr5 := R5.out.lt
        by_cases he : (v0 == d && (v1 == fr && v2 == tt)) = true
        · rw [he]
          simp only [Bool.and_eq_true, beq_iff_eq] at he
          obtain ⟨rfl, rfl, rfl⟩ := he
          have hmem : (v0, v1, v2) ∈ hmL (LLof rs) := by
            rw [HMM.out]
            exact List.mem_of_mem_take (i := k + 1) (by rw [htk.out]; simp)
          have HD := Lib.hid (ah_yes HH.out hmem)
          obtain ⟨f, t, hf, ht, hne, hm3, _, _, _, hfn⟩ := hm_mem HH.out hmem
          injection hm3 with hx1 hm3
          injection hm3 with hfr htt
          clear hx1
          subst hfr htt
          have HFN := Lib.hid hfn
          have H3n : Hid (n = 3) := by unfold Hid; have := HD3.out.1; rw [LL_len, HL.out] at this; exact this
          have H4r := Lib.hid (show ∀ r ∈ rs, r.n ≤ 4 from rows_small (by rw [HC.out]; exact HD3.out.2.1))
          clear hmem hfn
          obtain ⟨h0, hf0⟩ := H5.out.one
          obtain ⟨x0, x1, x2⟩ := M5.out.three
          go_wp2_with fail
          refine (l06Done_calls A n c rs v0 f t hf ht hne _ HL.out H3n.out H4r.out HNC.out HI5.out HFN.out).mono ?_
          rintro e w6 ⟨A6, c6, rs6, rfl, hO, hLL, hb6⟩
          have HB6 := Lib.hid ((HB2.out.trans (HB5.out.mono HB2.out.size)).trans (hb6.mono (by have := HB2.out.size; omega)))
          have R6 := Lib.hid (R5.out.below hb6 R5.out.lt)
          have HO := Lib.hid hO
          have HLL := Lib.hid hLL
          clear hb6 hO hLL h0 hf0 x0 x1 x2
          obtain ⟨r0, rf⟩ := R6.out.one
          go_wp2
          have hbx := Lib.hid (show Box (w6.setCell ⟨w.heap.size + 1 + 1, 0, none⟩ (.slice A6 3 c6)) (w.heap.size + 1 + 1) 29 #[.slice A6 3 c6] from R6.out.set 0 (.slice A6 3 c6))
          have hb9 := Lib.hid (HB6.out.setCell (p := ⟨w.heap.size + 1 + 1, 0, none⟩) (by simp; omega) (.slice A6 3 c6))
          have ho9 := Lib.hid (OwnSS.setOld HO.out (a := ⟨w.heap.size + 1 + 1, 0, none⟩) (by simp; omega) (.slice A6 3 c6))
          have hwm : w.heap.size ≤ w5.heap.size := by have := HB2.out.size; omega
          generalize w6.setCell ⟨w.heap.size + 1 + 1, 0, none⟩ (.slice A6 3 c6) = w9 at *
          refine bodyPost_ret (results_row_tmp2S rfl _ _ (w.heap.size + 1 + 1) 29 #[.slice A6 3 c6] (0, 0) _ rfl hbx.out Tryd.underlying29 rfl (by kernel_rfl)) rfl ?_
          rw [HD.out.1, HD.out.2]
          refine ⟨A6, 3, c6, rs6, rfl, ho9.out.mono hwm, ?_, hb9.out⟩
          rw [HLL.out]
          rfl
        · have he' : (v0 == d && (v1 == fr && v2 == tt)) = false := Bool.eq_false_iff.2 he
          have HE := Lib.hid he
          rw [he']
          clear he he'
          go_wp2
          go_roundw
          case rel =>
            refine ⟨k + 1, by omega, by go_num, ?_, HB5.out⟩
            unfold Hid
            rw [htk.out, List.mem_append]
            rintro (h | h)
            · exact HN.out h
            · rw [List.mem_singleton] at h
              injection h with h1 h2
              injection h2 with h2 h3
              exact HE.out (by simp [h1, h2, h3])
          case measure => simp [intOf]; omega
      · obtain rfl : k = l := by omega
        have hnm : (d, fr, tt) ∉ hmL (LLof rs) := by
          have h1 := HN.out
          rw [List.take_of_length_le (by rw [HLen.out]; exact Nat.le_refl _)] at h1
          rw [HMM.out]
          exact h1
        have HD := Lib.hid (ah_no5 (m := (d, fr, tt)) HH.out hnm)
        clear hnm
        go_wp2
        have hbx := Lib.hid (show Box (wr.setCell ⟨w.heap.size + 1 + 1, 0, none⟩ (.slice none 0 0)) (w.heap.size + 1 + 1) 29 #[.slice none 0 0] from R3.out.set 0 (.slice none 0 0))
        have hb9 := Lib.hid ((HB2.out.trans (HB.out.mono HB2.out.size)).setCell (p := ⟨w.heap.size + 1 + 1, 0, none⟩) (by simp; omega) (.slice none 0 0))
        generalize wr.setCell ⟨w.heap.size + 1 + 1, 0, none⟩ (.slice none 0 0) = w9 at *
        refine bodyPost_ret (results_row_tmp2S rfl _ _ (w.heap.size + 1 + 1) 29 #[.slice none 0 0] (0, 0) _ rfl hbx.out Tryd.underlying29 rfl (by kernel_rfl)) rfl ?_
        rw [HD.out.1, HD.out.2]
        exact retHeap_zero rfl hb9.out
  | false =>
    have HD := Lib.hid (ah_no1 (m := (d, fr, tt)) hh)
    obtain ⟨r0, rf⟩ := R1.out.one
    clear hh
    go_wp2
    have hbx := Lib.hid (show Box (w1.setCell ⟨w.heap.size + 1 + 1, 0, none⟩ (.slice none 0 0)) (w.heap.size + 1 + 1) 29 #[.slice none 0 0] from R1.out.set 0 (.slice none 0 0))
    have hb9 := Lib.hid (HB1.out.setCell (p := ⟨w.heap.size + 1 + 1, 0, none⟩) (by simp; omega) (.slice none 0 0))
    generalize w1.setCell ⟨w.heap.size + 1 + 1, 0, none⟩ (.slice none 0 0) = w9 at *
    refine bodyPost_ret (results_row_tmp2S rfl _ _ (w.heap.size + 1 + 1) 29 #[.slice none 0 0] (0, 0) _ rfl hbx.out Tryd.underlying29 rfl (by kernel_rfl)) rfl ?_
    rw [HD.out.1, HD.out.2]
    exact retHeap_zero rfl hb9.out

end Go.Proofs.YtpiglaolofddfaaDoor
