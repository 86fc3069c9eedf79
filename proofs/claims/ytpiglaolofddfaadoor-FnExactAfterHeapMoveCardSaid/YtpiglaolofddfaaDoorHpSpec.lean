/- Contracts of the specification: what a heap is. -/
import Derived.Test.YtpiglaolofddfaaDoorHpD
import Derived.Test.YtpiglaolofddfaaDoorState1
namespace Go.Proofs.YtpiglaolofddfaaDoor
open Go.RowKit
set_option linter.unusedVariables false

set_option maxHeartbeats 1000000 in
theorem l06Count_calls (A : Option Addr) (n c : Nat) (rs : List Rw) (w : World) (hL : rs.length = n) (hn : n ≤ 1048576) (hb : totN rs ≤ 1048576) (hI : IntsSS w A rs) :
    Calls Tryd.prog 33 #[.agg #[.slice A n c]] w fun e w' => e = .returned (.int .i64 (totN rs)) ∧ Below w.heap.size w w' := by
  have HL := Lib.hid hL
  have HT := Lib.hid hb
  have hb0 : Below w.heap.size w (w.alloc (.cells #[.slice A n c] 29)) := (Below.refl _ _).alloc (Nat.le_refl _) _
  have HI := Lib.hid (hI.below hb0)
  have HB0 := Lib.hid hb0
  clear hL hb hI hb0
  go_enter Tryd.func33, Tryd.ntmps33
  go_wp2
  go_loop [3, 4] (fun m i => ∃ j q : Nat, j ≤ n ∧ i = .int .i64 j ∧ m = .int .i64 q ∧ Hid (q = totN (rs.take j)) ∧ q ≤ 1048576) (fun _ i => n - (intOf i).toNat)
  case atStart => exact ⟨0, 0, Nat.zero_le _, rfl, rfl, by unfold Hid totN; simp, by omega⟩
  case round =>
    obtain ⟨j, q, hj, rfl, rfl, hq, hqb⟩ := hrel
    by_cases hlt : j < n
    · obtain ⟨r, hr⟩ := get_of_lt (rs := rs) (k := j) (by rw [HL.out]; exact hlt)
      obtain ⟨ad, hA, had, hc, hl, hi⟩ := HI.out j r hr
      have HTS := Lib.hid (totN_take_succ hr)
      have htl := totN_take_le rs (j + 1)
      have hq2 : q + r.n ≤ 1048576 := by have := HT.out; have := hq.out; have := HTS.out; omega
      clear hr hl hi htl
      obtain ⟨rA, rn, rc, rd, rL⟩ := r
      change _ = some (Value.slice rA rn rc) at hc
      change q + rn ≤ 1048576 at hq2
      change Hid (totN (rs.take (j + 1)) = totN (rs.take j) + rn) at HTS
      subst hA
      have hlt2 : (j : Int) < (n : Int) := by omega
      go_wp2
      go_round
      case rel => exact ⟨j + 1, q + rn, by omega, by go_num, by go_num, by unfold Hid; rw [HTS.out, ← hq.out], hq2⟩
      case measure => simp [intOf]; omega
    · obtain rfl : j = n := by omega
      have e : rs.take j = rs := List.take_of_length_le (by rw [HL.out]; exact Nat.le_refl _)
      have H : Hid (q = totN rs) := by unfold Hid; rw [hq.out, e]
      go_wp2
      go_ret
      exact ⟨ret_int (by rw [H.out]), HB0.out⟩

set_option maxRecDepth 100000 in
set_option maxHeartbeats 4000000 in
theorem l06Is_calls (A : Option Addr) (n c : Nat) (rs : List Rw) (w : World) (hL : rs.length = n) (hn : n ≤ 1048576) (hb : totN rs ≤ 1048576) (hI : IntsSS w A rs) :
    Calls Tryd.prog 19 #[.agg #[.slice A n c]] w fun e w' => e = .returned (.bool (heapB (LLof rs))) ∧ Below w.heap.size w w' := by
  have HL := Lib.hid hL
  have HT := Lib.hid hb
  have hb0 : Below w.heap.size w (w.alloc (.cells #[.slice A n c] 29)) := (Below.refl _ _).alloc (Nat.le_refl _) _
  have HI := Lib.hid (hI.below hb0)
  have HB0 := Lib.hid hb0
  have X0 := Lib.hid (Box.new w 29 #[.slice A n c])
  have HC := Lib.hid (cnt_tot hI)
  clear hL hb hI hb0
  obtain ⟨x0, _⟩ := X0.out.one
  go_enter Tryd.func19, Tryd.ntmps19
  go_wp2_with fail
  refine (l06Count_calls A n c rs _ HL.out hn HT.out HI.out).mono ?_
  rintro e w1 ⟨rfl, hb1⟩
  have X1 := Lib.hid (X0.out.below hb1 X0.out.lt)
  have HB1 := Lib.hid (HB0.out.trans (hb1.mono HB0.out.size))
  have HI1 := Lib.hid (HI.out.below hb1)
  clear hb1 X0 HB0 HI x0
  obtain ⟨x0, _⟩ := X1.out.one
  by_cases h3 : n = 3
  · by_cases h4 : totN rs ≤ 4
    · subst h3
      obtain ⟨N, hN⟩ : ∃ N, N = totN rs := ⟨_, rfl⟩
      rw [← hN]
      rw [← hN] at h4
      have HN := Lib.hid hN
      have HCN : Hid (N = cntL (LLof rs)) := by unfold Hid; rw [HN.out, HC.out]
      clear hN
      have hmk := run_make_row' (P := Tryd.prog) 63 4 (.bool false) 1 Tryd.underlying63 (by kernel_rfl) rfl .i64 .i64 N (by omega) (by omega)
      have h4' : ¬ (4 : Int) < (N : Int) := by omega
      go_wp2
      go_loopw [5] (fun i wr => ∃ a : Nat, a ≤ 3 ∧ i = .int .i64 a ∧ goodL N (flatK (LLof rs) a 0) ∧ wr.rowIs w1.heap.size 4 N (metV (flatK (LLof rs) a 0)) ∧ Below w1.heap.size w1 wr) (fun i _ => 3 - (intOf i).toNat)
      case atStart => exact ⟨0, by omega, rfl, by rw [flatK_zero]; exact good_nil _, by rw [flatK_zero]; exact (World.rowIs_made _ _ _ _).congr (fun d _ => (metV_nil d).symm), (Below.refl _ _).alloc (Nat.le_refl _) _⟩
      case round =>
        obtain ⟨a, ha, rfl, hg, hrow, hbl⟩ := hrel
        have HG := Lib.hid hg
        have HR := Lib.hid hrow
        have HBl := Lib.hid hbl
        have X2 := Lib.hid (X1.out.below hbl X1.out.lt)
        clear hg hrow hbl x0
        obtain ⟨x0, _⟩ := X2.out.one
        by_cases hlt : a < 3
        · obtain ⟨r, hr⟩ := get_of_lt (rs := rs) (k := a) (by rw [HL.out]; exact hlt)
          have HLa := Lib.hid (LL_at hr)
          have hrn : r.n ≤ 4 := by have := totN_take_succ hr; have := totN_take_le rs (a + 1); have := HN.out; omega
          have HRr := Lib.hid hr
          have hll : Hid (r.L.length = r.n) := by obtain ⟨_, _, _, _, h5, _⟩ := HI1.out a r hr; exact h5
          clear hr
          obtain ⟨rA, rn, rc, rd, rL⟩ := r
          change rn ≤ 4 at hrn
          change Hid (rL.length = rn) at hll
          change Hid ((LLof rs)[a]? = some rL) at HLa
          have hlt2 : (a : Int) < 3 := by omega
          go_wp2
          go_loopw [6] (fun i wq => ∃ j : Nat, j ≤ rn ∧ i = .int .i64 j ∧ goodL N (flatK (LLof rs) a j) ∧ wq.rowIs w1.heap.size 4 N (metV (flatK (LLof rs) a j)) ∧ Below w1.heap.size w1 wq) (fun i _ => rn - (intOf i).toNat)
          case atStart => exact ⟨0, by omega, rfl, HG.out, HR.out, HBl.out⟩
          case round =>
            obtain ⟨j, hj, rfl, hg, hrow, hbl⟩ := hrel
            have HG2 := Lib.hid hg
            have HR2 := Lib.hid hrow
            have HB2 := Lib.hid hbl
            have X3 := Lib.hid (X1.out.below hbl X1.out.lt)
            have HIq := Lib.hid (HI1.out.below hbl)
            clear hg hrow hbl x0
            obtain ⟨x0, _⟩ := X3.out.one
            obtain ⟨ad, hA, had, hc, _, hi⟩ := HIq.out a _ HRr.out
            change _ = some (Value.slice rA rn rc) at hc
            change Ints _ rA rL at hi
            subst hA
            by_cases hjl : j < rn
            · obtain ⟨ae, hae, had2, hcd⟩ := hi j (by rw [hll.out]; exact hjl)
              subst hae
              have hjl2 : (j : Int) < (rn : Int) := by omega
              have hst := Lib.hid (flatK_step HLa.out (i := j) (by rw [hll.out]; exact hjl))
              have hbad := Lib.hid (bad_out (n := N) HLa.out (i := j) (by rw [hll.out]; exact hjl))
              have hcd2 : wr.cell? (ae.add j) = some (.int .i64 (rL[j]?.getD 0)) := by rw [hcd, List.getD_eq_getElem?_getD]
              clear hcd hi
              generalize rL[j]?.getD 0 = x at *
              go_wp2_with fail
              refine (l01In_calls x 0 ((N : Int) - 1) _).mono ?_
              rintro e w5 ⟨rfl, rfl⟩
              by_cases hx : 0 ≤ x ∧ x < N
              · obtain ⟨hx0, hx1⟩ := hx
                obtain ⟨d, rfl⟩ := Int.eq_ofNat_of_zero_le hx0
                have hdN : d < N := by omega
                rw [inB_yes (show (0 : Int) ≤ (d : Int) by omega) (show (d : Int) ≤ (N : Int) - 1 by omega)]
                have hm := HR2.out.cell hdN
                have hmf := HR2.out.frozen d
                unfold metV at hm
                by_cases hmet : (d : Int) ∈ flatK (LLof rs) a j
                · have H : Hid (heapB (LLof rs) = false) := heapB_no (by rw [← HCN.out]; exact hbad.out (.inr hmet))
                  rw [show decide ((d : Int) ∈ flatK (LLof rs) a j) = true by simpa using hmet] at hm
                  clear hmet hbad
                  go_wp2
                  go_ret
                  exact ⟨ret_bool H.out.symm, HB1.out.trans (HB2.out.mono HB1.out.size)⟩
                · have hgood := Lib.hid (good_snoc HG2.out hx0 hx1 hmet)
                  rw [show decide ((d : Int) ∈ flatK (LLof rs) a j) = false by simpa using hmet] at hm
                  clear hmet hbad
                  go_wp2
                  go_roundw
                  case rel =>
                    refine ⟨j + 1, by omega, by go_num, by rw [hst.out]; exact hgood.out, ?_, HB2.out.setCell (Nat.le_refl _) _⟩
                    rw [hst.out]
                    exact (HR2.out.set d _).congr (fun i _ => metV_snoc _ d i)
                  case measure => simp [intOf]; omega
              · have H : Hid (heapB (LLof rs) = false) := heapB_no (by rw [← HCN.out]; exact hbad.out (.inl hx))
                have hno : inB x 0 ((N : Int) - 1) = false := inB_no (by omega)
                rw [hno]
                clear hx hbad hno
                go_wp2
                go_ret
                exact ⟨ret_bool H.out.symm, HB1.out.trans (HB2.out.mono HB1.out.size)⟩
            · obtain rfl : j = rn := by omega
              have hnx := Lib.hid (flatK_next HLa.out)
              have e : Hid (flatK (LLof rs) a j = flatK (LLof rs) (a + 1) 0) := by unfold Hid; rw [← hnx.out, hll.out]
              go_wp2
              go_roundw
              case rel => exact ⟨a + 1, by omega, by go_num, by rw [← e.out]; exact HG2.out, by rw [← e.out]; exact HR2.out, HB2.out⟩
              case measure => simp [intOf]; omega
        · obtain rfl : a = 3 := by omega
          have e : Hid (flatK (LLof rs) 3 0 = (LLof rs).flatten) := by have := flatK_all (LLof rs); rw [LL_len, HL.out] at this; exact this
          have H : Hid (heapB (LLof rs) = true) := heapB_yes (by rw [LL_len, HL.out]) (by rw [← HCN.out]; exact h4) (by rw [← HCN.out, ← e.out]; exact HG.out)
          go_wp2
          go_ret
          exact ⟨ret_bool H.out.symm, HB1.out.trans (HBl.out.mono HB1.out.size)⟩
    · have H : Hid (heapB (LLof rs) = false) := heapB_no_len (by rw [← HC.out]; omega)
      have h4' : (4 : Int) < (totN rs : Int) := by omega
      clear h4
      subst h3
      go_wp2
      go_ret
      exact ⟨ret_bool H.out.symm, HB1.out⟩
  · have H : Hid (heapB (LLof rs) = false) := heapB_no_len (by rw [LL_len, HL.out]; omega)
    have h3' : ((n : Int) != 3) = true := by simp; omega
    clear h3
    go_wp2
    go_ret
    exact ⟨ret_bool H.out.symm, HB1.out⟩

end Go.Proofs.YtpiglaolofddfaaDoor
