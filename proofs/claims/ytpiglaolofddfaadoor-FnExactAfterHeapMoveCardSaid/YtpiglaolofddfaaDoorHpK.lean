/- Contract: the lists of a heap are marked; all other blocks stay. -/
import Derived.Test.YtpiglaolofddfaaDoorHpC
namespace Go.Proofs.YtpiglaolofddfaaDoor
open Go.RowKit
set_option linter.unusedVariables false

/-- All blocks but the lists' own are as they were. -/
def KeptSS (rs : List Rw) (w w' : World) : Prop := w.heap.size ≤ w'.heap.size ∧ ∀ b, b < w.heap.size → (∀ r ∈ rs, r.A ≠ some ⟨b, 0, none⟩) → w'.heap[b]? = w.heap[b]?
theorem KeptSS.refl (rs : List Rw) (w : World) : KeptSS rs w w := ⟨Nat.le_refl _, fun _ _ _ => rfl⟩
theorem KeptSS.row {rs : List Rw} {w wr w2 : World} {j B d : Nat} {r : Rw} {L : List Int} (h : KeptSS rs w wr) (hr : rs[j]? = some r) (hO : Own B wr r.A r.n d L) (hg : wr.grownBy w2 (Value.slice r.A r.n d).ownBlock) : KeptSS rs w w2 := by
  refine ⟨Nat.le_trans h.1 hg.size, fun b hb hne => ?_⟩
  rw [hg.block b (Nat.lt_of_lt_of_le hb h.1) ?_]
  · exact h.2 b hb hne
  · intro e
    exact hne r (List.mem_of_getElem? hr) (block_of_own hO e.symm)
theorem KeptSS.belowThen {rs : List Rw} {w w1 w2 : World} (h : KeptSS rs w1 w2) (hb : Below w.heap.size w w1) : KeptSS rs w w2 :=
  ⟨Nat.le_trans hb.size h.1, fun b hlt hne => (h.2 b (Nat.lt_of_lt_of_le hlt hb.size) hne).trans (hb.block b hlt)⟩
theorem OwnG.of_block {e size B n c : Nat} {w w' : World} {A : Option Addr} {xs : List Value} (h : OwnG e size B w A n c xs) (hb : ∀ g, A = some ⟨g, 0, none⟩ → w'.heap[g]? = w.heap[g]?) : OwnG e size B w' A n c xs := by
  refine ⟨h.1, ?_⟩
  rcases h.2 with h2 | ⟨g, cap, cur, h1, h2, h3, h4⟩
  · exact .inl h2
  · refine .inr ⟨g, cap, cur, h1, h2, ?_, h4⟩
    rw [hb g (by injection h1)]
    exact h3
theorem Box.of_block {w w' : World} {b t : Nat} {cs : Array Value} (h : Box w b t cs) (hb : w'.heap[b]? = w.heap[b]?) : Box w' b t cs := hb.trans h
theorem OwnG.blk {e size B n c : Nat} {w : World} {A : Option Addr} {xs : List Value} (h : OwnG e size B w A n c xs) : ∀ g, A = some ⟨g, 0, none⟩ → B ≤ g ∧ g < w.heap.size := by
  intro g hA
  rw [hA] at h
  exact ownG_lt h

set_option maxHeartbeats 1000000 in
theorem markInt64SS_kept (B : Nat) (A : Option Addr) (n c : Nat) (rs : List Rw) (k : Int) (w : World) (hO : OwnSS B w A n c rs) (hn : n ≤ 1048576) (hb : totN rs ≤ 1048576) (hk0 : 0 ≤ k) (hk1 : k ≤ 900000000000) :
    Calls Tryd.prog 26 #[.slice A n c, .int .i64 k] w fun e w' => e = .returned (.int .i64 (k + totN rs)) ∧ OwnSS B w' A n c (mkSS k rs) ∧ Below B w w' ∧ KeptSS rs w w' := by
  have HL := Lib.hid hO.len
  have HO := Lib.hid hO
  have HT := Lib.hid hb
  have hBs : rs ≠ [] → B ≤ w.heap.size := by
    intro h
    rcases hO.1.form with ⟨_, h0, _⟩ | ⟨g, _, h1, h2⟩
    · exact absurd (List.eq_nil_of_length_eq_zero (by rw [hO.len]; exact h0)) h
    · omega
  have HBs := Lib.hid hBs
  clear hO hb hBs
  go_enter Tryd.func26, Tryd.ntmps26
  go_wp2
  go_loopw [1, 5] (fun m i wr => ∃ j q : Nat, j ≤ n ∧ i = .int .i64 j ∧ m = .int .i64 (k + q) ∧ Hid (q = totN (rs.take j)) ∧ q ≤ 1048576 ∧ OwnSS B wr A n c (mixSS k rs j) ∧ Below B w wr ∧ KeptSS rs w wr) (fun _ i _ => n - (intOf i).toNat)
  case atStart => exact ⟨0, 0, Nat.zero_le _, rfl, by simp, by unfold Hid totN; simp, by omega, by rw [mixSS_zero]; exact HO.out, Below.refl _ _, KeptSS.refl _ _⟩
  case round =>
    obtain ⟨j, q, hj, rfl, rfl, hq, hqb, hown, hbl, hkp⟩ := hrel
    have HKP := Lib.hid hkp
    clear hkp
    have HOw := Lib.hid hown
    have HBl := Lib.hid hbl
    clear hown hbl
    by_cases hlt : j < n
    · obtain ⟨r, hr⟩ := get_of_lt (rs := rs) (k := j) (by rw [HL.out]; exact hlt)
      have hrm := mixSS_get (k := k) hr
      obtain ⟨ad, hA, had, hc, hl, hi⟩ := HOw.out.ints j r hrm
      have hro := HOw.out.2.1 r (List.mem_of_getElem? hrm)
      have hts := totN_take_succ hr
      have htl := totN_take_le rs (j + 1)
      have hrn : r.n ≤ 1048576 := by have := HT.out; omega
      have hq2 : q + r.n ≤ 1048576 := by have := HT.out; have := hq.out; omega
      have HR := Lib.hid hr
      have HRM := Lib.hid hrm
      have HRO := Lib.hid hro
      have HTS := Lib.hid hts
      have HBn := Lib.hid (HBs.out (by intro e; rw [e] at hr; simp at hr))
      clear hr hrm hro hts htl hl hi
      obtain ⟨rA, rn, rc, rd, rL⟩ := r
      change _ = some (Value.slice rA rn rc) at hc
      change rn ≤ 1048576 at hrn
      change q + rn ≤ 1048576 at hq2
      subst hA
      have hlt2 : (j : Int) < (n : Int) := by omega
      go_wp2_with fail
      refine (markInt64S_gen B rA rn rd rc rL (k + q) _ HRO.out hrn (by omega) (by omega)).mono ?_
      rintro e w2 ⟨rfl, hO2, hg2⟩
      have HO2 := Lib.hid (HOw.out.row HRM.out hO2 hg2)
      have HB2 := Lib.hid (HBl.out.grown hg2 (Nat.le_trans HBn.out HBl.out.size) (fun g hg => own_bk HRO.out g hg))
      have HKP2 := Lib.hid (HKP.out.row HR.out HRO.out hg2)
      clear hO2 hg2
      go_wp2
      go_roundw
      case rel =>
        refine ⟨j + 1, q + rn, by omega, by go_num, by go_num, ?_, hq2, ?_, HB2.out, HKP2.out⟩
        · unfold Hid
          rw [HTS.out, ← hq.out]
        · have h1 := mixSS_step (k := k) HR.out
          rw [← h1, ← hq.out]
          exact HO2.out
      case measure => simp [intOf]; omega
    · obtain rfl : j = n := by omega
      go_wp2
      go_ret
      have e : rs.take j = rs := List.take_of_length_le (by rw [HL.out]; exact Nat.le_refl _)
      refine ⟨ret_int (by rw [hq.out, e]), ?_, HBl.out, HKP.out⟩
      have := mixSS_all k rs
      rw [HL.out] at this
      rw [← this]
      exact HOw.out

set_option maxHeartbeats 1000000 in
theorem markHeap_kept (B : Nat) (A : Option Addr) (n c : Nat) (rs : List Rw) (k : Int) (w : World) (hO : OwnSS B w A n c rs) (hBw : B ≤ w.heap.size) (hn : n ≤ 1048576) (hb : totN rs ≤ 1048576) (hk0 : 0 ≤ k) (hk1 : k ≤ 900000000000) :
    Calls Tryd.prog 11 #[.agg #[.slice A n c], .int .i64 k] w fun e w' => e = .returned (.int .i64 (k + totN rs)) ∧ OwnSS B w' A n c (mkSS k rs) ∧ Below B w w' ∧ KeptSS rs w w' := by
  have hb0 : Below w.heap.size w (w.alloc (.cells #[.slice A n c] 29)) := (Below.refl _ _).alloc (Nat.le_refl _) _
  have HO := Lib.hid (hO.below hb0)
  have HB0 : Hid (Below B w (w.alloc (.cells #[.slice A n c] 29))) := hb0.mono hBw
  have HB00 := Lib.hid hb0
  clear hO hb0
  go_enter Tryd.func11, Tryd.ntmps11
  go_wp2_with fail
  refine (markInt64SS_kept B A n c rs k _ HO.out hn hb hk0 hk1).mono ?_
  rintro e w1 ⟨rfl, hO, hg, hkp⟩
  have HO1 := Lib.hid hO
  have HB1 := Lib.hid (HB0.out.trans hg)
  have HK1 := Lib.hid (hkp.belowThen HB00.out)
  clear hO hg hkp
  go_wp2
  go_ret
  exact ⟨rfl, HO1.out, HB1.out, HK1.out⟩

end Go.Proofs.YtpiglaolofddfaaDoor
