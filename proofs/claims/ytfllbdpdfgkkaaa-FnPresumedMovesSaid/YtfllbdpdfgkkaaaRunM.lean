/- Contracts: the last state of a run, both sides. -/
import Derived.Test.YtfllbdpdfgkkaaaRunI
import Derived.Laws.Rows
namespace Go.Proofs.Ytfllbdpdfgkkaaa
open Go.RowKit Go.Shelf
set_option linter.unusedVariables false

def rmP (p : Int) (L : List Int) (M : List Mv) : Int := if rsB p L M = true then p else 0
def rmL (p : Int) (L : List Int) (M : List Mv) : List Int := if rsB p L M = true then stA L M M.length else []
theorem rm_yes {p : Int} {L : List Int} {M : List Mv} (h : rsB p L M = true) : rmP p L M = p ∧ rmL p L M = stA L M M.length ∧ rsC p L M = 0 ∧ rsV p L M = runL p L M M.length := by
  refine ⟨by unfold rmP; rw [if_pos h], by unfold rmL; rw [if_pos h], ?_, by unfold rsV; rw [if_pos h]⟩
  unfold rsB at h
  simp only [Bool.and_eq_true, decide_eq_true_iff] at h
  unfold rsC
  rw [if_pos h.1, if_pos h.2.1, if_pos h.2.2]
theorem rm_no {p : Int} {L : List Int} {M : List Mv} (h : rsB p L M = false) : rmP p L M = 0 ∧ rmL p L M = [] ∧ (rsC p L M != 0) = true := by
  refine ⟨by unfold rmP; rw [h]; rfl, by unfold rmL; rw [h]; rfl, ?_⟩
  unfold rsB at h
  unfold rsC
  by_cases h1 : stateB p L = true
  · rw [if_pos h1]
    by_cases h2 : M.length ≤ 6561
    · rw [if_pos h2]
      by_cases h3 : okA p L M M.length = true
      · simp [h1, h2, h3] at h
      · rw [if_neg h3]; rfl
    · rw [if_neg h2]; rfl
  · rw [if_neg h1]; rfl
theorem rmL_len (p : Int) (L : List Int) (M : List Mv) (hL : L.length ≤ 1048576) : (rmL p L M).length ≤ 1048576 := by
  unfold rmL
  split
  · rw [stA_len]; exact hL
  · simp
theorem results_row_tmp2 {P : Program} {fn : Func} {p q : Tmp} {ty : TypeId} (h : fn.results = #[.cell p ty, .tmp q]) (tmps : Array Value) (w : World) (g : Nat) (t : TypeId) (cs : Array Value) (fr : Nat × Nat) (d : TypeDesc)
    (hp : tmps.getD p undef = .pointer (some ⟨g, 0, none⟩)) (hg : w.heap[g]? = some (.cells cs t fr))
    (hu : P.underlying ty = some d) (hd : (match d with | .struct _ | .array _ _ => true | _ => false) = true) (hi : (P.info? ty).map (·.size) = some cs.size) :
    (results fn tmps).run P w = .ok (.tuple #[.agg cs, tmps.getD q undef]) w := by
  have hp' : tmps[p]?.getD undef = .pointer (some ⟨g, 0, none⟩) := by simpa using hp
  simp [results, h, hp', asAddr, run_loadVar_row w g t ty cs fr d hg hu hd hi]

set_option maxRecDepth 100000 in
set_option maxHeartbeats 2000000 in
theorem implRunMoves_ret (A : Option Addr) (n c : Nat) (p : Int) (L : List Int) (AM : Option Addr) (m cM : Nat) (M : List Mv) (w : World) (hL : L.length = n) (hn : n ≤ 1048576) (hI : Ints w A L) (hM : M.length = m) (hm : m ≤ 1048576) (hMv : Mvs w AM M) :
    Calls Try.prog 11 #[.agg #[.int .i64 p, .slice A n c], .slice AM m cM] w (RetState w (rmP p L M) (rmL p L M).length (rmL p L M) (rsC p L M)) := by
  have HB0 := Lib.hid (((Below.refl w.heap.size w).alloc (Nat.le_refl _) (.cells #[.int .i64 p, .slice A n c] 33)).alloc (by simp) (.cells #[.int .i64 0, .slice none 0 0] 33))
  have HI0 := Lib.hid (hI.below HB0.out)
  have HV0 := Lib.hid (hMv.below HB0.out)
  have R0 : Hid (Box ((w.alloc (.cells #[.int .i64 p, .slice A n c] 33)).alloc (.cells #[.int .i64 0, .slice none 0 0] 33)) (w.heap.size + 1) 33 #[.int .i64 0, .slice none 0 0]) := by
    have := Box.new (w.alloc (.cells #[.int .i64 p, .slice A n c] 33)) 33 #[.int .i64 0, .slice none 0 0]
    rw [World.size_alloc] at this
    exact this
  have HL := Lib.hid hL
  have HM := Lib.hid hM
  skip
  clear hI hMv hL hM 
  go_enter Try.func11, Try.ntmps11
  go_wp2_with fail
  refine (implStatesOfRun_retC A n c p L AM m cM M _ HL.out hn HI0.out HM.out hm HV0.out).mono ?_
  rintro e w1 ⟨A1, n1, c1, rs, rfl, hO, hQ, hcd, hb⟩
  have HO := Lib.hid hO
  have HCD := Lib.hid hcd
  have HB1 := Lib.hid (HB0.out.trans (hb.mono HB0.out.size))
  have R1 := Lib.hid (R0.out.below hb R0.out.lt)
  have hs0 := HB0.out.size
  have hw1 := HB1.out.size
  clear hb hcd R0
  by_cases hB : rsB p L M = true
  · have HRM := Lib.hid (rm_yes hB)
    obtain ⟨q1, q2, q3, q4⟩ := rm_yes hB
    rw [q1, q2, q3]
    rw [q4] at hQ
    have hlen := QL_len rs
    rw [hQ] at hlen
    have hl1 : (runL p L M M.length).length = M.length + 1 := by unfold runL; simp
    have hn1 : n1 = m + 1 := by have := hO.len; have := HM.out; omega
    subst hn1
    obtain ⟨r, hr⟩ := getT_of_lt (rs := rs) (k := m) (by rw [hO.len]; omega)
    have hq := QL_at hr
    rw [hQ, ← HM.out, runL_at p L M (Nat.le_refl _)] at hq
    injection hq with hq
    injection hq with hq1 hq2
    obtain ⟨g, rfl, hg, l0, l1, hlr, hIr⟩ := hO.ints m r hr
    have hcr := HCD.out r (List.mem_of_getElem? hr)
    have hOr := hO.2.1 r (List.mem_of_getElem? hr)
    obtain ⟨rq, rA, rn, rc, rd, rL⟩ := r
    dsimp only at hq1 hq2 hcr hOr l0 l1 hlr
    subst hq1 hcr
    have HQ2 := Lib.hid hq2
    have HLr := Lib.hid hlr
    have HOr := Lib.hid hOr
    have hlt1 : m < m + 1 := Nat.lt_succ_self m
    have hne : g ≠ w.heap.size + 1 := by
      rcases HO.out.1.form with ⟨h1, _⟩ | ⟨g', h1, h2, _⟩
      · cases h1
      · injection h1 with h1; injection h1 with h1; have : w.heap.size + 2 ≤ g' := by simpa using h2
        omega
    obtain ⟨r0, r1, f0, f1⟩ := R1.out.two
    clear hQ hr hq2 hlr hOr hIr hO hlen hl1 q1 q2 q3 q4 hB
    go_wp2
    have hbx : Hid (Box ((w1.setCell ⟨w.heap.size + 1, 0, none⟩ (.int .i64 p)).setCell ⟨w.heap.size + 1, 1, none⟩ (.slice rA rn rc)) (w.heap.size + 1) 33 #[.int .i64 p, .slice rA rn rc]) := (R1.out.set 0 (.int .i64 p)).set 1 (.slice rA rn rc)
    have hb9 := Lib.hid ((HB1.out.setCell (p := ⟨w.heap.size + 1, 0, none⟩) (by simp) (.int .i64 p)).setCell (p := ⟨w.heap.size + 1, 1, none⟩) (by simp) (.slice rA rn rc))
    have ho9 : Hid (Own w.heap.size ((w1.setCell ⟨w.heap.size + 1, 0, none⟩ (.int .i64 p)).setCell ⟨w.heap.size + 1, 1, none⟩ (.slice rA rn rc)) rA rn rc rL) := by
      have h1 := OwnG.setBoxed HOr.out R1.out (by decide) 0 (.int .i64 p)
      have h2 := OwnG.setBoxed h1 (R1.out.set 0 (.int .i64 p)) (by decide) 1 (.slice rA rn rc)
      exact OwnG.mono h2 hs0
    generalize (w1.setCell ⟨w.heap.size + 1, 0, none⟩ (.int .i64 p)).setCell ⟨w.heap.size + 1, 1, none⟩ (.slice rA rn rc) = w9 at *
    refine bodyPost_ret (results_row_tmp2 rfl _ _ (w.heap.size + 1) 33 #[.int .i64 p, .slice rA rn rc] (0, 0) _ rfl hbx.out Try.underlying33 rfl (by kernel_rfl)) rfl ?_
    obtain ⟨q1, q2, q3, _⟩ := HRM.out
    rw [q1, q2, q3, HQ2.out, HLr.out]
    exact ⟨rA, rc, rfl, ho9.out, hb9.out⟩
  · have hB' : rsB p L M = false := by simpa using hB
    have HRM := Lib.hid (rm_no hB')
    obtain ⟨q1, q2, q3⟩ := rm_no hB'
    rw [q1, q2]
    have hE := q3
    generalize hrc : rsC p L M = E at hE ⊢
    have HE := Lib.hid hrc
    obtain ⟨r0, r1, f0, f1⟩ := R1.out.two
    clear hQ hO hB hB' q1 q2 q3 hrc
    go_wp2
    have hbx : Hid (Box ((w1.setCell ⟨w.heap.size + 1, 0, none⟩ (.int .i64 0)).setCell ⟨w.heap.size + 1, 1, none⟩ (.slice none 0 0)) (w.heap.size + 1) 33 #[.int .i64 0, .slice none 0 0]) := (R1.out.set 0 (.int .i64 0)).set 1 (.slice none 0 0)
    have hb9 := Lib.hid ((HB1.out.setCell (p := ⟨w.heap.size + 1, 0, none⟩) (by simp) (.int .i64 0)).setCell (p := ⟨w.heap.size + 1, 1, none⟩) (by simp) (.slice none 0 0))
    generalize (w1.setCell ⟨w.heap.size + 1, 0, none⟩ (.int .i64 0)).setCell ⟨w.heap.size + 1, 1, none⟩ (.slice none 0 0) = w9 at *
    refine bodyPost_ret (results_row_tmp2 rfl _ _ (w.heap.size + 1) 33 #[.int .i64 0, .slice none 0 0] (0, 0) _ rfl hbx.out Try.underlying33 rfl (by kernel_rfl)) rfl ?_
    obtain ⟨q1, q2, _⟩ := HRM.out
    rw [q1, q2, HE.out]
    exact ⟨none, 0, rfl, Own.nilS _ _, hb9.out⟩

end Go.Proofs.Ytfllbdpdfgkkaaa
