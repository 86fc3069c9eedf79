/- Contracts: a run by rules, by the specification's model. -/
import Derived.Test.YtbnjdpjlhccglaaDoorRb1
import Derived.Test.YtbnjdpjlhccglaaDoorRuAllow
import Derived.Test.YtbnjdpjlhccglaaDoorRunM
import Derived.BigQuiet
import Derived.StillTailTactics
namespace Go.Proofs.YtbnjdpjlhccglaaDoor
open Go.RowKit
set_option linter.unusedVariables false

/-- The first k moves are all allowed. -/
def alA (r : Nat → Int) (M : List Mv) : Nat → Bool
  | 0 => true
  | k + 1 => alA r M k && alR r (mvAt M k).2.1 (mvAt M k).2.2
theorem alA_le {r : Nat → Int} {M : List Mv} {k : Nat} (h : alA r M k = false) : ∀ m, k ≤ m → alA r M m = false
  | 0, hm => by obtain rfl : k = 0 := by omega
                exact h
  | m + 1, hm => by
    by_cases e : k = m + 1
    · subst e; exact h
    · show (alA r M m && _) = false
      rw [alA_le h m (by omega), Bool.false_and]
def rbE (r : Nat → Int) (p : Int) (L : List Int) (M : List Mv) : Int :=
  if (ruB r && s3B p L) = true then (if M.length ≤ 6561 then (if (okA p L M M.length && alA r M M.length) = true then 0 else 5) else 2) else 1
def rbP (r : Nat → Int) (p : Int) (L : List Int) (M : List Mv) : Int := if rbE r p L M = 0 then p else 0
def rbL (r : Nat → Int) (p : Int) (L : List Int) (M : List Mv) : List Int := if rbE r p L M = 0 then stA L M M.length else []
theorem rb_is {r : Nat → Int} {p E : Int} {L : List Int} {M : List Mv} (h : rbE r p L M = E) (hE : E ≠ 0) : rbP r p L M = 0 ∧ rbL r p L M = [] ∧ rbE r p L M = E := by
  refine ⟨?_, ?_, h⟩
  · unfold rbP; rw [if_neg (by rw [h]; exact hE)]
  · unfold rbL; rw [if_neg (by rw [h]; exact hE)]
theorem rb_yes {r : Nat → Int} {p : Int} {L : List Int} {M : List Mv} (hr : ruB r = true) (hs : s3B p L = true) (hm : M.length ≤ 6561) (ho : okA p L M M.length = true) (ha : alA r M M.length = true) :
    rbP r p L M = p ∧ rbL r p L M = stA L M M.length ∧ rbE r p L M = 0 := by
  have h : rbE r p L M = 0 := by unfold rbE; rw [hr, hs, Bool.and_self, if_pos rfl, if_pos hm, ho, ha]; rfl
  exact ⟨by unfold rbP; rw [if_pos h], by unfold rbL; rw [if_pos h], h⟩
theorem rb_1 {r : Nat → Int} {p : Int} {L : List Int} {M : List Mv} (h : ¬ (ruB r = true ∧ s3B p L = true)) : rbE r p L M = 1 := by unfold rbE; rw [if_neg]; simpa using h
theorem rb_2 {r : Nat → Int} {p : Int} {L : List Int} {M : List Mv} (hr : ruB r = true) (hs : s3B p L = true) (hm : ¬ M.length ≤ 6561) : rbE r p L M = 2 := by unfold rbE; rw [hr, hs, Bool.and_self, if_pos rfl, if_neg hm]
theorem rb_5 {r : Nat → Int} {p : Int} {L : List Int} {M : List Mv} (hr : ruB r = true) (hs : s3B p L = true) (hm : M.length ≤ 6561) (h : ¬ (okA p L M M.length = true ∧ alA r M M.length = true)) : rbE r p L M = 5 := by
  unfold rbE; rw [hr, hs, Bool.and_self, if_pos rfl, if_pos hm, if_neg]; simpa using h
theorem rb_rsC {r : Nat → Int} {p : Int} {L : List Int} {M : List Mv} (hr : ruB r = true) (hs : s3B p L = true) (h : rsB p L M = false) : rbE r p L M = rsC p L M := by
  have hst := (s3_of hs).1
  by_cases hm : M.length ≤ 6561
  · by_cases ho : okA p L M M.length = true
    · unfold rsB at h; rw [hst, ho, decide_eq_true hm] at h; cases h
    · rw [rb_5 hr hs hm (fun h => ho h.1)]; unfold rsC; rw [if_pos hst, if_pos hm, if_neg ho]
  · rw [rb_2 hr hs hm]; unfold rsC; rw [if_pos hst, if_neg hm]
theorem rsB_of {p : Int} {L : List Int} {M : List Mv} (h : rsB p L M = true) : stateB p L = true ∧ M.length ≤ 6561 ∧ okA p L M M.length = true := by
  unfold rsB at h; simpa using h
theorem okA_at {p : Int} {L : List Int} {M : List Mv} {m k : Nat} (h : okA p L M m = true) (hk : k < m) : okA p L M k = true ∧ legalB p (stA L M k) (mvAt M k).1 (mvAt M k).2.1 (mvAt M k).2.2 = true := by
  have h1 : okA p L M (k + 1) = true := by
    rcases Bool.eq_false_or_eq_true (okA p L M (k + 1)) with e | e
    · exact e
    · rw [okA_le e m (by omega)] at h; cases h
  have h2 : (okA p L M k && legalB p (stA L M k) (mvAt M k).1 (mvAt M k).2.1 (mvAt M k).2.2) = true := h1
  simpa using h2
theorem legal_pegs {p : Int} {L : List Int} {d f t : Int} (hs : stateB p L = true) (h : legalB p L d f t = true) : (0 ≤ f ∧ f ≤ p - 1) ∧ (0 ≤ t ∧ t ≤ p - 1) := by
  unfold legalB at h
  rw [Bool.and_eq_true, decide_eq_true_iff] at h
  obtain ⟨⟨h1, h2, h3, h4, _, h6⟩, _⟩ := h
  have := state_at hs d.toNat (by omega)
  rw [List.getD_eq_getElem?_getD] at h6
  omega
theorem z9_at {w : World} {b t : Nat} {r : Nat → Int} (h : Box w b t (z9 r)) {i : Nat} (hi : i < 9) : w.cell? ⟨b, i, none⟩ = some (.int .i64 (r i)) := by
  rw [h.cell i]
  have : i = 0 ∨ i = 1 ∨ i = 2 ∨ i = 3 ∨ i = 4 ∨ i = 5 ∨ i = 6 ∨ i = 7 ∨ i = 8 := by omega
  rcases this with rfl | rfl | rfl | rfl | rfl | rfl | rfl | rfl | rfl <;> rfl

set_option maxRecDepth 100000 in
set_option maxHeartbeats 8000000 in
theorem specRunByRules_ret (r : Nat → Int) (ad : Addr) (n c : Nat) (p : Int) (L : List Int) (AM : Option Addr) (m cM : Nat) (M : List Mv) (w : World) (hL : L.length = n) (hn : n ≤ 1048576) (hI : Ints w (some ad) L) (hM : M.length = m) (hm : m ≤ 1048576) (hMv : Mvs w AM M) :
    Calls Tryd.prog 6 #[.agg (z9 r), .agg #[.int .i64 p, .slice (some ad) n c], .slice AM m cM] w (RetState w (rbP r p L M) (rbL r p L M).length (rbL r p L M) (rbE r p L M)) := by
  have HL := Lib.hid hL
  have HM := Lib.hid hM
  obtain ⟨W0, hW0⟩ : ∃ W0, W0 = ((w.alloc (.cells (z9 r) 33)).alloc (.cells #[.int .i64 p, .slice (some ad) n c] 30)).alloc (.cells #[.int .i64 0, .slice none 0 0] 30) := ⟨_, rfl⟩
  have hb0 : Below w.heap.size w W0 := by rw [hW0]; exact (((Below.refl _ w).alloc (Nat.le_refl _) _).alloc (by simp) _).alloc (by simp; omega) _
  have q0 : Box W0 w.heap.size 33 (z9 r) := by rw [hW0]; exact ((Box.new w _ _).alloc _).alloc _
  have x0 : Box W0 (w.heap.size + 1) 30 #[.int .i64 p, .slice (some ad) n c] := by
    have h := Box.new (w.alloc (.cells (z9 r) 33)) 30 #[.int .i64 p, .slice (some ad) n c]
    rw [World.size_alloc] at h
    rw [hW0]; exact h.alloc _
  have r0 : Box W0 (w.heap.size + 1 + 1) 30 #[.int .i64 0, .slice none 0 0] := by
    have h := Box.new ((w.alloc (.cells (z9 r) 33)).alloc (.cells #[.int .i64 p, .slice (some ad) n c] 30)) 30 #[.int .i64 0, .slice none 0 0]
    rw [World.size_alloc, World.size_alloc] at h
    rw [hW0]; exact h
  have hs0 : W0.heap.size = w.heap.size + 3 := by rw [hW0]; simp
  have Q0 := Lib.hid q0
  have X0 := Lib.hid x0
  have R0 := Lib.hid r0
  have HB0 := Lib.hid hb0
  have HI0 := Lib.hid (hI.below hb0)
  have HV0 := Lib.hid (hMv.below hb0)
  have HW0 := Lib.hid hW0
  clear hL hM hI hMv q0 x0 r0 hb0 hW0
  unfold z9 at HW0
  by_cases hr : ruB r = true
  · by_cases hs : s3B p L = true
    · obtain ⟨hst, hp⟩ := s3_of hs
      subst hp
      by_cases hB : rsB 3 L M = true
      · obtain ⟨_, hm6, hok⟩ := rsB_of hB
        have HQ4 := Lib.hid (rm_yes hB).2.2.2
        have hcode := (rm_yes hB).2.2.1
        have HOK := Lib.hid hok
        have HST := Lib.hid hst
        have HR := Lib.hid hr
        have HS := Lib.hid hs
        have HM6 := Lib.hid hm6
        clear hst hok hm6
        unfold z9
        go_enter Tryd.func6, Tryd.ntmps6
        go_wp2_with fail
        rw [← HW0.out]
        refine (l07Is_calls r _).mono ?_
        rintro e wa ⟨rfl, hba⟩
        have XA := Lib.hid (X0.out.below hba X0.out.lt)
        have RA := Lib.hid (R0.out.below hba R0.out.lt)
        have QA := Lib.hid (Q0.out.below hba Q0.out.lt)
        have HBA := Lib.hid (HB0.out.trans (hba.mono HB0.out.size))
        have HIA := Lib.hid (HI0.out.below hba)
        have HVA := Lib.hid (HV0.out.below hba)
        clear hba
        obtain ⟨x0, x1, _, _⟩ := XA.out.two
        go_wp2_with fail
        refine (l07State_calls (some ad) n c 3 L _ HL.out hn HIA.out).mono ?_
        rintro e wb ⟨rfl, hbb⟩
        have XB := Lib.hid (XA.out.below hbb XA.out.lt)
        have RB := Lib.hid (RA.out.below hbb RA.out.lt)
        have QB := Lib.hid (QA.out.below hbb QA.out.lt)
        have HBB := Lib.hid (HBA.out.trans (hbb.mono HBA.out.size))
        have HIB := Lib.hid (HIA.out.below hbb)
        have HVB := Lib.hid (HVA.out.below hbb)
        clear hbb x0 x1 XA RA QA HBA HIA HVA X0 R0 Q0 HI0 HV0
        obtain ⟨x0, x1, _, _⟩ := XB.out.two
        go_wp2_with fail
        refine (l01Run_retC (some ad) n c 3 L AM m cM M _ HL.out hn (fun h => by cases h) HIB.out HM.out hm HVB.out).mono ?_
        rintro e w1 ⟨A1, n1, c1, rs, rfl, hO, hQ, hcd, hb1⟩
        have R1 := Lib.hid (RB.out.below hb1 RB.out.lt)
        have Q1 := Lib.hid (QB.out.below hb1 QB.out.lt)
        have HB1 := Lib.hid (HBB.out.trans (hb1.mono HBB.out.size))
        have HV1 := Lib.hid (HVB.out.below hb1)
        have HGB := Lib.hid (show ∀ g, A1 = some ⟨g, 0, none⟩ → wb.heap.size ≤ g from fun g hg => by
          rcases hO.1.form with ⟨h1, _⟩ | ⟨g', h1, h2, _⟩
          · rw [h1] at hg; cases hg
          · rw [h1] at hg; injection hg with hg; injection hg with hg; omega)
        have hRB := RB.out.lt
        have HO := Lib.hid (hO.mono HBB.out.size)
        have HCD := Lib.hid hcd
        have HQL := Lib.hid hQ
        have hcode' : (rsC 3 L M != 0) = false := by rw [hcode]; rfl
        clear hb1 hO hcd hQ x0 x1 XB RB QB HBB HIB HVB HB0 hcode
        go_wp2
        go_loopw [10] (fun i wr => ∃ k : Nat, k ≤ m ∧ i = .int .i64 k ∧ Hid (alA r M k = true) ∧ ∃ q, wr = w1.drewN q) (fun i _ => m - (intOf i).toNat)
        case atStart => exact ⟨0, Nat.zero_le _, rfl, Lib.hid rfl, 0, rfl⟩
        case round =>
          obtain ⟨k, hk, rfl, HA, q, rfl⟩ := hrel
          by_cases hlt : k < m
          · obtain ⟨g, rfl, hg, k0, k1, k2⟩ := HV1.out k (by rw [HM.out]; exact hlt)
            obtain ⟨ho1, ho2⟩ := okA_at HOK.out (k := k) (by rw [HM.out]; exact hlt)
            obtain ⟨⟨hf0, hf1⟩, ⟨ht0, ht1⟩⟩ := legal_pegs (stA_state HST.out k ho1) ho2
            change _ = some (Value.int .i64 (mvAt M k).1) at k0
            change _ = some (Value.int .i64 (mvAt M k).2.1) at k1
            change _ = some (Value.int .i64 (mvAt M k).2.2) at k2
            have HSTEP := Lib.hid (show alA r M (k + 1) = (alA r M k && alR r (mvAt M k).2.1 (mvAt M k).2.2) from rfl)
            clear ho1 ho2
            generalize mvAt M k = mv at *
            obtain ⟨d, fr, tt⟩ := mv
            dsimp only at k0 k1 k2 hf0 hf1 ht0 ht1 HSTEP
            obtain ⟨u, rfl⟩ := Int.eq_ofNat_of_zero_le hf0
            obtain ⟨v, rfl⟩ := Int.eq_ofNat_of_zero_le ht0
            have hu3 : (u : Int) < 3 := by omega
            have hv3 : (v : Int) < 3 := by omega
            have hcell := z9_at Q1.out (i := u * 3 + v) (by omega)
            have hal : alR r (u : Int) (v : Int) = (r (u * 3 + v) == 1) := by unfold alR; rw [show (3 * (u : Int) + (v : Int)).toNat = u * 3 + v by omega]
            have hk0 : (0 : Int) ≤ (k : Int) := by omega
            have hk1 : (k : Int) < (m : Int) := by omega
            by_cases h1 : r (u * 3 + v) = 1
            · have hne : (r (u * 3 + v) != 1) = false := by simpa using h1
              have HA2 := Lib.hid (show alA r M (k + 1) = true by rw [HSTEP.out, HA.out, hal, h1]; rfl)
              clear h1 hal
              go_wp2_with fail
              go_quiet (fail)
              go_wp2
              go_roundw
              case rel => exact ⟨k + 1, by omega, by go_num, HA2, by first | exact ⟨_, rfl⟩ | exact ⟨_, World.drewN_drewN _ _ _⟩⟩
              case measure => simp [intOf]; omega
            · have hne : (r (u * 3 + v) != 1) = true := by simpa using h1
              have HA2 : alA r M (k + 1) = false := by rw [HSTEP.out, hal, show (r (u * 3 + v) == 1) = false by simpa using h1, Bool.and_false]
              have HE := Lib.hid (rb_is (rb_5 HR.out HS.out HM6.out (fun h => by have := alA_le HA2 M.length (by rw [HM.out]; omega); rw [h.2] at this; cases this)) (by decide))
              clear h1 hal HA2
              go_wp2_with fail
              go_quiet (fail)
              generalize hWW : (w1.drewN q).drewN nq = W
              have RW := Lib.hid (show Box W (w.heap.size + 1 + 1) 30 #[.int .i64 0, .slice none 0 0] from by rw [← hWW]; exact R1.out)
              have HBW := Lib.hid (show Below w.heap.size w W from by rw [← hWW]; exact belowDraws (belowDraws HB1.out _) _)
              clear R1 HB1 hWW HV1 HO HCD HQL Q1 hcell k0 k1 k2
              obtain ⟨r0, r1, f0, f1⟩ := RW.out.two
              go_wp2
              have hbx : Hid (Box ((W.setCell ⟨w.heap.size + 1 + 1, 0, none⟩ (.int .i64 0)).setCell ⟨w.heap.size + 1 + 1, 1, none⟩ (.slice none 0 0)) (w.heap.size + 1 + 1) 30 #[.int .i64 0, .slice none 0 0]) := (RW.out.set 0 (.int .i64 0)).set 1 (.slice none 0 0)
              have hb9 := Lib.hid ((HBW.out.setCell (p := ⟨w.heap.size + 1 + 1, 0, none⟩) (by simp; omega) (.int .i64 0)).setCell (p := ⟨w.heap.size + 1 + 1, 1, none⟩) (by simp; omega) (.slice none 0 0))
              generalize (W.setCell ⟨w.heap.size + 1 + 1, 0, none⟩ (.int .i64 0)).setCell ⟨w.heap.size + 1 + 1, 1, none⟩ (.slice none 0 0) = w9 at *
              refine bodyPost_ret (results_row_tmp2 rfl _ _ (w.heap.size + 1 + 1) 30 #[.int .i64 0, .slice none 0 0] (0, 0) _ rfl hbx.out Tryd.underlying30 rfl (by kernel_rfl)) rfl ?_
              obtain ⟨q1, q2, q3⟩ := HE.out
              rw [q1, q2, q3]
              exact ⟨none, 0, rfl, Own.nilS _ _, hb9.out⟩
          · obtain rfl : k = m := by omega
            have HRB := Lib.hid (rb_yes HR.out HS.out HM6.out HOK.out (by rw [HM.out]; exact HA.out))
            have hQ := HQL.out
            rw [HQ4.out] at hQ
            have hlen := QL_len rs
            rw [hQ] at hlen
            have hl1 : (runL 3 L M M.length).length = M.length + 1 := by unfold runL; simp
            have hn1 : n1 = k + 1 := by have := HO.out.len; have := HM.out; omega
            subst hn1
            obtain ⟨r9, hr9⟩ := getT_of_lt (rs := rs) (k := k) (by rw [HO.out.len]; omega)
            have hq := QL_at hr9
            rw [hQ, ← HM.out, runL_at 3 L M (Nat.le_refl _)] at hq
            injection hq with hq
            injection hq with hq1 hq2
            obtain ⟨g, rfl, hg, l0, l1, hlr, hIr⟩ := HO.out.ints k r9 hr9
            have hcr := HCD.out r9 (List.mem_of_getElem? hr9)
            have hOr := HO.out.2.1 r9 (List.mem_of_getElem? hr9)
            obtain ⟨rq, rA, rn, rc, rd, rL⟩ := r9
            dsimp only at hq1 hq2 hcr hOr l0 l1 hlr
            subst hq1 hcr
            have HQ2 := Lib.hid hq2
            have HLr := Lib.hid hlr
            have HOr := Lib.hid hOr
            have hlt1 : k < k + 1 := Nat.lt_succ_self k
            have hdk : decide ((k : Int) < (k : Int)) = false := by simp
            have hne : g ≠ w.heap.size + 1 + 1 := by
              have h3 := HGB.out g rfl
              omega
            clear hQ hr9 hq2 hlr hOr hIr hlen hl1
            obtain ⟨r0, r1, f0, f1⟩ := R1.out.two
            go_wp2
            have hbx : Hid (Box (((w1.drewN q).setCell ⟨w.heap.size + 1 + 1, 0, none⟩ (.int .i64 3)).setCell ⟨w.heap.size + 1 + 1, 1, none⟩ (.slice rA rn rc)) (w.heap.size + 1 + 1) 30 #[.int .i64 3, .slice rA rn rc]) := ((R1.out.draws q).set 0 (.int .i64 3)).set 1 (.slice rA rn rc)
            have hb9 := Lib.hid (((belowDraws HB1.out q).setCell (p := ⟨w.heap.size + 1 + 1, 0, none⟩) (by simp; omega) (.int .i64 3)).setCell (p := ⟨w.heap.size + 1 + 1, 1, none⟩) (by simp; omega) (.slice rA rn rc))
            have ho9 : Hid (Own w.heap.size (((w1.drewN q).setCell ⟨w.heap.size + 1 + 1, 0, none⟩ (.int .i64 3)).setCell ⟨w.heap.size + 1 + 1, 1, none⟩ (.slice rA rn rc)) rA rn rc rL) := by
              have h1 := OwnG.setBoxed (show Own w.heap.size (w1.drewN q) rA rn rc rL from HOr.out) (R1.out.draws q) (by decide) 0 (.int .i64 3)
              exact OwnG.setBoxed h1 ((R1.out.draws q).set 0 (.int .i64 3)) (by decide) 1 (.slice rA rn rc)
            generalize ((w1.drewN q).setCell ⟨w.heap.size + 1 + 1, 0, none⟩ (.int .i64 3)).setCell ⟨w.heap.size + 1 + 1, 1, none⟩ (.slice rA rn rc) = w9 at *
            refine bodyPost_ret (results_row_tmp2 rfl _ _ (w.heap.size + 1 + 1) 30 #[.int .i64 3, .slice rA rn rc] (0, 0) _ rfl hbx.out Tryd.underlying30 rfl (by kernel_rfl)) rfl ?_
            obtain ⟨q1, q2, q3⟩ := HRB.out
            rw [q1, q2, q3, HQ2.out, HLr.out]
            exact ⟨rA, rc, rfl, ho9.out, hb9.out⟩
      · have hB' : rsB 3 L M = false := by simpa using hB
        have HE := Lib.hid (rb_is (rb_rsC hr hs hB') (fun h => by have := (rm_no hB').2.2; rw [h] at this; cases this))
        have hcode := (rm_no hB').2.2
        clear hB hB' hst
        unfold z9
        go_enter Tryd.func6, Tryd.ntmps6
        go_wp2_with fail
        rw [← HW0.out]
        refine (l07Is_calls r _).mono ?_
        rintro e wa ⟨rfl, hba⟩
        have XA := Lib.hid (X0.out.below hba X0.out.lt)
        have RA := Lib.hid (R0.out.below hba R0.out.lt)
        have HBA := Lib.hid (HB0.out.trans (hba.mono HB0.out.size))
        have HIA := Lib.hid (HI0.out.below hba)
        have HVA := Lib.hid (HV0.out.below hba)
        clear hba
        obtain ⟨x0, x1, _, _⟩ := XA.out.two
        go_wp2_with fail
        refine (l07State_calls (some ad) n c 3 L _ HL.out hn HIA.out).mono ?_
        rintro e wb ⟨rfl, hbb⟩
        have XB := Lib.hid (XA.out.below hbb XA.out.lt)
        have RB := Lib.hid (RA.out.below hbb RA.out.lt)
        have HBB := Lib.hid (HBA.out.trans (hbb.mono HBA.out.size))
        have HIB := Lib.hid (HIA.out.below hbb)
        have HVB := Lib.hid (HVA.out.below hbb)
        clear hbb x0 x1
        obtain ⟨x0, x1, _, _⟩ := XB.out.two
        go_wp2_with fail
        refine (l01Run_retC (some ad) n c 3 L AM m cM M _ HL.out hn (fun h => by cases h) HIB.out HM.out hm HVB.out).mono ?_
        rintro e w1 ⟨A1, n1, c1, rs, rfl, hO, hQ, hcd, hb1⟩
        have R1 := Lib.hid (RB.out.below hb1 RB.out.lt)
        have HB1 := Lib.hid (HBB.out.trans (hb1.mono HBB.out.size))
        clear hO hQ hcd hb1 x0 x1
        obtain ⟨r0, r1, f0, f1⟩ := R1.out.two
        go_wp2
        have hbx : Hid (Box ((w1.setCell ⟨w.heap.size + 1 + 1, 0, none⟩ (.int .i64 0)).setCell ⟨w.heap.size + 1 + 1, 1, none⟩ (.slice none 0 0)) (w.heap.size + 1 + 1) 30 #[.int .i64 0, .slice none 0 0]) := (R1.out.set 0 (.int .i64 0)).set 1 (.slice none 0 0)
        have hb9 := Lib.hid ((HB1.out.setCell (p := ⟨w.heap.size + 1 + 1, 0, none⟩) (by simp; omega) (.int .i64 0)).setCell (p := ⟨w.heap.size + 1 + 1, 1, none⟩) (by simp; omega) (.slice none 0 0))
        generalize (w1.setCell ⟨w.heap.size + 1 + 1, 0, none⟩ (.int .i64 0)).setCell ⟨w.heap.size + 1 + 1, 1, none⟩ (.slice none 0 0) = w9 at *
        refine bodyPost_ret (results_row_tmp2 rfl _ _ (w.heap.size + 1 + 1) 30 #[.int .i64 0, .slice none 0 0] (0, 0) _ rfl hbx.out Tryd.underlying30 rfl (by kernel_rfl)) rfl ?_
        obtain ⟨q1, q2, q3⟩ := HE.out
        rw [q1, q2, q3]
        exact ⟨none, 0, rfl, Own.nilS _ _, hb9.out⟩
    · have HE := Lib.hid (rb_is (rb_1 (r := r) (p := p) (L := L) (M := M) (fun h => hs h.2)) (by decide))
      have hs' : s3B p L = false := by simpa using hs
      clear hs
      unfold z9
      go_enter Tryd.func6, Tryd.ntmps6
      go_wp2_with fail
      rw [← HW0.out]
      refine (l07Is_calls r _).mono ?_
      rintro e wa ⟨rfl, hba⟩
      have XA := Lib.hid (X0.out.below hba X0.out.lt)
      have RA := Lib.hid (R0.out.below hba R0.out.lt)
      have HBA := Lib.hid (HB0.out.trans (hba.mono HB0.out.size))
      have HIA := Lib.hid (HI0.out.below hba)
      clear hba
      obtain ⟨x0, x1, _, _⟩ := XA.out.two
      go_wp2_with fail
      refine (l07State_calls (some ad) n c p L _ HL.out hn HIA.out).mono ?_
      rintro e w1 ⟨rfl, hb1⟩
      have R1 := Lib.hid (RA.out.below hb1 RA.out.lt)
      have HB1 := Lib.hid (HBA.out.trans (hb1.mono HBA.out.size))
      obtain ⟨r0, r1, f0, f1⟩ := R1.out.two
      clear hb1 x0 x1
      go_wp2
      have hbx : Hid (Box ((w1.setCell ⟨w.heap.size + 1 + 1, 0, none⟩ (.int .i64 0)).setCell ⟨w.heap.size + 1 + 1, 1, none⟩ (.slice none 0 0)) (w.heap.size + 1 + 1) 30 #[.int .i64 0, .slice none 0 0]) := (R1.out.set 0 (.int .i64 0)).set 1 (.slice none 0 0)
      have hb9 := Lib.hid ((HB1.out.setCell (p := ⟨w.heap.size + 1 + 1, 0, none⟩) (by simp; omega) (.int .i64 0)).setCell (p := ⟨w.heap.size + 1 + 1, 1, none⟩) (by simp; omega) (.slice none 0 0))
      generalize (w1.setCell ⟨w.heap.size + 1 + 1, 0, none⟩ (.int .i64 0)).setCell ⟨w.heap.size + 1 + 1, 1, none⟩ (.slice none 0 0) = w9 at *
      refine bodyPost_ret (results_row_tmp2 rfl _ _ (w.heap.size + 1 + 1) 30 #[.int .i64 0, .slice none 0 0] (0, 0) _ rfl hbx.out Tryd.underlying30 rfl (by kernel_rfl)) rfl ?_
      obtain ⟨q1, q2, q3⟩ := HE.out
      rw [q1, q2, q3]
      exact ⟨none, 0, rfl, Own.nilS _ _, hb9.out⟩
  · have HE := Lib.hid (rb_is (rb_1 (r := r) (p := p) (L := L) (M := M) (fun h => hr h.1)) (by decide))
    have hr' : ruB r = false := by simpa using hr
    clear hr
    unfold z9
    go_enter Tryd.func6, Tryd.ntmps6
    go_wp2_with fail
    rw [← HW0.out]
    refine (l07Is_calls r _).mono ?_
    rintro e w1 ⟨rfl, hb1⟩
    have R1 := Lib.hid (R0.out.below hb1 R0.out.lt)
    have HB1 := Lib.hid (HB0.out.trans (hb1.mono HB0.out.size))
    obtain ⟨r0, r1, f0, f1⟩ := R1.out.two
    clear hb1
    go_wp2
    have hbx : Hid (Box ((w1.setCell ⟨w.heap.size + 1 + 1, 0, none⟩ (.int .i64 0)).setCell ⟨w.heap.size + 1 + 1, 1, none⟩ (.slice none 0 0)) (w.heap.size + 1 + 1) 30 #[.int .i64 0, .slice none 0 0]) := (R1.out.set 0 (.int .i64 0)).set 1 (.slice none 0 0)
    have hb9 := Lib.hid ((HB1.out.setCell (p := ⟨w.heap.size + 1 + 1, 0, none⟩) (by simp; omega) (.int .i64 0)).setCell (p := ⟨w.heap.size + 1 + 1, 1, none⟩) (by simp; omega) (.slice none 0 0))
    generalize (w1.setCell ⟨w.heap.size + 1 + 1, 0, none⟩ (.int .i64 0)).setCell ⟨w.heap.size + 1 + 1, 1, none⟩ (.slice none 0 0) = w9 at *
    refine bodyPost_ret (results_row_tmp2 rfl _ _ (w.heap.size + 1 + 1) 30 #[.int .i64 0, .slice none 0 0] (0, 0) _ rfl hbx.out Tryd.underlying30 rfl (by kernel_rfl)) rfl ?_
    obtain ⟨q1, q2, q3⟩ := HE.out
    rw [q1, q2, q3]
    exact ⟨none, 0, rfl, Own.nilS _ _, hb9.out⟩

end Go.Proofs.YtbnjdpjlhccglaaDoor
