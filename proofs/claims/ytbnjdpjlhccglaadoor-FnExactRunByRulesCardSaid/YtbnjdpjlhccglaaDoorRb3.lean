/- Contracts: a run by rules, by the program. -/
import Derived.Test.YtbnjdpjlhccglaaDoorRb2
import Derived.Test.YtbnjdpjlhccglaaDoorRuOf
import Derived.WalkLawsBesides
import Derived.Stop.Asserts
import Derived.Defers
import Derived.Recover
namespace Go.Proofs.YtbnjdpjlhccglaaDoor
open Go.RowKit
set_option linter.unusedVariables false

/-- The error's variable holds an error of errors.New's make. -/
def SentL (w : World) (a : Addr) : Prop := w.cell? ⟨0, 0, none⟩ = some (.iface 77 (.pointer (some a)))
theorem SentL.below {w w' : World} {a : Addr} (h : SentL w a) (hb : Below w.heap.size w w') : SentL w' a := (hb.cell (block_of_cell h)).trans h

/-- All of the first k moves are legal by the rules. -/
def rbOk (r : Nat → Int) (L : List Int) (M : List Mv) (k : Nat) : Bool := okA 3 L M k && alA r M k
theorem rbOk_step (r : Nat → Int) (L : List Int) (M : List Mv) (k : Nat) : rbOk r L M (k + 1) = (rbOk r L M k && (legalB 3 (stA L M k) (mvAt M k).1 (mvAt M k).2.1 (mvAt M k).2.2 && alR r (mvAt M k).2.1 (mvAt M k).2.2)) := by
  show ((okA 3 L M k && legalB 3 (stA L M k) (mvAt M k).1 (mvAt M k).2.1 (mvAt M k).2.2) && (alA r M k && alR r (mvAt M k).2.1 (mvAt M k).2.2)) = ((okA 3 L M k && alA r M k) && _)
  generalize okA 3 L M k = a
  generalize alA r M k = b
  generalize legalB 3 (stA L M k) (mvAt M k).1 (mvAt M k).2.1 (mvAt M k).2.2 = x
  generalize alR r (mvAt M k).2.1 (mvAt M k).2.2 = y
  cases a <;> cases b <;> cases x <;> cases y <;> rfl
theorem rbOk_le {r : Nat → Int} {L : List Int} {M : List Mv} {k : Nat} (h : rbOk r L M k = false) : ∀ m, k ≤ m → rbOk r L M m = false
  | 0, hm => by obtain rfl : k = 0 := by omega
                exact h
  | m + 1, hm => by
    by_cases e : k = m + 1
    · subst e; exact h
    · rw [rbOk_step, rbOk_le h m (by omega), Bool.false_and]
def RunEnd (w : World) (r : Nat → Int) (L : List Int) (M : List Mv) (n : Nat) (ea : Addr) (e : Ending) (w' : World) : Prop :=
  (rbOk r L M M.length = true ∧ ∃ A' c', e = .returned (.agg #[.int .i64 3, .slice A' n c']) ∧ Own w.heap.size w' A' n c' (stA L M M.length)) ∨ (rbOk r L M M.length = false ∧ e = .panicked [{ v := .iface 77 (.pointer (some ea)), recovered := false }])

theorem legal_disc {p : Int} {L : List Int} {d f t : Int} (h : legalB p L d f t = true) : 0 ≤ d ∧ d < L.length := by
  unfold legalB at h
  rw [Bool.and_eq_true, decide_eq_true_iff] at h
  exact ⟨h.1.1, h.1.2.1⟩

set_option maxRecDepth 100000 in
set_option maxHeartbeats 8000000 in
theorem mustBeRun_calls (r : Nat → Int) (ad : Addr) (n c : Nat) (L : List Int) (AM : Option Addr) (m cM : Nat) (M : List Mv) (ea : Addr) (w : World) (hL : L.length = n) (hn : n ≤ 1048576) (hI : Ints w (some ad) L) (hs : stateB 3 L = true) (hM : M.length = m) (hm : m ≤ 6561) (hMv : Mvs w AM M) (hS : SentL w ea) :
    Calls Tryd.prog 37 #[.iface 33 (.agg (z9 r)), .agg #[.int .i64 3, .slice (some ad) n c], .slice AM m cM] w fun e w' => RunEnd w r L M n ea e w' ∧ Below w.heap.size w w' := by
  have HL := Lib.hid hL
  have HM := Lib.hid hM
  have HST := Lib.hid hs
  obtain ⟨W0, hW0⟩ : ∃ W0, W0 = (w.alloc (.cells #[.int .i64 3, .slice (some ad) n c] 30)).alloc (.cells #[.int .i64 0, .slice none 0 0] 30) := ⟨_, rfl⟩
  have hb0 : Below w.heap.size w W0 := by rw [hW0]; exact ((Below.refl _ w).alloc (Nat.le_refl _) _).alloc (by simp) _
  have x0 : Box W0 w.heap.size 30 #[.int .i64 3, .slice (some ad) n c] := by rw [hW0]; exact (Box.new w _ _).alloc _
  have r0 : Box W0 (w.heap.size + 1) 30 #[.int .i64 0, .slice none 0 0] := by
    have h := Box.new (w.alloc (.cells #[.int .i64 3, .slice (some ad) n c] 30)) 30 #[.int .i64 0, .slice none 0 0]
    rw [World.size_alloc] at h
    rw [hW0]; exact h
  have hs0 : W0.heap.size = w.heap.size + 2 := by rw [hW0]; simp
  have X0 := Lib.hid x0
  have R0 := Lib.hid r0
  have HB0 := Lib.hid hb0
  have HI0 := Lib.hid (hI.below hb0)
  have HV0 := Lib.hid (hMv.below hb0)
  have S0 := Lib.hid (hS.below hb0)
  have HW0 := Lib.hid hW0
  obtain ⟨x0, x1, _, _⟩ := x0.two
  clear hL hM hs hI hMv hS r0 hb0 hW0
  go_enter Tryd.func37, Tryd.ntmps37
  go_wp2_with fail
  rw [← HW0.out]
  refine (copyOfState_calls (some ad) n c 3 L _ HL.out hn HI0.out).mono ?_
  rintro e w1 ⟨A1, c1, rfl, hc1, hc1', hO1, hb1⟩
  have R1 := Lib.hid (R0.out.below hb1 R0.out.lt)
  have HB1 := Lib.hid (HB0.out.trans (hb1.mono HB0.out.size))
  have HV1 := Lib.hid (HV0.out.below hb1)
  have S1 := Lib.hid (S0.out.below hb1)
  have HO1 := Lib.hid (show Own w.heap.size w1 A1 n c1 L from OwnG.mono hO1 (by omega))
  have hw1 := hb1.size
  clear hb1 hO1 x0 x1 X0 R0 HB0 HI0 HV0 S0 HW0
  obtain ⟨lb, hlb⟩ : ∃ lb, lb = w1.heap.size := ⟨_, rfl⟩
  obtain ⟨W2, hW2⟩ : ∃ W2, W2 = w1.alloc (.cells #[.int .i64 3, .slice A1 n c1] 30) := ⟨_, rfl⟩
  have hb2 : Below w1.heap.size w1 W2 := by rw [hW2]; exact (Below.refl _ _).alloc (Nat.le_refl _) _
  have N2 := Lib.hid (show Box W2 lb 30 #[.int .i64 3, .slice A1 n c1] from by rw [hW2, hlb]; exact Box.new w1 _ _)
  have R2 := Lib.hid (R1.out.below hb2 R1.out.lt)
  have HB2 := Lib.hid (HB1.out.trans (hb2.mono HB1.out.size))
  have HO2 := Lib.hid (show Own w.heap.size W2 A1 n c1 L from OwnG.below HO1.out hb2)
  have hlb1 : w.heap.size + 1 < lb := by omega
  have HC1 := Lib.hid (show n ≤ c1 ∧ c1 ≤ 9223372036854775807 from ⟨hc1, by omega⟩)
  have HB12 := Lib.hid hb2
  have hlw : w1.heap.size ≤ lb := by omega
  clear hb2 R1 HB1 HO1 hc1 hc1'
  go_wp2
  rw [← hW2, ← hlb]
  have hw2 : lb < W2.heap.size := N2.out.lt
  clear hW2 hlb
  go_loopw [14] (fun i wr => ∃ (k : Nat) (A' : Option Addr) (c' : Nat), k ≤ m ∧ i = .int .i64 k ∧ Hid (rbOk r L M k = true) ∧ Box wr lb 30 #[.int .i64 3, .slice A' n c'] ∧ Own w.heap.size wr A' n c' (stA L M k) ∧ Hid (n ≤ c' ∧ c' ≤ 9223372036854775807) ∧ Box wr (w.heap.size + 1) 30 #[.int .i64 0, .slice none 0 0] ∧ Below w.heap.size w wr ∧ Below w1.heap.size w1 wr) (fun i _ => m - (intOf i).toNat)
  case atStart => exact ⟨0, A1, c1, Nat.zero_le _, rfl, Lib.hid rfl, N2.out, HO2.out, HC1, R2.out, HB2.out, HB12.out⟩
  case round =>
    obtain ⟨k, A', c', hk, rfl, HK, hN, hO, HC, hR, hB, hB2⟩ := hrel
    have HN := Lib.hid hN
    have HO := Lib.hid hO
    have HR := Lib.hid hR
    have HB := Lib.hid hB
    have HB2r := Lib.hid hB2
    have HVr := Lib.hid (HV1.out.below hB2)
    have HSr := Lib.hid (S1.out.below hB2)
    clear hO hR hB hB2 N2 HO2 HC1 R2 HB2 HB12
    by_cases hlt : k < m
    · have hok : okA 3 L M k = true := by
        have := HK.out
        unfold rbOk at this
        simp only [Bool.and_eq_true] at this
        exact this.1
      obtain ⟨g, rfl, hg, k0, k1, k2⟩ := HVr.out k (by rw [HM.out]; exact hlt)
      change _ = some (Value.int .i64 (mvAt M k).1) at k0
      change _ = some (Value.int .i64 (mvAt M k).2.1) at k1
      change _ = some (Value.int .i64 (mvAt M k).2.2) at k2
      have HSTP := Lib.hid (rbOk_step r L M k)
      have HSET := Lib.hid (show stA L M (k + 1) = (stA L M k).set (mvAt M k).1.toNat (mvAt M k).2.2 from rfl)
      have HLk := Lib.hid (show (stA L M k).length = n by rw [stA_len]; exact HL.out)
      have HSk := Lib.hid (stA_state HST.out k hok)
      generalize mvAt M k = mv at *
      generalize stA L M k = Lk at *
      obtain ⟨d, fr, tt⟩ := mv
      dsimp only at k0 k1 k2 HSTP HSET
      have hal : Below wr.heap.size wr (wr.alloc (.cells #[.int .i64 d, .int .i64 fr, .int .i64 tt] 50)) := (Below.refl _ _).alloc (Nat.le_refl _) _
      have MB := Lib.hid (Box.new wr 50 #[.int .i64 d, .int .i64 fr, .int .i64 tt])
      have NA := Lib.hid (HN.out.alloc (.cells #[.int .i64 d, .int .i64 fr, .int .i64 tt] 50))
      have RA := Lib.hid (HR.out.alloc (.cells #[.int .i64 d, .int .i64 fr, .int .i64 tt] 50))
      have HBA := Lib.hid (HB.out.alloc HB.out.size (.cells #[.int .i64 d, .int .i64 fr, .int .i64 tt] 50))
      have HBA2 := Lib.hid (HB2r.out.alloc HB2r.out.size (.cells #[.int .i64 d, .int .i64 fr, .int .i64 tt] 50))
      have HOA := Lib.hid (OwnG.alloc HO.out (.cells #[.int .i64 d, .int .i64 fr, .int .i64 tt] 50))
      have HSA := Lib.hid (HSr.out.below hal)
      have hMlt : wr.heap.size < (wr.alloc (.cells #[.int .i64 d, .int .i64 fr, .int .i64 tt] 50)).heap.size := MB.out.lt
      have hNlt := NA.out.lt
      obtain ⟨n0, n1, _, _⟩ := NA.out.two
      obtain ⟨m0, m1, m2⟩ := MB.out.three
      have hk0 : (0 : Int) ≤ (k : Int) := by omega
      have hk1 : (k : Int) < (m : Int) := by omega
      clear hal hok
      go_wp2_with fail
      generalize hWa : wr.alloc (.cells #[.int .i64 d, .int .i64 fr, .int .i64 tt] 50) = wa at *
      generalize wr.heap.size = mb at *
      refine (isLegalMove_calls A' n c' 3 Lk d fr tt _ HLk.out HC.out.1 HC.out.2 (Own.ints HOA.out) HSk.out).mono ?_
      rintro e wb ⟨rfl, hbb⟩
      have NB := Lib.hid (NA.out.below hbb NA.out.lt)
      have MBb := Lib.hid (MB.out.below hbb MB.out.lt)
      have RB := Lib.hid (RA.out.below hbb RA.out.lt)
      have HBB := Lib.hid (HBA.out.trans (hbb.mono HBA.out.size))
      have HBB2 := Lib.hid (HBA2.out.trans (hbb.mono HBA2.out.size))
      have HOB := Lib.hid (OwnG.below HOA.out hbb)
      have HSB := Lib.hid (HSA.out.below hbb)
      clear hbb n0 n1 m0 m1 m2 k0 k1 k2 hWa HN HO HR HB HB2r HVr HSr NA RA HBA HBA2 HOA HSA MB
      obtain ⟨n0, n1, fn0, fn1⟩ := NB.out.two
      obtain ⟨m0, m1, m2⟩ := MBb.out.three
      by_cases hl : legalB 3 Lk d fr tt = true
      · obtain ⟨⟨hf0, hf1⟩, ⟨ht0, ht1⟩⟩ := legal_pegs HSk.out hl
        have hd := legal_disc hl
        rw [HLk.out] at hd
        obtain ⟨j, rfl⟩ := Int.eq_ofNat_of_zero_le hd.1
        have hjn : j < n := by omega
        have hm := meth_R r
        have HLG := Lib.hid hl
        by_cases ha : alR r fr tt = true
        · have HK2 := Lib.hid (show rbOk r L M (k + 1) = true by rw [HSTP.out, HK.out, hl, ha]; rfl)
          go_wp2_with fail
          refine (allowsR_calls' r fr tt ⟨hf0, by omega⟩ ⟨ht0, by omega⟩ _).mono ?_
          rintro e wc ⟨rfl, hbc⟩
          have NC := Lib.hid (NB.out.below hbc NB.out.lt)
          have MC := Lib.hid (MBb.out.below hbc MBb.out.lt)
          have RC := Lib.hid (RB.out.below hbc RB.out.lt)
          have HBC := Lib.hid (HBB.out.trans (hbc.mono HBB.out.size))
          have HBC2 := Lib.hid (HBB2.out.trans (hbc.mono HBB2.out.size))
          have HOC := Lib.hid (OwnG.below HOB.out hbc)
          clear hbc n0 n1 fn0 fn1 m0 m1 m2 NB MBb RB HBB HBB2 HOB HSB
          obtain ⟨n0, n1, _, _⟩ := NC.out.two
          obtain ⟨m0, m1, m2⟩ := MC.out.three
          have ha' := ha
          go_wp2_with fail
          refine (afterMove_calls A' n c' 3 Lk j fr tt _ HLk.out hn hjn (Own.ints HOC.out)).mono ?_
          rintro e wd ⟨A2, c2, rfl, hO2, hbd⟩
          have ND := Lib.hid (NC.out.below hbd NC.out.lt)
          have RD := Lib.hid (RC.out.below hbd RC.out.lt)
          have HBD := Lib.hid (HBC.out.trans (hbd.mono HBC.out.size))
          have HBD2 := Lib.hid (HBC2.out.trans (hbd.mono HBC2.out.size))
          have HOD := Lib.hid (show Own w.heap.size wd A2 n c2 (Lk.set j tt) from OwnG.mono hO2 HBC.out.size)
          have HCD := Lib.hid (show n ≤ c2 ∧ c2 ≤ 9223372036854775807 from by have := OwnG.cap hO2; unfold maxLen at this; exact ⟨by omega, by omega⟩)
          clear hbd hO2 n0 n1 m0 m1 m2 NC RC HBC HBC2 HOC MC
          obtain ⟨n0, n1, fn0, fn1⟩ := ND.out.two
          go_wp2
          go_roundw
          case rel =>
            refine ⟨k + 1, A2, c2, by omega, by go_num, HK2, (ND.out.set 0 _).set 1 _, ?_, HCD, ?_, (HBD.out.setCell (by simp; omega) _).setCell (by simp; omega) _, (HBD2.out.setCell (by simp; omega) _).setCell (by simp; omega) _⟩
            · rw [HSET.out, Int.toNat_natCast]
              have h1 := OwnG.setBoxed HOD.out ND.out (by decide) 0 (.int .i64 3)
              exact OwnG.setBoxed h1 (ND.out.set 0 (.int .i64 3)) (by decide) 1 (.slice A2 n c2)
            · exact (RD.out.other (by simp; omega) _).other (by simp; omega) _
          case measure => simp [intOf]; omega
        · have ha' : alR r fr tt = false := by simpa using ha
          have HBAD := Lib.hid (show rbOk r L M M.length = false from rbOk_le (k := k + 1) (by rw [HSTP.out, ha', Bool.and_false, Bool.and_false]) _ (by rw [HM.out]; omega))
          clear ha
          go_wp2_with fail
          refine (allowsR_calls' r fr tt ⟨hf0, by omega⟩ ⟨ht0, by omega⟩ _).mono ?_
          rintro e wc ⟨rfl, hbc⟩
          have HS9 := Lib.hid (HSB.out.below hbc)
          have HB9 := Lib.hid (HBB.out.trans (hbc.mono HBB.out.size))
          clear hbc
          have hsb := HS9.out
          unfold SentL at hsb
          go_wp2
          exact ⟨rfl, .inr ⟨HBAD.out, rfl⟩, HB9.out⟩
      · have hl' : legalB 3 Lk d fr tt = false := by simpa using hl
        have HBAD := Lib.hid (show rbOk r L M M.length = false from rbOk_le (k := k + 1) (by rw [HSTP.out, hl', Bool.false_and, Bool.and_false]) _ (by rw [HM.out]; omega))
        have HS9 := HSB
        have HB9 := HBB
        clear hl
        have hsb := HS9.out
        unfold SentL at hsb
        go_wp2
        exact ⟨rfl, .inr ⟨HBAD.out, rfl⟩, HB9.out⟩
    · obtain rfl : k = m := by omega
      obtain ⟨n0, n1, _, _⟩ := HN.out.two
      obtain ⟨r0, r1, f0, f1⟩ := HR.out.two
      go_wp2
      have hbx : Hid (Box ((wr.setCell ⟨w.heap.size + 1, 0, none⟩ (.int .i64 3)).setCell ⟨w.heap.size + 1, 1, none⟩ (.slice A' n c')) (w.heap.size + 1) 30 #[.int .i64 3, .slice A' n c']) := (HR.out.set 0 (.int .i64 3)).set 1 (.slice A' n c')
      have hb9 := Lib.hid ((HB.out.setCell (p := ⟨w.heap.size + 1, 0, none⟩) (by simp) (.int .i64 3)).setCell (p := ⟨w.heap.size + 1, 1, none⟩) (by simp) (.slice A' n c'))
      have ho9 : Hid (Own w.heap.size ((wr.setCell ⟨w.heap.size + 1, 0, none⟩ (.int .i64 3)).setCell ⟨w.heap.size + 1, 1, none⟩ (.slice A' n c')) A' n c' (stA L M k)) := by
        have h1 := OwnG.setBoxed HO.out HR.out (by decide) 0 (.int .i64 3)
        exact OwnG.setBoxed h1 (HR.out.set 0 (.int .i64 3)) (by decide) 1 (.slice A' n c')
      generalize (wr.setCell ⟨w.heap.size + 1, 0, none⟩ (.int .i64 3)).setCell ⟨w.heap.size + 1, 1, none⟩ (.slice A' n c') = w9 at *
      refine bodyPost_ret (results_cell_row rfl _ _ (w.heap.size + 1) 30 #[.int .i64 3, .slice A' n c'] (0, 0) _ rfl hbx.out Tryd.underlying30 rfl (by kernel_rfl)) rfl ⟨.inl ⟨by rw [HM.out]; exact HK.out, A', c', rfl, by rw [HM.out]; exact ho9.out⟩, hb9.out⟩

end Go.Proofs.YtbnjdpjlhccglaaDoor
