/- Contracts: IsOnWay, by the specification's model. -/
import Derived.Test.YtmpmkhfbfaicpaaOnW
import Derived.Test.YtmpmkhfbfaicpaaWaySp
import Derived.Test.YtmpmkhfbfaicpaaNumbersI
import Derived.Deep.RegionHeld3
namespace Go.Proofs.Ytmpmkhfbfaicpaa
open Go.RowKit
set_option linter.unusedVariables false

theorem cells2c {w : World} {b t : Nat} {u v : Value} (h : Box w b t #[u, v]) : w.cell? ⟨b, 0, none⟩ = some u ∧ w.cell? ⟨b, 1, none⟩ = some v := ⟨h.two.1, h.two.2.1⟩
theorem ret_ow {a b : Bool} {x y : Int} (h : a = b) (h' : x = y) : Ending.returned (.tuple #[.bool b, .int .i64 y]) = .returned (.tuple #[.bool a, .int .i64 x]) := by rw [h, h']
def smT (b : Bool) (L M : List Int) (k : Nat) : Prop := b = true ↔ ∀ i, i < k → L[i]?.getD 0 = M[i]?.getD 0
theorem smT_zero (L M : List Int) : smT true L M 0 := ⟨fun _ i hi => absurd hi (by omega), fun _ => rfl⟩
def RetOw (w : World) (b : Bool) (E : Int) (e : Ending) (w' : World) : Prop := e = .returned (.tuple #[.bool b, .int .i64 E]) ∧ Below w.heap.size w w'

set_option maxRecDepth 100000 in
set_option maxHeartbeats 4000000 in
theorem specIsOnWay_ret (ad : Addr) (n c : Nat) (p : Int) (L : List Int) (a : Int) (ae : Addr) (m d : Nat) (q : Int) (M : List Int) (w : World) (hL : L.length = n) (hn : n ≤ 1048576) (hI : Ints w (some ad) L) (hM : M.length = m) (hm : m ≤ 1048576) (hJ : Ints w (some ae) M) :
    Calls Try.prog 18 #[.agg #[.int .i64 p, .slice (some ad) n c], .int .i64 a, .agg #[.int .i64 q, .slice (some ae) m d]] w (RetOw w (owV p L a q M) (owE p L a q M)) := by
  have HL := Lib.hid hL
  have HM := Lib.hid hM
  obtain ⟨b1, b2, b3⟩ := twoBoxes w p q (some ad) (some ae) n c m d 30
  have hbal := (Below.refl _ ((w.alloc (.cells #[.int .i64 p, .slice (some ad) n c] 30)).alloc (.cells #[.int .i64 q, .slice (some ae) m d] 30))).alloc (Nat.le_refl _) (.cells #[.int .i64 p, .slice (some ad) n c, .int .i64 q, .slice (some ae) m d] 30)
  have X0 := Lib.hid (b1.below hbal b1.lt)
  have Y0 := Lib.hid (b2.below hbal b2.lt)
  have hc0 := Box.new ((w.alloc (.cells #[.int .i64 p, .slice (some ad) n c] 30)).alloc (.cells #[.int .i64 q, .slice (some ae) m d] 30)) 30 #[.int .i64 p, .slice (some ad) n c, .int .i64 q, .slice (some ae) m d]
  simp only [World.size_alloc] at hc0
  have Z0 := Lib.hid hc0
  have HB0 := Lib.hid (b3.trans (hbal.mono b3.size))
  have HI0 := Lib.hid (hI.below HB0.out)
  have HJ0 := Lib.hid (hJ.below HB0.out)
  have HJW := Lib.hid hJ
  clear hL hM b1 b2 b3 hbal hc0 hI hJ
  by_cases hz : code2 p L q M = 0
  · have hcw := ow_codeW (a := a) hz
    have hz' : (code2 p L q M == 0) = true := by simpa using hz
    obtain ⟨hs, ht, hp, hq, hl⟩ := code2_zero hz
    subst hp hq
    by_cases hia : inB a 0 2 = true
    · have e1 : owE 3 L a 3 M = 0 := by unfold owE; rw [if_pos hz, if_pos hia]
      have e2 : owV 3 L a 3 M = onM M L (wayL L a) := by unfold owV; rw [if_pos ⟨hz, hia⟩]
      rw [e1] at hcw
      rw [e1, e2]
      have ha := inB_of hia
      have hmn : m = n := by rw [← HM.out, ← HL.out, hl]
      subst hmn
      have h8 := (state_facts hs HL.out).2.2.1
      have HP := Lib.hid (state_pegsOk hs)
      have HWB := Lib.hid (show (wayL L a).length ≤ 255 from wayL_bd (by rw [HL.out]; exact h8))
      have hcw' : (codeW 3 L a != 0) = false := by rw [hcw]; rfl
      clear hz hs ht hl e1 e2 hia
      go_enter Try.func18, Try.ntmps18
      go_wp2_with fail
      refine (l02Code_two (w.heap.size + 1 + 1) (some ad) m c 3 L (some ae) m d 3 M _ Z0.out HL.out hn HI0.out HM.out hn HJ0.out).mono ?_
      rintro e w1 ⟨rfl, hb1⟩
      have X1 := Lib.hid (X0.out.below hb1 X0.out.lt)
      have Y1 := Lib.hid (Y0.out.below hb1 Y0.out.lt)
      have HB1 := Lib.hid (HB0.out.trans (hb1.mono HB0.out.size))
      have HI1 := Lib.hid (HI0.out.below hb1)
      have HJ1 := Lib.hid (HJ0.out.below hb1)
      clear hb1
      obtain ⟨x0, x1, _, _⟩ := X1.out.two
      go_wp2_with fail
      refine (l02With_calls (some ad) m c 3 L a _ HL.out hn HI1.out).mono ?_
      rintro e w2 ⟨rfl, hb2⟩
      have X2 := Lib.hid (X1.out.below hb2 X1.out.lt)
      have Y2 := Lib.hid (Y1.out.below hb2 Y1.out.lt)
      have HB2 := Lib.hid (HB1.out.trans (hb2.mono HB1.out.size))
      have HI2 := Lib.hid (HI1.out.below hb2)
      have HJ2 := Lib.hid (HJ1.out.below hb2)
      have zx := X2.out.lt
      clear hb2 x0 x1
      obtain ⟨x0, x1, _, _⟩ := X2.out.two
      go_wp2_with fail
      go_region_held3 (fun w' => w'.cell? ⟨w.heap.size, 0, none⟩ = some (.int .i64 3) ∧ w'.cell? ⟨w.heap.size, 1, none⟩ = some (.slice (some ad) m c))
        (first | exact cells2c X2.out | exact cells2c X3.out | exact cells2c X4.out | go_keep)
        (first
        | (go_at_call 37; refine (l01Own_calls (some ad) m c L _ HL.out hn (fun h => by cases h) ?_).mono ?_; (exact HI2.out); rintro e w3 ⟨An, cn, rfl, hO3, hb3⟩; have X3 := Lib.hid (Box.below X2.out (undrew hb3) zx))
        | (go_at_call 22; refine (l02Way_calls (some ad) m c L a _ HL.out h8 (fun h => by cases h) ?_ HP.out ha).mono ?_; (exact HI2.out.below (undrew hb3)); rintro e w4 ⟨Aw, cw, rfl, hW4, hb4⟩; have X4 := Lib.hid (Box.below X3.out hb4 (Box.lt X3.out))))
      have HB3 := Lib.hid (HB2.out.trans ((undrew hb3).mono HB2.out.size))
      have HB4 := Lib.hid (HB3.out.trans (hb4.mono HB3.out.size))
      have HN4 := Lib.hid (show OwnG 2 1 w.heap.size w4 An m cn (L.map (Value.int .i64)) from (OwnG.mono (show OwnG 2 1 w2.heap.size w3 An m cn (L.map (Value.int .i64)) from hO3) HB2.out.size).below hb4)
      have HW4 := Lib.hid (OwnG.mono hW4 HB3.out.size)
      have Y4 := Lib.hid ((Y2.out.below (undrew hb3) Y2.out.lt).below hb4 (Y2.out.below (undrew hb3) Y2.out.lt).lt)
      have HJ4 := Lib.hid ((HJ2.out.below (undrew hb3)).below hb4)
      clear hb3 hb4 hO3 hW4 x0 x1 X3 X4 HB3
      have hY4 : Box w4 (w.heap.size + 1) 30 #[.int .i64 3, .slice (some ae) m d] := Y4.out
      clear X0 X1 X2 Y0 Y1 Y2 Y4 Z0 HB0 HB1 HB2 HI0 HI1 HI2 HJ0 HJ1 HJ2 HJ4 zx hz' hcw hcw'
      go_wp2
      go_loopw [11, 12, 13] (fun i _ _ wr => ∃ (Lc : List Int) (pre : List Mv), i = .int .i64 pre.length ∧ Hid (wayL L a = pre ++ wayL Lc a) ∧ Hid (Lc.length = m) ∧ Hid (pegsOk Lc) ∧ Hid (onM M L (wayL L a) = onM M Lc (wayL Lc a)) ∧ OwnG 2 1 w.heap.size wr An m cn (Lc.map (Value.int .i64)) ∧ OwnM w.heap.size wr Aw (wayL L a).length cw (wayL L a) ∧ Box wr (w.heap.size + 1) 30 #[.int .i64 3, .slice (some ae) m d] ∧ Below w.heap.size w wr) (fun i _ _ _ => (wayL L a).length - (intOf i).toNat)
      case atStart => exact ⟨L, [], rfl, Lib.hid rfl, HL, HP, Lib.hid rfl, HN4.out, HW4.out, hY4, HB4.out⟩
      case round =>
        obtain ⟨Lc, pre, rfl, HW, HLc, HPc, HON, hN, hM', hY, hb⟩ := hrel
        have HN := Lib.hid hN
        have HMv := Lib.hid hM'
        have HY := Lib.hid hY
        have HB := Lib.hid hb
        have HJr := Lib.hid (HJW.out.below hb)
        have hplen : pre.length ≤ (wayL L a).length := by rw [HW.out]; simp
        have HWB' := HWB.out
        clear hN hM' hb HN4 HW4 HB4
        go_wp2_with fail
        go_loopw [12, 13] (fun s j wr' => ∃ (k : Nat) (b : Bool), k ≤ m ∧ s = .bool b ∧ j = .int .i64 k ∧ Hid (smT b Lc M k) ∧ ∃ q, wr' = wr.drewN q) (fun _ j _ => m - (intOf j).toNat)
        case atStart => exact ⟨0, true, Nat.zero_le _, rfl, rfl, Lib.hid (smT_zero _ _), 0, rfl⟩
        case round =>
          obtain ⟨k, b, hk, rfl, rfl, HS, q, rfl⟩ := hrel
          by_cases hlt : k < m
          · obtain ⟨gn, rfl, hBn, hgnl, hcn⟩ := ownAtW HN.out HLc.out hlt
            obtain ⟨ad', hae, haj, hcm⟩ := HJr.out k (by rw [HM.out]; exact hlt)
            injection hae with hae
            subst hae
            rw [List.getD_eq_getElem?_getD] at hcm
            obtain ⟨y0, y1, _, _⟩ := HY.out.two
            have hk0 : (0 : Int) ≤ (k : Int) := by omega
            have hk1 : (k : Int) < (m : Int) := by omega
            cases b with
            | false =>
              have HS2 := Lib.hid (show smT false Lc M (k + 1) from ⟨fun h => (by cases h), fun h => HS.out.2 (fun i hi => h i (by omega))⟩)
              go_wp2_with fail
              go_quiet (fail)
              go_wp2
              go_roundw
              case rel => exact ⟨k + 1, false, by omega, rfl, by go_num, HS2, by first | exact ⟨_, rfl⟩ | exact ⟨_, World.drewN_drewN _ _ _⟩⟩
              case measure => simp [intOf]; omega
            | true =>
              by_cases hne : Lc[k]?.getD 0 = M[k]?.getD 0
              · have hte : (Lc[k]?.getD 0 == M[k]?.getD 0) = true := by simpa using hne
                have HS2 := Lib.hid (show smT true Lc M (k + 1) from ⟨fun _ i hi => by
                  by_cases h : i = k
                  · rw [h]; exact hne
                  · exact HS.out.1 rfl i (by omega), fun _ => rfl⟩)
                clear hne
                go_wp2_with fail
                go_quiet (fail)
                go_wp2
                go_roundw
                case rel => exact ⟨k + 1, true, by omega, rfl, by go_num, HS2, by first | exact ⟨_, rfl⟩ | exact ⟨_, World.drewN_drewN _ _ _⟩⟩
                case measure => simp [intOf]; omega
              · have hte : (Lc[k]?.getD 0 == M[k]?.getD 0) = false := by simpa using hne
                have HS2 := Lib.hid (show smT false Lc M (k + 1) from ⟨fun h => (by cases h), fun h => absurd (h k (by omega)) hne⟩)
                clear hne
                go_wp2_with fail
                go_quiet (fail)
                go_wp2
                go_roundw
                case rel => exact ⟨k + 1, false, by omega, rfl, by go_num, HS2, by first | exact ⟨_, rfl⟩ | exact ⟨_, World.drewN_drewN _ _ _⟩⟩
                case measure => simp [intOf]; omega
          · obtain rfl : k = m := by omega
            have HBq := Lib.hid (belowDraws HB.out q)
            cases b with
            | true =>
              have HEQ := Lib.hid (show onM M L (wayL L a) = true by rw [HON.out, ext_of HLc.out HM.out (HS.out.1 rfl)]; exact on_eq M _)
              go_wp2
              go_ret2
              exact ⟨ret_ow HEQ.out rfl, HBq.out⟩
            | false =>
              have HNE := Lib.hid (show Lc ≠ M from fun h => by
                have := HS.out.2 (fun i _ => by rw [h])
                cases this)
              by_cases hf : fdW Lc a < Lc.length
              · have hmore := wayL_more HPc.out ha hf
                have hjm : fdW Lc a < k := by rw [← HLc.out]; exact hf
                obtain ⟨j, hj⟩ : ∃ j, fdW Lc a = j := ⟨_, rfl⟩
                rw [hj] at hjm
                have HMV := Lib.hid (show mvW Lc a = ((j : Int), Lc[j]?.getD 0, (goalsL Lc a)[j]?.getD 0) by unfold mvW; rw [hj])
                have HST := Lib.hid (show stepW Lc a = Lc.set j ((goalsL Lc a)[j]?.getD 0) by unfold stepW; rw [hj])
                have HW' := Lib.hid (show wayL L a = (pre ++ [mvW Lc a]) ++ wayL (stepW Lc a) a by rw [HW.out, hmore]; simp)
                have HLs := Lib.hid (show (stepW Lc a).length = k by rw [stepW_len]; exact HLc.out)
                have HPs := Lib.hid (stepW_pegs Lc a HPc.out ha)
                have HON' := Lib.hid (HON.out.trans (on_more HPc.out ha hf HNE.out))
                have hlt2 : pre.length < (wayL L a).length := by rw [HW.out, hmore]; simp
                obtain ⟨gw, rfl, hgw, v0, v1, v2⟩ := (OwnM.mvs HMv.out) pre.length hlt2
                have hat : (wayL L a)[pre.length]?.getD (0, 0, 0) = mvW Lc a := by
                  rw [HW.out, hmore]
                  simp
                rw [hat, HMV.out] at v0 v1 v2
                dsimp only at v0 v1 v2
                have hpl : ((pre.length : Int) == ((wayL L a).length : Int)) = false := by rw [beq_eq_false_iff_ne]; omega
                have hp0 : (0 : Int) ≤ (pre.length : Int) := by omega
                have hp1 : (pre.length : Int) < ((wayL L a).length : Int) := by omega
                have hj0 : (0 : Int) ≤ (j : Int) := by omega
                have hj1 : (j : Int) < (k : Int) := by omega
                obtain ⟨gn, rfl, hBn, hgnl, hcn⟩ := ownAtW HN.out HLc.out hjm
                have hfz := OwnG.frozen HN.out rfl j
                have hne := neW HN.out HMv.out (by decide)
                have hs1 : ((pre ++ [mvW Lc a]).length : Int) = (pre.length : Int) + 1 := by simp
                have HS1 := Lib.hid hs1
                clear hs1 hat hmore hf hj HS
                generalize hgj : (goalsL Lc a)[j]?.getD 0 = G at *
                go_wp2_with fail
                go_region
                go_wp2
                go_roundw
                case rel =>
                  refine ⟨stepW Lc a, pre ++ [mvW Lc a], by rw [HS1.out], HW', HLs, HPs, HON', ?_, ?_, ?_, ?_⟩
                  · have st := (World.ownsRow.stored (show OwnG 2 1 w.heap.size (wr.drewN (q + 1)) (some ⟨gn, 0, none⟩) k cn (Lc.map (Value.int .i64)) from HN.out) j (.int .i64 G)).1
                    rw [HST.out, List.map_set]
                    exact st
                  · exact OwnG.setBox (show OwnM w.heap.size (wr.drewN (q + 1)) (some ⟨gw, 0, none⟩) (wayL L a).length cw (wayL L a) from HMv.out) (by rintro _ h; injection h with h; injection h with h; subst h; exact fun h => hne h.symm) _
                  · exact (show Box (wr.drewN (q + 1)) (w.heap.size + 1) 30 #[.int .i64 3, .slice (some ae) k d] from HY.out).other (fun h => OwnG.ne_box HN.out HY.out (by decide) h.symm) _
                  · exact (belowDraws HB.out _).setCell hBn _
                case measure =>
                  have := HS1.out
                  simp [intOf]
                  omega
              · have hend : fdW Lc a = Lc.length := by have := fdW_le Lc a; omega
                have HEQ := Lib.hid (show onM M L (wayL L a) = false by rw [HON.out]; exact on_end hend HNE.out)
                have hpl : ((pre.length : Int) == ((wayL L a).length : Int)) = true := by
                  rw [beq_iff_eq, HW.out, wayL_end hend, List.append_nil]
                clear hf hend
                go_wp2
                go_ret2
                exact ⟨ret_ow HEQ.out rfl, HBq.out⟩
    · have e1 : owE 3 L a 3 M = 2 := by unfold owE; rw [if_pos hz, if_neg hia]
      have e2 : owV 3 L a 3 M = false := by unfold owV; rw [if_neg (fun h => hia h.2)]
      rw [e1] at hcw
      rw [e1, e2]
      have hcw' : (codeW 3 L a != 0) = true := by rw [hcw]; rfl
      have HCW := Lib.hid hcw
      clear hz hs ht hl e1 e2 hia hcw
      go_enter Try.func18, Try.ntmps18
      go_wp2_with fail
      refine (l02Code_two (w.heap.size + 1 + 1) (some ad) n c 3 L (some ae) m d 3 M _ Z0.out HL.out hn HI0.out HM.out hm HJ0.out).mono ?_
      rintro e w1 ⟨rfl, hb1⟩
      have X1 := Lib.hid (X0.out.below hb1 X0.out.lt)
      have HB1 := Lib.hid (HB0.out.trans (hb1.mono HB0.out.size))
      have HI1 := Lib.hid (HI0.out.below hb1)
      clear hb1
      obtain ⟨x0, x1, _, _⟩ := X1.out.two
      go_wp2_with fail
      refine (l02With_calls (some ad) n c 3 L a _ HL.out hn HI1.out).mono ?_
      rintro e w2 ⟨rfl, hb2⟩
      have HB2 := Lib.hid (HB1.out.trans (hb2.mono HB1.out.size))
      clear hb2 x0 x1
      go_wp2
      go_ret2
      exact ⟨ret_ow rfl HCW.out.symm, HB2.out⟩
  · have e1 : owE p L a q M = code2 p L q M := by unfold owE; rw [if_neg hz]
    have e2 : owV p L a q M = false := by unfold owV; rw [if_neg (fun h => hz h.1)]
    rw [e1, e2]
    have hz' : (code2 p L q M == 0) = false := by simpa using hz
    have hz2 : (code2 p L q M != 0) = true := by simpa using hz
    clear hz e1 e2
    go_enter Try.func18, Try.ntmps18
    go_wp2_with fail
    refine (l02Code_two (w.heap.size + 1 + 1) (some ad) n c p L (some ae) m d q M _ Z0.out HL.out hn HI0.out HM.out hm HJ0.out).mono ?_
    rintro e w1 ⟨rfl, hb1⟩
    have HB1 := Lib.hid (HB0.out.trans (hb1.mono HB0.out.size))
    clear hb1
    go_wp2
    go_ret2
    exact ⟨rfl, HB1.out⟩

end Go.Proofs.Ytmpmkhfbfaicpaa
