/- Contracts: IsOnWay, by the specification's model. · Contracts: the pegs of a state as an array. · Two arrays of eight numbers are compared. · Contracts: whether a state is perfect. -/
import Derived.Test.YtnbjnlgdolhlmaaPk4
import Derived.Test.YtnbjnlgdolhlmaaPk5
import Derived.Deep.RegionHeld3
import Derived.Test.YtnbjnlgdolhlmaaPk1
import Derived.Test.YtnbjnlgdolhlmaaPk2
import Derived.Laws.CopyOwn
import Derived.WalkLawsBesides
import Derived.Laws.Rows
import Derived.Test.YtnbjnlgdolhlmaaRows
import Derived.DeepKeys
import Derived.Laws.StructEq
namespace Go.Proofs.Ytnbjnlgdolhlmaa
open Go.RowKit
set_option linter.unusedVariables false

theorem cells2c {w : World} {b t : Nat} {u v : Value} (h : Box w b t #[u, v]) : w.cell? ⟨b, 0, none⟩ = some u ∧ w.cell? ⟨b, 1, none⟩ = some v := ⟨h.two.1, h.two.2.1⟩
theorem ret_ow {a b : Bool} {x y : Int} (h : a = b) (h' : x = y) : Ending.returned (.tuple #[.bool b, .int .i64 y]) = .returned (.tuple #[.bool a, .int .i64 x]) := by rw [h, h']
def smT (b : Bool) (L M : List Int) (k : Nat) : Prop := b = true ↔ ∀ i, i < k → L[i]?.getD 0 = M[i]?.getD 0
theorem smT_zero (L M : List Int) : smT true L M 0 := ⟨fun _ i hi => absurd hi (by omega), fun _ => rfl⟩
def RetOw (w : World) (b : Bool) (E : Int) (e : Ending) (w' : World) : Prop := e = .returned (.tuple #[.bool b, .int .i64 E]) ∧ Below w.heap.size w w'

set_option maxRecDepth 100000 in
set_option maxHeartbeats 4000000 in
theorem specIsOnWay_ret (A : Option Addr) (n c : Nat) (p : Int) (L : List Int) (a : Int) (D : Option Addr) (m d : Nat) (q : Int) (M : List Int) (w : World) (hL : L.length = n) (hn : n ≤ 1048576) (hA : A = none → c = 0) (hI : Ints w A L) (hM : M.length = m) (hm : m ≤ 1048576) (hD : D = none → d = 0) (hJ : Ints w D M) :
    Calls Try.prog 20 #[.agg #[.int .i64 p, .slice A n c], .int .i64 a, .agg #[.int .i64 q, .slice D m d]] w (RetOw w (owV p L a q M) (owE p L a q M)) := by
  have HL := Lib.hid hL
  have HNA := Lib.hid hA
  have HND := Lib.hid hD
  clear hA hD
  have HM := Lib.hid hM
  obtain ⟨b1, b2, b3⟩ := twoBoxes w p q A D n c m d 26
  have hbal := (Below.refl _ ((w.alloc (.cells #[.int .i64 p, .slice A n c] 26)).alloc (.cells #[.int .i64 q, .slice D m d] 26))).alloc (Nat.le_refl _) (.cells #[.int .i64 p, .slice A n c, .int .i64 q, .slice D m d] 26)
  have X0 := Lib.hid (b1.below hbal b1.lt)
  have Y0 := Lib.hid (b2.below hbal b2.lt)
  have hc0 := Box.new ((w.alloc (.cells #[.int .i64 p, .slice A n c] 26)).alloc (.cells #[.int .i64 q, .slice D m d] 26)) 26 #[.int .i64 p, .slice A n c, .int .i64 q, .slice D m d]
  simp only [World.size_alloc] at hc0
  have Z0 := Lib.hid hc0
  have HB0 := Lib.hid (b3.trans (hbal.mono b3.size))
  have HI0 := Lib.hid (hI.below HB0.out)
  have HJ0 := Lib.hid (hJ.below HB0.out)
  have HJW := Lib.hid hJ
  clear hL hM b1 b2 b3 hbal hc0 hI hJ
  by_cases hz : code2 p L q M = 0
  · have hcw := ow_codeW (a := a) hz
    have hz' : (code2 p L q M == 0) = true := by simpa using hz
    obtain ⟨hs, ht, hp, hq, hl⟩ := code2_zero hz
    subst hp hq
    by_cases hia : inB a 0 2 = true
    · have e1 : owE 3 L a 3 M = 0 := by unfold owE; rw [if_pos hz, if_pos hia]
      have e2 : owV 3 L a 3 M = onM M L (wayL L a) := by unfold owV; rw [if_pos ⟨hz, hia⟩]
      rw [e1] at hcw
      rw [e1, e2]
      have ha := inB_of hia
      have hmn : m = n := by rw [← HM.out, ← HL.out, hl]
      subst hmn
      have h8 := (state_facts hs HL.out).2.2.1
      have HP := Lib.hid (state_pegsOk hs)
      have HWB := Lib.hid (show (wayL L a).length ≤ 255 from wayL_bd (by rw [HL.out]; exact h8))
      have hcw' : (codeW 3 L a != 0) = false := by rw [hcw]; rfl
      clear hz hs ht hl e1 e2 hia
      go_enter Try.func20, Try.ntmps20
      go_wp2_with fail
      refine (l02Code_two (w.heap.size + 1 + 1) A m c 3 L D m d 3 M _ Z0.out HL.out hn HI0.out HM.out hn HJ0.out).mono ?_
      rintro e w1 ⟨rfl, hb1⟩
      have X1 := Lib.hid (X0.out.below hb1 X0.out.lt)
      have Y1 := Lib.hid (Y0.out.below hb1 Y0.out.lt)
      have HB1 := Lib.hid (HB0.out.trans (hb1.mono HB0.out.size))
      have HI1 := Lib.hid (HI0.out.below hb1)
      have HJ1 := Lib.hid (HJ0.out.below hb1)
      clear hb1
      obtain ⟨x0, x1, _, _⟩ := X1.out.two
      go_wp2_with fail
      refine (l02With_calls A m c 3 L a _ HL.out hn HI1.out).mono ?_
      rintro e w2 ⟨rfl, hb2⟩
      have X2 := Lib.hid (X1.out.below hb2 X1.out.lt)
      have Y2 := Lib.hid (Y1.out.below hb2 Y1.out.lt)
      have HB2 := Lib.hid (HB1.out.trans (hb2.mono HB1.out.size))
      have HI2 := Lib.hid (HI1.out.below hb2)
      have HJ2 := Lib.hid (HJ1.out.below hb2)
      have zx := X2.out.lt
      clear hb2 x0 x1
      obtain ⟨x0, x1, _, _⟩ := X2.out.two
      go_wp2_with fail
      go_region_held3 (fun w' => w'.cell? ⟨w.heap.size, 0, none⟩ = some (.int .i64 3) ∧ w'.cell? ⟨w.heap.size, 1, none⟩ = some (.slice A m c))
        (first | exact cells2c X2.out | exact cells2c X3.out | exact cells2c X4.out | go_keep)
        (first
        | (go_at_call 38; refine (l01Own_calls A m c L _ HL.out hn HNA.out ?_).mono ?_; (exact HI2.out); rintro e w3 ⟨An, cn, rfl, hO3, hb3⟩; have X3 := Lib.hid (Box.below X2.out (undrew hb3) zx))
        | (go_at_call 31; refine (l02Way_calls A m c L a _ HL.out h8 HNA.out ?_ HP.out ha).mono ?_; (exact HI2.out.below (undrew hb3)); rintro e w4 ⟨Aw, cw, rfl, hW4, hb4⟩; have X4 := Lib.hid (Box.below X3.out hb4 (Box.lt X3.out))))
      have HB3 := Lib.hid (HB2.out.trans ((undrew hb3).mono HB2.out.size))
      have HB4 := Lib.hid (HB3.out.trans (hb4.mono HB3.out.size))
      have HN4 := Lib.hid (show OwnG 2 1 w.heap.size w4 An m cn (L.map (Value.int .i64)) from (OwnG.mono (show OwnG 2 1 w2.heap.size w3 An m cn (L.map (Value.int .i64)) from hO3) HB2.out.size).below hb4)
      have HW4 := Lib.hid (OwnG.mono hW4 HB3.out.size)
      have Y4 := Lib.hid ((Y2.out.below (undrew hb3) Y2.out.lt).below hb4 (Y2.out.below (undrew hb3) Y2.out.lt).lt)
      have HJ4 := Lib.hid ((HJ2.out.below (undrew hb3)).below hb4)
      clear hb3 hb4 hO3 hW4 x0 x1 X3 X4 HB3
      have hY4 : Box w4 (w.heap.size + 1) 26 #[.int .i64 3, .slice D m d] := Y4.out
      clear X0 X1 X2 Y0 Y1 Y2 Y4 Z0 HB0 HB1 HB2 HI0 HI1 HI2 HJ0 HJ1 HJ2 HJ4 zx hz' hcw hcw'
      go_wp2
      go_loopw [11, 12, 13] (fun i _ _ wr => ∃ (Lc : List Int) (pre : List Mv), i = .int .i64 pre.length ∧ Hid (wayL L a = pre ++ wayL Lc a) ∧ Hid (Lc.length = m) ∧ Hid (pegsOk Lc) ∧ Hid (onM M L (wayL L a) = onM M Lc (wayL Lc a)) ∧ OwnG 2 1 w.heap.size wr An m cn (Lc.map (Value.int .i64)) ∧ OwnM w.heap.size wr Aw (wayL L a).length cw (wayL L a) ∧ Box wr (w.heap.size + 1) 26 #[.int .i64 3, .slice D m d] ∧ Below w.heap.size w wr) (fun i _ _ _ => (wayL L a).length - (intOf i).toNat)
      case atStart => exact ⟨L, [], rfl, Lib.hid rfl, HL, HP, Lib.hid rfl, HN4.out, HW4.out, hY4, HB4.out⟩
      case round =>
        obtain ⟨Lc, pre, rfl, HW, HLc, HPc, HON, hN, hM', hY, hb⟩ := hrel
        have HN := Lib.hid hN
        have HMv := Lib.hid hM'
        have HY := Lib.hid hY
        have HB := Lib.hid hb
        have HJr := Lib.hid (HJW.out.below hb)
        have hplen : pre.length ≤ (wayL L a).length := by rw [HW.out]; simp
        have HWB' := HWB.out
        clear hN hM' hb HN4 HW4 HB4
        go_wp2_with fail
        go_loopw [12, 13] (fun s j wr' => ∃ (k : Nat) (b : Bool), k ≤ m ∧ s = .bool b ∧ j = .int .i64 k ∧ Hid (smT b Lc M k) ∧ ∃ q, wr' = wr.drewN q) (fun _ j _ => m - (intOf j).toNat)
        case atStart => exact ⟨0, true, Nat.zero_le _, rfl, rfl, Lib.hid (smT_zero _ _), 0, rfl⟩
        case round =>
          obtain ⟨k, b, hk, rfl, rfl, HS, q, rfl⟩ := hrel
          by_cases hlt : k < m
          · obtain ⟨gn, rfl, hBn, hgnl, hcn⟩ := ownAtW HN.out HLc.out hlt
            obtain ⟨ad', rfl, haj, hcm⟩ := HJr.out k (by rw [HM.out]; exact hlt)
            rw [List.getD_eq_getElem?_getD] at hcm
            obtain ⟨y0, y1, _, _⟩ := HY.out.two
            have hk0 : (0 : Int) ≤ (k : Int) := by omega
            have hk1 : (k : Int) < (m : Int) := by omega
            cases b with
            | false =>
              have HS2 := Lib.hid (show smT false Lc M (k + 1) from ⟨fun h => (by cases h), fun h => HS.out.2 (fun i hi => h i (by omega))⟩)
              go_wp2_with fail
              go_quiet (fail)
              go_wp2
              go_roundw
              case rel => exact ⟨k + 1, false, by omega, rfl, by go_num, HS2, by first | exact ⟨_, rfl⟩ | exact ⟨_, World.drewN_drewN _ _ _⟩⟩
              case measure => simp [intOf]; omega
            | true =>
              by_cases hne : Lc[k]?.getD 0 = M[k]?.getD 0
              · have hte : (Lc[k]?.getD 0 == M[k]?.getD 0) = true := by simpa using hne
                have HS2 := Lib.hid (show smT true Lc M (k + 1) from ⟨fun _ i hi => by
                  by_cases h : i = k
                  · rw [h]; exact hne
                  · exact HS.out.1 rfl i (by omega), fun _ => rfl⟩)
                clear hne
                go_wp2_with fail
                go_quiet (fail)
                go_wp2
                go_roundw
                case rel => exact ⟨k + 1, true, by omega, rfl, by go_num, HS2, by first | exact ⟨_, rfl⟩ | exact ⟨_, World.drewN_drewN _ _ _⟩⟩
                case measure => simp [intOf]; omega
              · have hte : (Lc[k]?.getD 0 == M[k]?.getD 0) = false := by simpa using hne
                have HS2 := Lib.hid (show smT false Lc M (k + 1) from ⟨fun h => (by cases h), fun h => absurd (h k (by omega)) hne⟩)
                clear hne
                go_wp2_with fail
                go_quiet (fail)
                go_wp2
                go_roundw
                case rel => exact ⟨k + 1, false, by omega, rfl, by go_num, HS2, by first | exact ⟨_, rfl⟩ | exact ⟨_, World.drewN_drewN _ _ _⟩⟩
                case measure => simp [intOf]; omega
          · obtain rfl : k = m := by omega
            have HBq := Lib.hid (belowDraws HB.out q)
            cases b with
            | true =>
              have HEQ := Lib.hid (show onM M L (wayL L a) = true by rw [HON.out, ext_of HLc.out HM.out (HS.out.1 rfl)]; exact on_eq M _)
              go_wp2
              go_ret2
              exact ⟨ret_ow HEQ.out rfl, HBq.out⟩
            | false =>
              have HNE := Lib.hid (show Lc ≠ M from fun h => by
                have := HS.out.2 (fun i _ => by rw [h])
                cases this)
              by_cases hf : fdW Lc a < Lc.length
              · have hmore := wayL_more HPc.out ha hf
                have hjm : fdW Lc a < k := by rw [← HLc.out]; exact hf
                obtain ⟨j, hj⟩ : ∃ j, fdW Lc a = j := ⟨_, rfl⟩
                rw [hj] at hjm
                have HMV := Lib.hid (show mvW Lc a = ((j : Int), Lc[j]?.getD 0, (goalsL Lc a)[j]?.getD 0) by unfold mvW; rw [hj])
                have HST := Lib.hid (show stepW Lc a = Lc.set j ((goalsL Lc a)[j]?.getD 0) by unfold stepW; rw [hj])
                have HW' := Lib.hid (show wayL L a = (pre ++ [mvW Lc a]) ++ wayL (stepW Lc a) a by rw [HW.out, hmore]; simp)
                have HLs := Lib.hid (show (stepW Lc a).length = k by rw [stepW_len]; exact HLc.out)
                have HPs := Lib.hid (stepW_pegs Lc a HPc.out ha)
                have HON' := Lib.hid (HON.out.trans (on_more HPc.out ha hf HNE.out))
                have hlt2 : pre.length < (wayL L a).length := by rw [HW.out, hmore]; simp
                obtain ⟨gw, rfl, hgw, v0, v1, v2⟩ := (OwnM.mvs HMv.out) pre.length hlt2
                have hat : (wayL L a)[pre.length]?.getD (0, 0, 0) = mvW Lc a := by
                  rw [HW.out, hmore]
                  simp
                rw [hat, HMV.out] at v0 v1 v2
                dsimp only at v0 v1 v2
                have hpl : ((pre.length : Int) == ((wayL L a).length : Int)) = false := by rw [beq_eq_false_iff_ne]; omega
                have hp0 : (0 : Int) ≤ (pre.length : Int) := by omega
                have hp1 : (pre.length : Int) < ((wayL L a).length : Int) := by omega
                have hj0 : (0 : Int) ≤ (j : Int) := by omega
                have hj1 : (j : Int) < (k : Int) := by omega
                obtain ⟨gn, rfl, hBn, hgnl, hcn⟩ := ownAtW HN.out HLc.out hjm
                have hfz := OwnG.frozen HN.out rfl j
                have hne := neW HN.out HMv.out (by decide)
                have hs1 : ((pre ++ [mvW Lc a]).length : Int) = (pre.length : Int) + 1 := by simp
                have HS1 := Lib.hid hs1
                clear hs1 hat hmore hf hj HS
                generalize hgj : (goalsL Lc a)[j]?.getD 0 = G at *
                go_wp2_with fail
                go_region
                go_wp2
                go_roundw
                case rel =>
                  refine ⟨stepW Lc a, pre ++ [mvW Lc a], by rw [HS1.out], HW', HLs, HPs, HON', ?_, ?_, ?_, ?_⟩
                  · have st := (World.ownsRow.stored (show OwnG 2 1 w.heap.size (wr.drewN (q + 1)) (some ⟨gn, 0, none⟩) k cn (Lc.map (Value.int .i64)) from HN.out) j (.int .i64 G)).1
                    rw [HST.out, List.map_set]
                    exact st
                  · exact OwnG.setBox (show OwnM w.heap.size (wr.drewN (q + 1)) (some ⟨gw, 0, none⟩) (wayL L a).length cw (wayL L a) from HMv.out) (by rintro _ h; injection h with h; injection h with h; subst h; exact fun h => hne h.symm) _
                  · exact (show Box (wr.drewN (q + 1)) (w.heap.size + 1) 26 #[.int .i64 3, .slice D k d] from HY.out).other (fun h => OwnG.ne_box HN.out HY.out (by decide) h.symm) _
                  · exact (belowDraws HB.out _).setCell hBn _
                case measure =>
                  have := HS1.out
                  simp [intOf]
                  omega
              · have hend : fdW Lc a = Lc.length := by have := fdW_le Lc a; omega
                have HEQ := Lib.hid (show onM M L (wayL L a) = false by rw [HON.out]; exact on_end hend HNE.out)
                have hpl : ((pre.length : Int) == ((wayL L a).length : Int)) = true := by
                  rw [beq_iff_eq, HW.out, wayL_end hend, List.append_nil]
                clear hf hend
                go_wp2
                go_ret2
                exact ⟨ret_ow HEQ.out rfl, HBq.out⟩
    · have e1 : owE 3 L a 3 M = 2 := by unfold owE; rw [if_pos hz, if_neg hia]
      have e2 : owV 3 L a 3 M = false := by unfold owV; rw [if_neg (fun h => hia h.2)]
      rw [e1] at hcw
      rw [e1, e2]
      have hcw' : (codeW 3 L a != 0) = true := by rw [hcw]; rfl
      have HCW := Lib.hid hcw
      clear hz hs ht hl e1 e2 hia hcw
      go_enter Try.func20, Try.ntmps20
      go_wp2_with fail
      refine (l02Code_two (w.heap.size + 1 + 1) A n c 3 L D m d 3 M _ Z0.out HL.out hn HI0.out HM.out hm HJ0.out).mono ?_
      rintro e w1 ⟨rfl, hb1⟩
      have X1 := Lib.hid (X0.out.below hb1 X0.out.lt)
      have HB1 := Lib.hid (HB0.out.trans (hb1.mono HB0.out.size))
      have HI1 := Lib.hid (HI0.out.below hb1)
      clear hb1
      obtain ⟨x0, x1, _, _⟩ := X1.out.two
      go_wp2_with fail
      refine (l02With_calls A n c 3 L a _ HL.out hn HI1.out).mono ?_
      rintro e w2 ⟨rfl, hb2⟩
      have HB2 := Lib.hid (HB1.out.trans (hb2.mono HB1.out.size))
      clear hb2 x0 x1
      go_wp2
      go_ret2
      exact ⟨ret_ow rfl HCW.out.symm, HB2.out⟩
  · have e1 : owE p L a q M = code2 p L q M := by unfold owE; rw [if_neg hz]
    have e2 : owV p L a q M = false := by unfold owV; rw [if_neg (fun h => hz h.1)]
    rw [e1, e2]
    have hz' : (code2 p L q M == 0) = false := by simpa using hz
    have hz2 : (code2 p L q M != 0) = true := by simpa using hz
    clear hz e1 e2
    go_enter Try.func20, Try.ntmps20
    go_wp2_with fail
    refine (l02Code_two (w.heap.size + 1 + 1) A n c p L D m d q M _ Z0.out HL.out hn HI0.out HM.out hm HJ0.out).mono ?_
    rintro e w1 ⟨rfl, hb1⟩
    have HB1 := Lib.hid (HB0.out.trans (hb1.mono HB0.out.size))
    clear hb1
    go_wp2
    go_ret2
    exact ⟨rfl, HB1.out⟩

end Go.Proofs.Ytnbjnlgdolhlmaa

namespace Go.Proofs.Ytnbjnlgdolhlmaa
open Go.RowKit
set_option linter.unusedVariables false

theorem Try.sizeI2 : (Try.prog.info? 2).map (·.size) = some 1 := by kernel_rfl

/-- Eight numbers: those of the list, then noughts. -/
def padI (L : List Int) (i : Nat) : Int := L[i]?.getD 0
def padV (L : List Int) (i : Nat) : Value := .int .i64 (padI L i)
theorem pad_splice {L : List Int} (h : L.length ≤ 8) : ∀ i, i < 8 → (splice (List.replicate 8 (Value.int .i64 0)) 0 (L.map (Value.int .i64)))[i]? = some (padV L i) := by
  intro i hi
  unfold splice padV padI
  rw [List.take_zero, List.nil_append, Nat.zero_add]
  by_cases hl : i < L.length
  · rw [List.getElem?_append_left (by simpa using hl)]
    simp [hl]
  · rw [List.getElem?_append_right (by simp; omega)]
    have e : L[i]?.getD 0 = 0 := by rw [List.getElem?_eq_none (by omega)]; rfl
    rw [e, List.getElem?_drop, List.getElem?_replicate, if_pos (by simp; omega)]
/-- A list of eight. -/
theorem list8 {l : List Value} (h : l.length = 8) {f : Nat → Value} (hf : ∀ i, i < 8 → l[i]? = some (f i)) : l = [f 0, f 1, f 2, f 3, f 4, f 5, f 6, f 7] := by
  apply List.ext_getElem?
  intro i
  by_cases hi : i < 8
  · rw [hf i hi]
    have : i = 0 ∨ i = 1 ∨ i = 2 ∨ i = 3 ∨ i = 4 ∨ i = 5 ∨ i = 6 ∨ i = 7 := by omega
    rcases this with rfl | rfl | rfl | rfl | rfl | rfl | rfl | rfl <;> rfl
  · rw [List.getElem?_eq_none (by omega), List.getElem?_eq_none (by simp; omega)]

theorem box8 {w : World} {g t : Nat} {l : List Value} {a b c d e f x y : Value} (h : l = [a, b, c, d, e, f, x, y]) (hb : Hid (w.heap[g]? = some (.cells l.toArray t (0, 0)))) : Box w g t #[a, b, c, d, e, f, x, y] := by
  subst h
  exact hb.out
theorem cells8 {w : World} {g t : Nat} {a b c d e f x y : Value} (h : Box w g t #[a, b, c, d, e, f, x, y]) :
    w.cell? ⟨g, 0, none⟩ = some a ∧ w.cell? ⟨g, 1, none⟩ = some b ∧ w.cell? ⟨g, 2, none⟩ = some c ∧ w.cell? ⟨g, 3, none⟩ = some d ∧ w.cell? ⟨g, 4, none⟩ = some e ∧ w.cell? ⟨g, 5, none⟩ = some f ∧ w.cell? ⟨g, 6, none⟩ = some x ∧ w.cell? ⟨g, 7, none⟩ = some y :=
  ⟨h.cell 0, h.cell 1, h.cell 2, h.cell 3, h.cell 4, h.cell 5, h.cell 6, h.cell 7⟩

set_option maxHeartbeats 1000000 in
theorem pegsOf_calls (A : Option Addr) (n c : Nat) (p : Int) (L : List Int) (w : World) (hL : L.length = n) (hn : n ≤ 8) (hI : Ints w A L) :
    Calls Try.prog 40 #[.agg #[.int .i64 p, .slice A n c]] w fun e w' => e = .returned (.agg #[.int .i64 (padI L 0), .int .i64 (padI L 1), .int .i64 (padI L 2), .int .i64 (padI L 3), .int .i64 (padI L 4), .int .i64 (padI L 5), .int .i64 (padI L 6), .int .i64 (padI L 7)]) ∧ Below w.heap.size w w' := by
  have hmk0 := run_make_row' (P := Try.prog) 24 2 (.int .i64 0) 8 Try.underlying24 Try.infoI rfl .i64 .i64 8 (by omega) (by omega)
  obtain ⟨Z, HZ⟩ : ∃ Z : List Value, Hid (Z = List.replicate 8 (Value.int .i64 0)) := ⟨_, rfl⟩
  have hmc : madeCells #[Value.int .i64 0] 8 = Z.toArray := by
    apply Array.ext'
    rw [toList_madeCells_one, HZ.out]
  rw [hmc] at hmk0
  have hmk : ∀ W : World, (Instr.makeSlice 24 (.int .i64 8) (.int .i64 8)).run Try.prog W = .ok (.slice (some ⟨W.heap.size, 0, none⟩) 8 8) (W.alloc (.cells Z.toArray 2)) := hmk0
  clear hmk0 hmc
  have HL : Hid (L.length = n) := hL
  have hzl : Hid (Z.length = 8) := by unfold Hid; rw [HZ.out]; simp
  have HG : Hid ((((w.alloc (.cells #[.int .i64 p, .slice A n c] 26)).alloc (.cells #[.int .i64 0, .int .i64 0, .int .i64 0, .int .i64 0, .int .i64 0, .int .i64 0, .int .i64 0, .int .i64 0] 66)).alloc (.cells Z.toArray 2)).heap[w.heap.size + 1 + 1]? = some (.cells Z.toArray 2 (0, 0))) := by
    have := Box.new ((w.alloc (.cells #[.int .i64 p, .slice A n c] 26)).alloc (.cells #[.int .i64 0, .int .i64 0, .int .i64 0, .int .i64 0, .int .i64 0, .int .i64 0, .int .i64 0, .int .i64 0] 66)) 2 Z.toArray
    simp only [World.size_alloc] at this
    exact this
  have HB : Hid (Below w.heap.size w (((w.alloc (.cells #[.int .i64 p, .slice A n c] 26)).alloc (.cells #[.int .i64 0, .int .i64 0, .int .i64 0, .int .i64 0, .int .i64 0, .int .i64 0, .int .i64 0, .int .i64 0] 66)).alloc (.cells Z.toArray 2))) := (((Below.refl _ _).alloc (Nat.le_refl _) _).alloc (by simp) _).alloc (by simp; omega) _
  have HR : Hid (Box (((w.alloc (.cells #[.int .i64 p, .slice A n c] 26)).alloc (.cells #[.int .i64 0, .int .i64 0, .int .i64 0, .int .i64 0, .int .i64 0, .int .i64 0, .int .i64 0, .int .i64 0] 66)).alloc (.cells Z.toArray 2)) (w.heap.size + 1) 66 #[.int .i64 0, .int .i64 0, .int .i64 0, .int .i64 0, .int .i64 0, .int .i64 0, .int .i64 0, .int .i64 0]) := by
    have := Box.new (w.alloc (.cells #[.int .i64 p, .slice A n c] 26)) 66 #[.int .i64 0, .int .i64 0, .int .i64 0, .int .i64 0, .int .i64 0, .int .i64 0, .int .i64 0, .int .i64 0]
    rw [World.size_alloc] at this
    exact this.alloc _
  have HPOS : Hid (0 < (L.map (Value.int .i64)).length → (some (⟨w.heap.size + 1 + 1, 0, none⟩ : Addr)) = some ⟨w.heap.size + 1 + 1, 0, none⟩ ∧ ∃ ad, A = some ad ∧ ∀ j v, (L.map (Value.int .i64))[j]? = some v → (((w.alloc (.cells #[.int .i64 p, .slice A n c] 26)).alloc (.cells #[.int .i64 0, .int .i64 0, .int .i64 0, .int .i64 0, .int .i64 0, .int .i64 0, .int .i64 0, .int .i64 0] 66)).alloc (.cells Z.toArray 2)).cell? (ad.add j) = some v) := by
    intro h
    refine ⟨rfl, ?_⟩
    obtain ⟨ad, rfl, _⟩ := hI 0 (by simpa using h)
    exact ⟨ad, rfl, (hI.below HB.out).news⟩
  have HS : Hid ((L.map (Value.int .i64)).length = Nat.min n 8) := by unfold Hid; rw [List.length_map, HL.out]; exact (Nat.min_eq_left hn).symm
  have HF : Hid (0 + (L.map (Value.int .i64)).length ≤ Z.length) := by unfold Hid; rw [hzl.out]; simp [HL.out]; exact hn
  have HPD : Hid (splice Z 0 (L.map (Value.int .i64)) = [.int .i64 (padI L 0), .int .i64 (padI L 1), .int .i64 (padI L 2), .int .i64 (padI L 3), .int .i64 (padI L 4), .int .i64 (padI L 5), .int .i64 (padI L 6), .int .i64 (padI L 7)]) := by
    unfold Hid
    rw [HZ.out]
    exact list8 (by rw [length_splice _ _ _ (by simp [HL.out]; exact hn)]; simp) (pad_splice (L := L) (by rw [hL]; exact hn))
  have hat := fun W : World => run_arrayAt (P := Try.prog) (w := W) 66 2 8 (some ⟨w.heap.size + 1 + 1, 0, none⟩) 8 8 Try.underlying66 (Nat.le_refl _)
  clear hI hL
  go_enter Try.func40, Try.ntmps40
  go_wp2_with (with_reducible refine wpList_copy_splice rfl (.tmp 5) (.tmp 7) 24 24 rfl 2 Try.underlying24 Try.sizeI2 (some ⟨w.heap.size + 1 + 1, 0, none⟩) A 8 8 n c rfl rfl (w.heap.size + 1 + 1) 0 Z 2 HG.out (L.map (Value.int .i64)) HS.out HPOS.out HF.out (ints_oneCell _ _) (w.heap.size + 1 + 1) _ (Below.refl _ _) (Nat.le_refl _) ?_; intro w1 hg1 hb1; have HR1 := Lib.hid (Box.below HR.out hb1 (by omega)); have HB1 := Lib.hid (HB.out.trans (hb1.mono (by omega))); clear hb1; have HX := Lib.hid (box8 (HPD.out) hg1); obtain ⟨x0, x1, x2, x3, x4, x5, x6, x7⟩ := cells8 HX.out; obtain ⟨r0, r1, r2, r3, r4, r5, r6, r7⟩ := cells8 HR1.out; have f0 := HR1.out.frozen 0; have f1 := HR1.out.frozen 1; have f2 := HR1.out.frozen 2; have f3 := HR1.out.frozen 3; have f4 := HR1.out.frozen 4; have f5 := HR1.out.frozen 5; have f6 := HR1.out.frozen 6; have f7 := HR1.out.frozen 7)
  generalize padI L 0 = p0 at *
  generalize padI L 1 = p1 at *
  generalize padI L 2 = p2 at *
  generalize padI L 3 = p3 at *
  generalize padI L 4 = p4 at *
  generalize padI L 5 = p5 at *
  generalize padI L 6 = p6 at *
  generalize padI L 7 = p7 at *
  clear x0 x1 x2 x3 x4 x5 x6 x7 hmk hat
  have hbx := Lib.hid ((((((((HR1.out.set 0 (.int .i64 p0)).set 1 (.int .i64 p1)).set 2 (.int .i64 p2)).set 3 (.int .i64 p3)).set 4 (.int .i64 p4)).set 5 (.int .i64 p5)).set 6 (.int .i64 p6)).set 7 (.int .i64 p7))
  refine bodyPost_ret (results_cell_row rfl _ _ (w.heap.size + 1) 66 #[.int .i64 p0, .int .i64 p1, .int .i64 p2, .int .i64 p3, .int .i64 p4, .int .i64 p5, .int .i64 p6, .int .i64 p7] (0, 0) _ rfl hbx.out Try.underlying66 rfl (by kernel_rfl)) rfl ⟨rfl, ?_⟩
  exact ((((((((HB1.out.setCell (by simp) _).setCell (by simp) _).setCell (by simp) _).setCell (by simp) _).setCell (by simp) _).setCell (by simp) _).setCell (by simp) _).setCell (by simp) _)

end Go.Proofs.Ytnbjnlgdolhlmaa

namespace Go.Proofs.Ytnbjnlgdolhlmaa
open Go.RowKit
set_option linter.unusedVariables false

theorem cells8A : Try.prog.cellsOf 66 = 8 := by kernel_rfl
theorem cells1A : Try.prog.cellsOf 2 = 1 := by kernel_rfl
theorem keyT8 : Try.prog.keyTypeAt 2 66 = true := by kernel_rfl

def arr8 (f : Nat → Int) : Array Value := #[.int .i64 (f 0), .int .i64 (f 1), .int .i64 (f 2), .int .i64 (f 3), .int .i64 (f 4), .int .i64 (f 5), .int .i64 (f 6), .int .i64 (f 7)]
def lits8 (f : Nat → Int) : List Lit := [.int .i64 (f 0), .int .i64 (f 1), .int .i64 (f 2), .int .i64 (f 3), .int .i64 (f 4), .int .i64 (f 5), .int .i64 (f 6), .int .i64 (f 7)]

theorem keyLits8 (f : Nat → Int) (h : ∀ i, i < 8 → (Lit.int .i64 (f i)).wf = true) : Try.prog.keyLits 2 66 (Value.agg (arr8 f)).cells.toList = some (lits8 f) := by
  have one : ∀ i, i < 8 → Try.prog.keyLits 1 2 [.int .i64 (f i)] = some [.int .i64 (f i)] := by
    intro i hi
    simp [Program.keyLits, Try.underlying2, h i hi]
  have e0 := one 0 (by omega)
  have e1 := one 1 (by omega)
  have e2 := one 2 (by omega)
  have e3 := one 3 (by omega)
  have e4 := one 4 (by omega)
  have e5 := one 5 (by omega)
  have e6 := one 6 (by omega)
  have e7 := one 7 (by omega)
  unfold Program.keyLits
  simp [Try.underlying66, cells8A, cells1A, arr8, lits8, Value.cells, List.range_succ, e0, e1, e2, e3, e4, e5, e6, e7]

theorem eq8 (f g : Nat → Int) (hf : ∀ i, i < 8 → (Lit.int .i64 (f i)).wf = true) (hg : ∀ i, i < 8 → (Lit.int .i64 (g i)).wf = true) (W : World) :
    ∃ r : Bool, (Op.equalIn 10000 66 (.agg (arr8 f)) (.agg (arr8 g))).run Try.prog W = .ok r W ∧ (r = true ↔ lits8 f = lits8 g) := by
  have E := run_equalIn_deep (P := Try.prog) 9998 2 66 keyT8
  exact E W 2 2 (.agg (arr8 f)) (.agg (arr8 g)) _ _ (by simp [Value.formed, Try.underlying66, arr8, cells8A]) (by simp [Value.formed, Try.underlying66, arr8, cells8A]) (keyLits8 f hf) (keyLits8 g hg)

theorem eq8_yes (f g : Nat → Int) (hf : ∀ i, i < 8 → (Lit.int .i64 (f i)).wf = true) (hg : ∀ i, i < 8 → (Lit.int .i64 (g i)).wf = true) (h : ∀ i, i < 8 → f i = g i) (W : World) :
    (Op.equalIn 10000 66 (.agg #[.int .i64 (f 0), .int .i64 (f 1), .int .i64 (f 2), .int .i64 (f 3), .int .i64 (f 4), .int .i64 (f 5), .int .i64 (f 6), .int .i64 (f 7)]) (.agg #[.int .i64 (g 0), .int .i64 (g 1), .int .i64 (g 2), .int .i64 (g 3), .int .i64 (g 4), .int .i64 (g 5), .int .i64 (g 6), .int .i64 (g 7)])).run Try.prog W = .ok true W := by
  obtain ⟨r, hr, hi⟩ := eq8 f g hf hg W
  have : r = true := hi.2 (by unfold lits8; rw [h 0 (by omega), h 1 (by omega), h 2 (by omega), h 3 (by omega), h 4 (by omega), h 5 (by omega), h 6 (by omega), h 7 (by omega)])
  subst this
  exact hr
theorem eq8_no (f g : Nat → Int) (hf : ∀ i, i < 8 → (Lit.int .i64 (f i)).wf = true) (hg : ∀ i, i < 8 → (Lit.int .i64 (g i)).wf = true) {k : Nat} (hk : k < 8) (h : f k ≠ g k) (W : World) :
    (Op.equalIn 10000 66 (.agg #[.int .i64 (f 0), .int .i64 (f 1), .int .i64 (f 2), .int .i64 (f 3), .int .i64 (f 4), .int .i64 (f 5), .int .i64 (f 6), .int .i64 (f 7)]) (.agg #[.int .i64 (g 0), .int .i64 (g 1), .int .i64 (g 2), .int .i64 (g 3), .int .i64 (g 4), .int .i64 (g 5), .int .i64 (g 6), .int .i64 (g 7)])).run Try.prog W = .ok false W := by
  obtain ⟨r, hr, hi⟩ := eq8 f g hf hg W
  have : r = false := by
    cases r
    · rfl
    · have e := hi.1 rfl
      unfold lits8 at e
      simp only [List.cons.injEq, Lit.int.injEq, true_and, and_true] at e
      have hk' : k = 0 ∨ k = 1 ∨ k = 2 ∨ k = 3 ∨ k = 4 ∨ k = 5 ∨ k = 6 ∨ k = 7 := by omega
      rcases hk' with rfl | rfl | rfl | rfl | rfl | rfl | rfl | rfl <;> exact absurd (by omega) h
  subst this
  exact hr

end Go.Proofs.Ytnbjnlgdolhlmaa

namespace Go.Proofs.Ytnbjnlgdolhlmaa
open Go.RowKit
set_option linter.unusedVariables false

def allEq (L : List Int) : Bool := L.all (fun x => x == L.getD 0 0)
def ipV (p : Int) (L : List Int) : Bool := stateB p L && allEq L
theorem ret_bi {a b : Bool} {x y : Int} (h : a = b) (h' : x = y) : Ending.returned (.tuple #[.bool b, .int .i64 y]) = .returned (.tuple #[.bool a, .int .i64 x]) := by rw [h, h']
theorem allEq_no {L : List Int} {k : Nat} (hk : k < L.length) (h : L.getD k 0 ≠ L.getD 0 0) : allEq L = false := by
  unfold allEq
  rw [List.all_eq_false]
  refine ⟨L[k], List.getElem_mem hk, ?_⟩
  rw [List.getD_eq_getElem?_getD, List.getElem?_eq_getElem hk] at h
  simpa using h
theorem allEq_yes {L : List Int} (h : ∀ k, k < L.length → L.getD k 0 = L.getD 0 0) : allEq L = true := by
  unfold allEq
  rw [List.all_eq_true]
  intro x hx
  obtain ⟨i, hi, rfl⟩ := List.getElem_of_mem hx
  have := h i hi
  rw [List.getD_eq_getElem?_getD, List.getElem?_eq_getElem hi] at this
  simpa using this

theorem padI_bd {p : Int} {L : List Int} (h : stateB p L = true) (i : Nat) : 0 ≤ padI L i ∧ padI L i ≤ 4 := by
  obtain ⟨h3, h5, _, _⟩ := state_facts h rfl
  unfold padI
  by_cases hi : i < L.length
  · have := state_at h i hi; omega
  · rw [List.getElem?_eq_none (by omega)]; simp
theorem padI_rep (n : Nat) (a : Int) (i : Nat) : padI (List.replicate n a) i = if i < n then a else 0 := by
  unfold padI
  rw [List.getElem?_replicate]
  split <;> rfl
theorem wfOf {x : Int} (h : 0 ≤ x ∧ x ≤ 1000) : (Lit.int .i64 x).wf = true := WalkArith.wf_i64 (by omega)
theorem pad_ne {L : List Int} {n : Nat} {a : Int} (hL : L.length = n) (hn : n ≤ 8) (h : L ≠ List.replicate n a) : ∃ k, k < 8 ∧ padI L k ≠ padI (List.replicate n a) k := by
  apply Classical.byContradiction
  intro hc
  apply h
  apply List.ext_getElem (by simp [hL])
  intro i h1 h2
  have : padI L i = padI (List.replicate n a) i := by
    apply Classical.byContradiction
    intro hne
    exact hc ⟨i, by omega, hne⟩
  unfold padI at this
  rw [List.getElem?_eq_getElem h1, List.getElem?_eq_getElem h2] at this
  simpa using this
theorem rep_of_all {L : List Int} {n : Nat} (hL : L.length = n) (h : allEq L = true) : L = List.replicate n (L.getD 0 0) := by
  rw [List.eq_replicate_iff]
  refine ⟨hL, fun x hx => ?_⟩
  unfold allEq at h
  rw [List.all_eq_true] at h
  simpa using h x hx
theorem all_of_rep {L : List Int} {n : Nat} {a : Int} (h : L = List.replicate n a) : allEq L = true := by
  subst h
  unfold allEq
  rw [List.all_eq_true]
  intro x hx
  obtain ⟨h1, rfl⟩ := List.mem_replicate.1 hx
  simp
  cases n with
  | zero => exact absurd rfl h1
  | succ n => rfl

end Go.Proofs.Ytnbjnlgdolhlmaa
