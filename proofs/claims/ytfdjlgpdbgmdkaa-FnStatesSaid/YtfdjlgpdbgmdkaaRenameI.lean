/- Contracts: RenamePegs, by the program. -/
import Derived.Test.YtfdjlgpdbgmdkaaRename
import Derived.Test.YtfdjlgpdbgmdkaaDone
import Derived.StillTailTactics
namespace Go.Proofs.Ytfdjlgpdbgmdkaa
open Go.RowKit
set_option linter.unusedVariables false

/-- The list, its first j renamed. -/
def mxR (L P : List Int) (j : Nat) : List Int := rnL (L.take j) P ++ L.drop j
theorem mxR_zero (L P : List Int) : mxR L P 0 = L := by simp [mxR, rnL]
theorem mxR_len (L P : List Int) (j : Nat) : (mxR L P j).length = L.length := by unfold mxR rnL; simp; omega
theorem mxR_all {L P : List Int} {n : Nat} (h : L.length = n) : mxR L P n = rnL L P := by
  unfold mxR
  rw [List.take_of_length_le (by omega), List.drop_of_length_le (by omega), List.append_nil]
theorem mxR_step {L P : List Int} {j x : Nat} (hj : j < L.length) (hx : L[j]?.getD 0 = x) : (mxR L P j).set j (P[x]?.getD 0) = mxR L P (j + 1) := by
  unfold mxR
  have hl : (rnL (L.take j) P).length = j := by unfold rnL; simp; omega
  rw [rnL_take hj hx, List.set_append_right _ _ (by omega), hl, Nat.sub_self, List.drop_eq_getElem_cons hj, List.set_cons_zero, List.append_assoc]
  rfl

set_option maxHeartbeats 4000000 in
set_option maxRecDepth 100000 in
theorem implRenamePegs_ret (p : Int) (A : Option Addr) (n c : Nat) (L : List Int) (B : Option Addr) (m d : Nat) (P : List Int) (w : World) (hL : L.length = n) (hn : n ≤ 1048576) (hI : Ints w A L) (hP : P.length = m) (hm : m ≤ 1048576) (hJ : Ints w B P) :
    Calls Try.prog 17 #[.agg #[.int .i64 p, .slice A n c], .slice B m d] w (RetState w (rpP p L P) (rpV p L P).length (rpV p L P) (rpE p L P)) := by
  have HL := Lib.hid hL
  have HP := Lib.hid hP
  have hX : Box ((w.alloc (.cells #[.int .i64 p, .slice A n c] 26)).alloc (.cells #[.int .i64 0, .slice none 0 0] 26)) w.heap.size 26 #[.int .i64 p, .slice A n c] := (Box.new _ _ _).alloc _
  have hZ : Box ((w.alloc (.cells #[.int .i64 p, .slice A n c] 26)).alloc (.cells #[.int .i64 0, .slice none 0 0] 26)) (w.heap.size + 1) 26 #[.int .i64 0, .slice none 0 0] := by
    have := Box.new (w.alloc (.cells #[.int .i64 p, .slice A n c] 26)) 26 #[.int .i64 0, .slice none 0 0]
    rwa [World.size_alloc] at this
  have X0 := Lib.hid hX
  have Z0 := Lib.hid hZ
  have HB0 := Lib.hid (((Below.refl w.heap.size w).alloc (Nat.le_refl _) (.cells #[.int .i64 p, .slice A n c] 26)).alloc (by simp) (.cells #[.int .i64 0, .slice none 0 0] 26))
  have hs0 : w.heap.size + 1 < ((w.alloc (.cells #[.int .i64 p, .slice A n c] 26)).alloc (.cells #[.int .i64 0, .slice none 0 0] 26)).heap.size := hZ.lt
  have HI0 := Lib.hid (hI.below HB0.out)
  have HJ0 := Lib.hid (hJ.below HB0.out)
  have HIw := Lib.hid hI
  have HJw := Lib.hid hJ
  clear hX hZ hI hJ
  by_cases hs : stateB p L = true
  · have hf := state_facts hs hL
    by_cases hpm : permB p P = true
    · obtain ⟨q1, q2, q3⟩ := rp_yes hs hpm
      rw [q1, q2, q3]
      have hmK := perm_len hpm
      rw [hP] at hmK
      have HS := Lib.hid hs
      have HMK := Lib.hid hmK
      have HRL := Lib.hid (show (rnL L P).length = n by unfold rnL; rw [List.length_map, HL.out])
      clear hL hP q1 q2 q3 hmK
      go_enter Try.func17, Try.ntmps17
      go_wp2_with fail
      refine (implIsState_calls A n c p L _ HL.out hn HI0.out).mono ?_
      rintro e w1 ⟨rfl, hb1⟩
      have X1 := Lib.hid (X0.out.below hb1 X0.out.lt)
      have Z1 := Lib.hid (Z0.out.below hb1 Z0.out.lt)
      have HB1 := Lib.hid (HB0.out.trans (hb1.mono HB0.out.size))
      have HI1 := Lib.hid (HI0.out.below hb1)
      have HJ1 := Lib.hid (HJ0.out.below hb1)
      clear hb1
      obtain ⟨x1a, x1b, _, _⟩ := X1.out.two
      obtain ⟨z1a, z1b, f1a, f1b⟩ := Z1.out.two
      go_wp2_with fail
      refine (isPegList_calls p B m d P _ (by omega) HP.out hm HJ1.out).mono ?_
      rintro e w2 ⟨rfl, hb2⟩
      clear x1a x1b z1a z1b f1a f1b
      have X2 := Lib.hid (X1.out.below hb2 X1.out.lt)
      have Z2 := Lib.hid (Z1.out.below hb2 Z1.out.lt)
      have HB2 := Lib.hid (HB1.out.trans (hb2.mono HB1.out.size))
      have HI2 := Lib.hid (HI1.out.below hb2)
      have HJ2 := Lib.hid (HJ1.out.below hb2)
      clear hb2
      obtain ⟨x2a, x2b, _, _⟩ := X2.out.two
      obtain ⟨z2a, z2b, f2a, f2b⟩ := Z2.out.two
      go_wp2_with fail
      refine (copyOfState_calls A n c p L _ HL.out hn HI2.out).mono ?_
      rintro e w3 ⟨A3, c3, rfl, hcc, hcm, hO, hb3⟩
      have hsz3 : w.heap.size + 1 < w3.heap.size := Nat.lt_of_lt_of_le Z2.out.lt hb3.size
      have HO3 := Lib.hid ((hO.mono (B' := w.heap.size + 2) (by have := Z2.out.lt; omega)).below ((Below.refl _ w3).alloc (Nat.le_refl _) (.cells #[.int .i64 p, .slice A3 n c3] 26)))
      have Y3 := Lib.hid (Box.new w3 26 #[.int .i64 p, .slice A3 n c3])
      clear x2a x2b z2a z2b f2a f2b hO
      have X3 := Lib.hid ((X2.out.below hb3 X2.out.lt).alloc (.cells #[.int .i64 p, .slice A3 n c3] 26))
      have Z3 := Lib.hid ((Z2.out.below hb3 Z2.out.lt).alloc (.cells #[.int .i64 p, .slice A3 n c3] 26))
      have HB3 := Lib.hid ((HB2.out.trans (hb3.mono HB2.out.size)).alloc (by omega) (.cells #[.int .i64 p, .slice A3 n c3] 26))
      clear hb3 hs hpm
      obtain ⟨x3a, x3b, _, _⟩ := X3.out.two
      go_wp2_with fail
      generalize hWW : w3.alloc (.cells #[.int .i64 p, .slice A3 n c3] 26) = W3 at *
      clear hWW
      generalize w3.heap.size = y3 at *
      clear x3a x3b
      go_loopw [7, 8, 24] (fun _ _ i wr => ∃ j : Nat, j ≤ n ∧ i = .int .i64 j ∧ Box wr (w.heap.size + 1) 26 #[.int .i64 0, .slice none 0 0] ∧ Box wr y3 26 #[.int .i64 p, .slice A3 n c3] ∧ Own (w.heap.size + 2) wr A3 n c3 (mxR L P j) ∧ Below w.heap.size w wr) (fun _ _ i _ => n - (intOf i).toNat)
      case atStart => exact ⟨0, Nat.zero_le _, rfl, Z3.out, Y3.out, by rw [mxR_zero]; exact HO3.out, HB3.out⟩
      case round =>
        obtain ⟨j, hj, rfl, hz, hy, ho, hb⟩ := hrel
        have HZ := Lib.hid hz
        have HY := Lib.hid hy
        have HO := Lib.hid ho
        have HB := Lib.hid hb
        clear Z3 Y3 HO3 HB3
        by_cases hlt : j < n
        · obtain ⟨ad, rfl, had, hc⟩ := (HIw.out.below hb) j (by rw [HL.out]; exact hlt)
          have hx2 := state_at HS.out j (by rw [HL.out]; exact hlt)
          obtain ⟨x, hxe⟩ := Int.eq_ofNat_of_zero_le hx2.1
          obtain ⟨ad', rfl, had', hc2⟩ := (HJw.out.below hb) x (by rw [HP.out]; have := HMK.out; omega)
          have hc' : wr.cell? (ad.add j) = some (.int .i64 x) := by rw [← hxe]; simpa using hc
          have hc2' : wr.cell? (ad'.add x) = some (.int .i64 (P[x]?.getD 0)) := by simpa using hc2
          have hxm : (x : Int) < (m : Int) := by have := HMK.out; omega
          have hx00 : (0 : Int) ≤ (x : Int) := by omega
          have hjn : (j : Int) < (n : Int) := by omega
          have hj00 : (0 : Int) ≤ (j : Int) := by omega
          have HMX := Lib.hid (mxR_step (P := P) (by rw [HL.out]; exact hlt) hxe)
          obtain ⟨g3, rfl⟩ : ∃ g3, A3 = some ⟨g3, 0, none⟩ := by
            rcases ho.form with ⟨_, h, _⟩ | ⟨g3, h, _⟩
            · omega
            · exact ⟨g3, h⟩
          have hg3 : w.heap.size + 2 ≤ g3 := by
            rcases ho.form with ⟨h, _⟩ | ⟨g', h, h', _⟩
            · cases h
            · cases h; exact h'
          obtain ⟨y0, y1, _, _⟩ := hy.two
          clear hc hc2 hxe hx2 hz hy hb
          have hold := World.ownsRow.cellAt ho j (by omega)
          have hfz := World.ownsRow.frozenAt ho j
          have hmj : ((mxR L P j).map (Value.int .i64))[j]? = some (.int .i64 ((mxR L P j)[j]?.getD 0)) := by
            rw [List.getElem?_map, List.getElem?_eq_getElem (by rw [mxR_len, HL.out]; exact hlt)]
            simp
          rw [hmj] at hold
          clear hmj ho
          go_wp2_with fail
          go_still_tail 8, (by kernel_rfl)
          change wpList _ _ _ _ _ wr.drew
          have hold' : wr.drew.cell? ⟨g3, j, none⟩ = _ := hold
          have hfz' : wr.drew.frozen? ⟨g3, j, none⟩ = false := hfz
          have HZ1 : Hid (Box wr.drew (w.heap.size + 1) 26 #[.int .i64 0, .slice none 0 0]) := HZ.out
          have HY1 : Hid (Box wr.drew y3 26 #[.int .i64 p, .slice (some ⟨g3, 0, none⟩) n c3]) := HY.out
          have HO1 : Hid (Own (w.heap.size + 2) wr.drew (some ⟨g3, 0, none⟩) n c3 (mxR L P j)) := HO.out
          have HB1 : Hid (Below w.heap.size w wr.drew) := Lib.hid HB.out.drew
          clear hold hfz HZ HY HO HB y0 y1 hc' hc2'
          generalize wr.drew = wd at *
          go_wp2
          go_roundw
          case rel =>
            have hne1 : g3 ≠ w.heap.size + 1 := by omega
            have hne2 : g3 ≠ y3 := HO1.out.ne_box HY1.out (by decide)
            refine ⟨j + 1, by omega, by go_num, HZ1.out.other (by exact hne1.symm) _, HY1.out.other (by exact hne2.symm) _, ?_, HB1.out.setCell (by show w.heap.size ≤ g3; omega) _⟩
            have st := (World.ownsRow.stored HO1.out j (.int .i64 (P[x]?.getD 0))).1
            rw [← List.map_set, HMX.out] at st
            exact st
          case measure => simp [intOf]; omega
        · obtain rfl : j = n := by omega
          obtain ⟨z0, z1, zf0, zf1⟩ := hz.two
          obtain ⟨y0, y1, _, _⟩ := hy.two
          rw [mxR_all HL.out] at ho
          have HO := Lib.hid ho
          clear hz hy ho hb
          go_wp2
          have hb9 : Hid (Box ((wr.setCell ⟨w.heap.size + 1, 0, none⟩ (.int .i64 p)).setCell ⟨w.heap.size + 1, 1, none⟩ (.slice A3 j c3)) (w.heap.size + 1) 26 #[.int .i64 p, .slice A3 j c3]) := (HZ.out.set 0 _).set 1 _
          obtain ⟨r0, r1, _, _⟩ := hb9.out.two
          refine bodyPost_ret (v := .tuple #[.agg #[.int .i64 p, .slice A3 j c3], .int .i64 0]) (by simp [results, Try.results17, go_sem, r0, r1]) rfl ⟨A3, c3, by rw [HRL.out], ?_, ?_⟩
          · rw [HRL.out]
            exact ((HO.out.setBoxed HZ.out (by decide) _ _).setBoxed (HZ.out.set _ _) (by decide) _ _).mono (by omega)
          · exact (HB.out.setCell (by show w.heap.size ≤ w.heap.size + 1; omega) _).setCell (by show w.heap.size ≤ w.heap.size + 1; omega) _
    · have hpm' : permB p P = false := by simpa using hpm
      obtain ⟨q1, q2, q3⟩ := rp_two hs hpm'
      rw [q1, q2, q3]
      clear hL hP q1 q2 q3 hpm
      go_enter Try.func17, Try.ntmps17
      go_wp2_with fail
      refine (implIsState_calls A n c p L _ HL.out hn HI0.out).mono ?_
      rintro e w1 ⟨rfl, hb1⟩
      have X1 := Lib.hid (X0.out.below hb1 X0.out.lt)
      have Z1 := Lib.hid (Z0.out.below hb1 Z0.out.lt)
      have HB1 := Lib.hid (HB0.out.trans (hb1.mono HB0.out.size))
      have HI1 := Lib.hid (HI0.out.below hb1)
      have HJ1 := Lib.hid (HJ0.out.below hb1)
      clear hb1
      obtain ⟨x1a, x1b, _, _⟩ := X1.out.two
      obtain ⟨z1a, z1b, f1a, f1b⟩ := Z1.out.two
      go_wp2_with fail
      refine (isPegList_calls p B m d P _ (by omega) HP.out hm HJ1.out).mono ?_
      rintro e w2 ⟨rfl, hb2⟩
      clear x1a x1b z1a z1b f1a f1b
      have X2 := Lib.hid (X1.out.below hb2 X1.out.lt)
      have Z2 := Lib.hid (Z1.out.below hb2 Z1.out.lt)
      have HB2 := Lib.hid (HB1.out.trans (hb2.mono HB1.out.size))
      have HI2 := Lib.hid (HI1.out.below hb2)
      have HJ2 := Lib.hid (HJ1.out.below hb2)
      clear hb2
      obtain ⟨x2a, x2b, _, _⟩ := X2.out.two
      obtain ⟨z2a, z2b, f2a, f2b⟩ := Z2.out.two
      go_wp2
      have hb9 : Hid (Box ((w2.setCell ⟨w.heap.size + 1, 0, none⟩ (.int .i64 0)).setCell ⟨w.heap.size + 1, 1, none⟩ (.slice none 0 0)) (w.heap.size + 1) 26 #[.int .i64 0, .slice none 0 0]) := (Z2.out.set 0 _).set 1 _
      obtain ⟨r0, r1, _, _⟩ := hb9.out.two
      refine bodyPost_ret (v := .tuple #[.agg #[.int .i64 0, .slice none 0 0], .int .i64 2]) (by simp [results, Try.results17, go_sem, r0, r1]) rfl ⟨none, 0, rfl, Own.nilS _ _, ?_⟩
      exact (HB2.out.setCell (by show w.heap.size ≤ w.heap.size + 1; omega) _).setCell (by show w.heap.size ≤ w.heap.size + 1; omega) _
  · have hs' : stateB p L = false := by simpa using hs
    obtain ⟨q1, q2, q3⟩ := rp_one (P := P) hs'
    rw [q1, q2, q3]
    clear hL hP q1 q2 q3 hs
    go_enter Try.func17, Try.ntmps17
    go_wp2_with fail
    refine (implIsState_calls A n c p L _ HL.out hn HI0.out).mono ?_
    rintro e w1 ⟨rfl, hb1⟩
    have X1 := Lib.hid (X0.out.below hb1 X0.out.lt)
    have Z1 := Lib.hid (Z0.out.below hb1 Z0.out.lt)
    have HB1 := Lib.hid (HB0.out.trans (hb1.mono HB0.out.size))
    have HI1 := Lib.hid (HI0.out.below hb1)
    have HJ1 := Lib.hid (HJ0.out.below hb1)
    clear hb1
    obtain ⟨x1a, x1b, _, _⟩ := X1.out.two
    obtain ⟨z1a, z1b, f1a, f1b⟩ := Z1.out.two
    go_wp2
    have hb9 : Hid (Box ((w1.setCell ⟨w.heap.size + 1, 0, none⟩ (.int .i64 0)).setCell ⟨w.heap.size + 1, 1, none⟩ (.slice none 0 0)) (w.heap.size + 1) 26 #[.int .i64 0, .slice none 0 0]) := (Z1.out.set 0 _).set 1 _
    obtain ⟨r0, r1, _, _⟩ := hb9.out.two
    refine bodyPost_ret (v := .tuple #[.agg #[.int .i64 0, .slice none 0 0], .int .i64 1]) (by simp [results, Try.results17, go_sem, r0, r1]) rfl ⟨none, 0, rfl, Own.nilS _ _, ?_⟩
    exact (HB1.out.setCell (by show w.heap.size ≤ w.heap.size + 1; omega) _).setCell (by show w.heap.size ≤ w.heap.size + 1; omega) _

end Go.Proofs.Ytfdjlgpdbgmdkaa
