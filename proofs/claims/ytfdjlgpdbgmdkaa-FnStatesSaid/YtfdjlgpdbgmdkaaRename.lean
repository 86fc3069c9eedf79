/- Contracts: RenamePegs, by the specification's model and by the program. -/
import Derived.Test.YtfdjlgpdbgmdkaaPerm
import Derived.Test.YtfdjlgpdbgmdkaaState1
import Derived.Test.YtfdjlgpdbgmdkaaMark
import Derived.Test.YtfdjlgpdbgmdkaaHeld
import Derived.Deep.AppendLies
import Derived.Deep.RegionLaw
namespace Go.Proofs.Ytfdjlgpdbgmdkaa
open Go.RowKit
set_option linter.unusedVariables false

def rpE (p : Int) (L P : List Int) : Int := if stateB p L = true then (if permB p P = true then 0 else 2) else 1
def rpP (p : Int) (L P : List Int) : Int := if rpE p L P = 0 then p else 0
def rpV (p : Int) (L P : List Int) : List Int := if rpE p L P = 0 then rnL L P else []
theorem rp_yes {p : Int} {L P : List Int} (h : stateB p L = true) (h' : permB p P = true) : rpP p L P = p ∧ rpV p L P = rnL L P ∧ rpE p L P = 0 := by
  have e : rpE p L P = 0 := by unfold rpE; rw [if_pos h, if_pos h']
  exact ⟨by unfold rpP; rw [if_pos e], by unfold rpV; rw [if_pos e], e⟩
theorem rp_two {p : Int} {L P : List Int} (h : stateB p L = true) (h' : permB p P = false) : rpP p L P = 0 ∧ rpV p L P = [] ∧ rpE p L P = 2 := by
  have e : rpE p L P = 2 := by unfold rpE; rw [if_pos h, h']; rfl
  exact ⟨by unfold rpP; rw [if_neg (by omega)], by unfold rpV; rw [if_neg (by omega)], e⟩
theorem rp_one {p : Int} {L P : List Int} (h : stateB p L = false) : rpP p L P = 0 ∧ rpV p L P = [] ∧ rpE p L P = 1 := by
  have e : rpE p L P = 1 := by unfold rpE; rw [h]; rfl
  exact ⟨by unfold rpP; rw [if_neg (by omega)], by unfold rpV; rw [if_neg (by omega)], e⟩
theorem rpV_len (p : Int) (L P : List Int) : (rpV p L P).length ≤ 8 := by
  by_cases h : stateB p L = true
  · by_cases h' : permB p P = true
    · rw [(rp_yes h h').2.1]; unfold rnL; rw [List.length_map]; exact (state_facts h rfl).2.2.1
    · rw [(rp_two h (by simpa using h')).2.1]; simp
  · rw [(rp_one (by simpa using h)).2.1]; simp

set_option maxHeartbeats 4000000 in
theorem l01Order_calls (K : Nat) (B : Option Addr) (m d : Nat) (P : List Int) (w : World) (h3 : 3 ≤ K ∧ K ≤ 5) (hP : P.length = m) (hm : m ≤ 1048576) (hJ : Ints w B P) :
    Calls Try.prog 51 #[.slice B m d, .int .i64 K] w fun e w' => e = .returned (.bool (permB K P)) ∧ Below w.heap.size w w' := by
  have HP := Lib.hid hP
  have HJ := Lib.hid hJ
  have hmk := run_make_row' (P := Try.prog) 94 4 (.bool false) 1 Try.underlying94 (by kernel_rfl) rfl .i64 .i64 K (by omega) (by omega)
  clear hP hJ
  go_enter Try.func51, Try.ntmps51
  go_wp2
  clear hmk
  go_loopw [6] (fun i wr => ∃ j : Nat, j ≤ m ∧ i = .int .i64 j ∧ Hid (okTo K P j = true) ∧ wr.rowIs w.heap.size 4 K (metV P j) ∧ Below w.heap.size w wr) (fun i _ => m - (intOf i).toNat)
  case atStart => exact ⟨0, Nat.zero_le _, rfl, Lib.hid rfl, (World.rowIs_made _ _ _ _).congr (fun i _ => rfl), (Below.refl _ _).alloc (Nat.le_refl _) _⟩
  case round =>
    obtain ⟨j, hj, rfl, HK, hrow, hb⟩ := hrel
    by_cases hlt : j < m
    · obtain ⟨ad, rfl, had, hc⟩ := (HJ.out.below hb) j (by rw [HP.out]; exact hlt)
      have hR := Lib.hid hrow
      have HB := Lib.hid hb
      have hw : IntKind.i64.wrap ((K : Int) - 1) = (K : Int) - 1 := IntWalk.i64_in _ (by omega)
      clear hb
      by_cases hin : inB (P[j]?.getD 0) 0 (K - 1) = true
      · obtain ⟨x, hx⟩ := Int.eq_ofNat_of_zero_le (inB_of hin).1
        have hx5 : x < K := by have := (inB_of hin).2; omega
        have hx6 : (x : Int) < (K : Int) := by omega
        have hx7 : (0 : Int) ≤ (x : Int) := by omega
        have hcell := hrow.cell (i := x) hx5
        have hfz := hrow.frozen x
        have HX := Lib.hid hx
        have hc' : wr.cell? (ad.add j) = some (.int .i64 x) := by rw [← hx]; simpa using hc
        have HIN := Lib.hid hin
        have hin2 : inB x 0 ((K : Int) - 1) = true := by rw [← hx]; exact hin
        clear hc hrow hx hin
        by_cases hmt : metTo P j x = true
        · have hv : metV P j x = .bool true := by unfold metV; rw [hmt]
          rw [hv] at hcell
          have HN := Lib.hid (show permB K P = false by unfold permB; rw [HP.out, okTo_no (j + 1) m (by omega) (by rw [okTo, HX.out, hmt]; simp)]; simp)
          clear hmt hv
          go_wp2_with fail
          refine (l01In_calls x 0 (K - 1) _).mono ?_
          rintro e w' ⟨rfl, rfl⟩
          go_wp2
          go_ret
          exact ⟨ret_bool HN.out.symm, HB.out⟩
        · have hm' : metTo P j x = false := by simpa using hmt
          have hv : metV P j x = .bool false := by unfold metV; rw [hm']
          rw [hv] at hcell
          have HK' := Lib.hid (show okTo K P (j + 1) = true by rw [okTo, HK.out, HIN.out, HX.out, hm']; rfl)
          have HST := Lib.hid (metV_step HX.out)
          clear hmt hm' hv
          go_wp2_with fail
          refine (l01In_calls x 0 (K - 1) _).mono ?_
          rintro e w' ⟨rfl, rfl⟩
          go_wp2
          go_roundw
          case rel => exact ⟨j + 1, by omega, by go_num, HK', (hR.out.set x _).congr (fun v _ => HST.out v), HB.out.setCell (Nat.le_refl _) _⟩
          case measure => simp [intOf]; omega
      · have hin' : inB (P[j]?.getD 0) 0 ((K : Int) - 1) = false := by simpa using hin
        have HN := Lib.hid (show permB K P = false by unfold permB; rw [HP.out, okTo_no (j + 1) m (by omega) (by rw [okTo, hin']; simp)]; simp)
        clear hin hrow
        go_wp2_with fail
        refine (l01In_calls _ 0 (K - 1) _).mono ?_
        rintro e w' ⟨rfl, rfl⟩
        go_wp2
        go_ret
        exact ⟨ret_bool HN.out.symm, HB.out⟩
    · obtain rfl : j = m := by omega
      have HB := Lib.hid hb
      clear hb hrow
      by_cases hk : j = K
      · have hd : ((j : Int) == (K : Int)) = true := by simp [hk]
        have HN := Lib.hid (show permB K P = true by unfold permB; rw [HP.out, HK.out, hk]; simp)
        clear hk
        go_wp2
        go_ret
        exact ⟨ret_bool HN.out.symm, HB.out⟩
      · have hd : ((j : Int) == (K : Int)) = false := by simp; omega
        have HN := Lib.hid (show permB K P = false by unfold permB; rw [HP.out, decide_eq_false (show ¬ ((j : Nat) : Int) = (K : Int) by omega)]; rfl)
        clear hk
        go_wp2
        go_ret
        exact ⟨ret_bool HN.out.symm, HB.out⟩

set_option maxHeartbeats 4000000 in
theorem l01Renamed_calls (A : Option Addr) (n c : Nat) (p : Int) (L : List Int) (B : Option Addr) (m d : Nat) (P : List Int) (w : World) (hs : stateB p L = true) (hm : (m : Int) = p) (hL : L.length = n) (hI : Ints w A L) (hP : P.length = m) (hJ : Ints w B P) :
    Calls Try.prog 52 #[.agg #[.int .i64 p, .slice A n c], .slice B m d] w fun e w' => ∃ A' c', e = .returned (.agg #[.int .i64 p, .slice A' n c']) ∧ Own w.heap.size w' A' n c' (rnL L P) ∧ Below w.heap.size w w' := by
  obtain ⟨i0, hi, hz0, hz1, hz2⟩ := info_parts Try.infoI
  have hf := state_facts hs hL
  have HS := Lib.hid hs
  have HL := Lib.hid hL
  have HP := Lib.hid hP
  have HI := Lib.hid hI
  have HJ := Lib.hid hJ
  clear hs hL hI hP hJ
  go_enter Try.func52, Try.ntmps52
  go_wp2
  go_loopw [6] (fun i wr => ∃ j : Nat, j ≤ n ∧ i = .int .i64 j ∧ Box wr w.heap.size 26 #[.int .i64 p, .slice A n c] ∧ Box wr (w.heap.size + 1) 26 #[.int .i64 0, .slice none 0 0] ∧ (∃ A' c', Box wr (w.heap.size + 1 + 1 + 1) 26 #[.int .i64 p, .slice A' j c'] ∧ Own (w.heap.size + 1) wr A' j c' (rnL (L.take j) P)) ∧ Below w.heap.size w wr) (fun i _ => n - (intOf i).toNat)
  case atStart =>
    have e0 : Box (w.alloc (.cells #[.int .i64 p, .slice A n c] 26)) w.heap.size 26 #[.int .i64 p, .slice A n c] := Box.new _ _ _
    have e1 : Box ((w.alloc (.cells #[.int .i64 p, .slice A n c] 26)).alloc (.cells #[.int .i64 0, .slice none 0 0] 26)) (w.heap.size + 1) 26 #[.int .i64 0, .slice none 0 0] := by
      have := Box.new (w.alloc (.cells #[.int .i64 p, .slice A n c] 26)) 26 #[.int .i64 0, .slice none 0 0]
      rwa [World.size_alloc] at this
    have e2 : Box (((w.alloc (.cells #[.int .i64 p, .slice A n c] 26)).alloc (.cells #[.int .i64 0, .slice none 0 0] 26)).alloc (.cells #[] 2)) (w.heap.size + 1 + 1) 2 #[] := by
      have := Box.new ((w.alloc (.cells #[.int .i64 p, .slice A n c] 26)).alloc (.cells #[.int .i64 0, .slice none 0 0] 26)) 2 #[]
      rwa [World.size_alloc, World.size_alloc] at this
    have e3 : Box ((((w.alloc (.cells #[.int .i64 p, .slice A n c] 26)).alloc (.cells #[.int .i64 0, .slice none 0 0] 26)).alloc (.cells #[] 2)).alloc (.cells #[.int .i64 p, .slice (some ⟨w.heap.size + 1 + 1, 0, none⟩) 0 0] 26)) (w.heap.size + 1 + 1 + 1) 26 #[.int .i64 p, .slice (some ⟨w.heap.size + 1 + 1, 0, none⟩) 0 0] := by
      have := Box.new (((w.alloc (.cells #[.int .i64 p, .slice A n c] 26)).alloc (.cells #[.int .i64 0, .slice none 0 0] 26)).alloc (.cells #[] 2)) 26 #[.int .i64 p, .slice (some ⟨w.heap.size + 1 + 1, 0, none⟩) 0 0]
      rwa [World.size_alloc, World.size_alloc, World.size_alloc] at this
    exact ⟨0, Nat.zero_le _, rfl, ((e0.alloc _).alloc _).alloc _, (e1.alloc _).alloc _, ⟨_, _, e3, Own.emptyAt (e2.alloc _) (by omega)⟩, ((((Below.refl _ _).alloc (Nat.le_refl _) _).alloc (by simp) _).alloc (by simp; omega) _).alloc (by simp; omega) _⟩
  case round =>
    obtain ⟨j, hj, rfl, hx, hz, ⟨A', c', hbx, hown⟩, hb⟩ := hrel
    obtain ⟨x0, x1, _, _⟩ := hx.two
    obtain ⟨c0, c1, f0, f1⟩ := hbx.two
    have HX := Lib.hid hx
    have HZ := Lib.hid hz
    have HBX := Lib.hid hbx
    have HB := Lib.hid hb
    have hsz := hb.size
    have hs2 := hbx.lt
    by_cases hlt : j < n
    · obtain ⟨ad, rfl, had, hc⟩ := (HI.out.below hb) j (by rw [HL.out]; exact hlt)
      have hx2 := state_at HS.out j (by rw [HL.out]; exact hlt)
      obtain ⟨x, hxe⟩ := Int.eq_ofNat_of_zero_le hx2.1
      obtain ⟨ad', rfl, had', hc2⟩ := (HJ.out.below hb) x (by rw [HP.out]; omega)
      have hc' : wr.cell? (ad.add j) = some (.int .i64 x) := by rw [← hxe]; simpa using hc
      have hc2' : wr.cell? (ad'.add x) = some (.int .i64 (P[x]?.getD 0)) := by simpa using hc2
      have hxm : (x : Int) < (m : Int) := by omega
      have hx00 : (0 : Int) ≤ (x : Int) := by omega
      have hjn : (j : Int) < (n : Int) := by omega
      have hj00 : (0 : Int) ≤ (j : Int) := by omega
      have HTK := Lib.hid (rnL_take (P := P) (by rw [HL.out]; exact hlt) hxe)
      clear hc hc2 hxe hx2 hx hz hbx hb hm
      go_wp2_with fail
      go_region_law ((refine step_append_lies _ (by rfl) _ _ _ (by rfl) (w.heap.size + 1) 2 i0 _ 1 8 Try.underlying24 hi hz0 hz1 hz2 rfl (by omega) (.slice A' j c') j ((rnL (L.take j) P).map (Value.int .i64)) (by rfl) ((World.ownsRow.alloc hown _).drew) ⟨wr.heap.size, 0, none⟩ 1 1 [.int .i64 (P[x]?.getD 0)] (by rfl) (by rfl) (World.news_of_block (cs := #[.int .i64 (P[x]?.getD 0)]) (t := 2) (fr := (0, 0)) (heap_alloc_new wr _)) (by simp [Value.oneCell']) (by omega) (by unfold maxLen; omega) (by omega) (by simp; omega) (wr.heap.size + 1) (by simp) ?_; intro gg cap w1 hown1 hgrow hat hlt2; have HPU := Lib.hid (Own.pushed hown (grown_undrew hgrow) hown1); clear hgrow hown1; obtain ⟨d0, d1, g0, g1⟩ := (HPU.out.2.1 _ _ _ HBX.out (by decide)).two))
      all_goals
        go_wp2
        go_roundw
        case rel =>
          refine ⟨j + 1, by omega, by go_num, ?_, ?_, ⟨some ⟨gg, 0, none⟩, cap, ?_, ?_⟩, ?_⟩
          · exact (HPU.out.2.1 _ _ _ HX.out (by decide)).other (by show w.heap.size ≠ w.heap.size + 1 + 1 + 1; omega) _
          · exact (HPU.out.2.1 _ _ _ HZ.out (by decide)).other (by show w.heap.size + 1 ≠ w.heap.size + 1 + 1 + 1; omega) _
          · exact (HPU.out.2.1 _ _ _ HBX.out (by decide)).set 1 _
          · rw [HTK.out]
            exact HPU.out.1.setBoxed (HPU.out.2.1 _ _ _ HBX.out (by decide)) (by decide) _ _
          · exact (HB.out.trans (HPU.out.2.2.2 _ (by omega) hsz)).setCell (by show w.heap.size ≤ w.heap.size + 1 + 1 + 1; omega) _
        case measure => simp [intOf]; omega
    · obtain rfl : j = n := by omega
      obtain ⟨z0, z1, g0, g1⟩ := HZ.out.two
      have hTL : L.take j = L := by rw [List.take_of_length_le]; rw [HL.out]; exact Nat.le_refl _
      rw [hTL] at hown
      have HO := Lib.hid hown
      clear hown hTL hx hz hbx hb
      go_wp2
      have hb3 : Hid (Box ((wr.setCell ⟨w.heap.size + 1, 0, none⟩ (.int .i64 p)).setCell ⟨w.heap.size + 1, 1, none⟩ (.slice A' j c')) (w.heap.size + 1) 26 #[.int .i64 p, .slice A' j c']) := (HZ.out.set 0 _).set 1 _
      obtain ⟨r0, r1, _, _⟩ := hb3.out.two
      refine bodyPost_ret (v := .agg #[.int .i64 p, .slice A' j c']) (by simp [results, Try.results52, go_sem, r0, r1]) rfl ⟨A', c', rfl, ?_, ?_⟩
      · exact ((HO.out.setBoxed HZ.out (by decide) _ _).setBoxed (HZ.out.set _ _) (by decide) _ _).mono (by omega)
      · exact (HB.out.setCell (by show w.heap.size ≤ w.heap.size + 1; omega) _).setCell (by show w.heap.size ≤ w.heap.size + 1; omega) _

set_option maxHeartbeats 4000000 in
theorem specRenamePegs_ret (p : Int) (A : Option Addr) (n c : Nat) (L : List Int) (B : Option Addr) (m d : Nat) (P : List Int) (w : World) (hL : L.length = n) (hn : n ≤ 1048576) (hI : Ints w A L) (hP : P.length = m) (hm : m ≤ 1048576) (hJ : Ints w B P) :
    Calls Try.prog 18 #[.agg #[.int .i64 p, .slice A n c], .slice B m d] w (RetState w (rpP p L P) (rpV p L P).length (rpV p L P) (rpE p L P)) := by
  have HL := Lib.hid hL
  have HP := Lib.hid hP
  have hX : Box ((w.alloc (.cells #[.int .i64 p, .slice A n c] 26)).alloc (.cells #[.int .i64 0, .slice none 0 0] 26)) w.heap.size 26 #[.int .i64 p, .slice A n c] := (Box.new _ _ _).alloc _
  have hZ : Box ((w.alloc (.cells #[.int .i64 p, .slice A n c] 26)).alloc (.cells #[.int .i64 0, .slice none 0 0] 26)) (w.heap.size + 1) 26 #[.int .i64 0, .slice none 0 0] := by
    have := Box.new (w.alloc (.cells #[.int .i64 p, .slice A n c] 26)) 26 #[.int .i64 0, .slice none 0 0]
    rwa [World.size_alloc] at this
  have X0 := Lib.hid hX
  have Z0 := Lib.hid hZ
  have HB0 := Lib.hid (((Below.refl w.heap.size w).alloc (Nat.le_refl _) (.cells #[.int .i64 p, .slice A n c] 26)).alloc (by simp) (.cells #[.int .i64 0, .slice none 0 0] 26))
  have hs0 : w.heap.size + 1 < ((w.alloc (.cells #[.int .i64 p, .slice A n c] 26)).alloc (.cells #[.int .i64 0, .slice none 0 0] 26)).heap.size := hZ.lt
  have HI0 := Lib.hid (hI.below HB0.out)
  have HJ0 := Lib.hid (hJ.below HB0.out)
  have HIw := Lib.hid hI
  have HJw := Lib.hid hJ
  clear hX hZ hI hJ
  by_cases hs : stateB p L = true
  · have hf := state_facts hs hL
    obtain ⟨K, rfl⟩ := Int.eq_ofNat_of_zero_le (a := p) (by omega)
    by_cases hpm : permB K P = true
    · obtain ⟨q1, q2, q3⟩ := rp_yes hs hpm
      rw [q1, q2, q3]
      have hmK := perm_len hpm
      rw [hP] at hmK
      have HS := Lib.hid hs
      have HMK := Lib.hid hmK
      clear hL hP q1 q2 q3 hmK
      go_enter Try.func18, Try.ntmps18
      go_wp2_with fail
      refine (l01Is_calls A n c K L _ HL.out hn HI0.out).mono ?_
      rintro e w1 ⟨rfl, hb1⟩
      have X1 := Lib.hid (X0.out.below hb1 X0.out.lt)
      have Z1 := Lib.hid (Z0.out.below hb1 Z0.out.lt)
      have HB1 := Lib.hid (HB0.out.trans (hb1.mono HB0.out.size))
      have HI1 := Lib.hid (HI0.out.below hb1)
      have HJ1 := Lib.hid (HJ0.out.below hb1)
      clear hb1
      obtain ⟨x1a, x1b, _, _⟩ := X1.out.two
      obtain ⟨z1a, z1b, f1a, f1b⟩ := Z1.out.two
      go_wp2_with fail
      refine (l01Order_calls K B m d P _ (by omega) HP.out hm HJ1.out).mono ?_
      rintro e w2 ⟨rfl, hb2⟩
      clear x1a x1b z1a z1b f1a f1b
      have X2 := Lib.hid (X1.out.below hb2 X1.out.lt)
      have Z2 := Lib.hid (Z1.out.below hb2 Z1.out.lt)
      have HB2 := Lib.hid (HB1.out.trans (hb2.mono HB1.out.size))
      have HI2 := Lib.hid (HI1.out.below hb2)
      have HJ2 := Lib.hid (HJ1.out.below hb2)
      clear hb2
      obtain ⟨x2a, x2b, _, _⟩ := X2.out.two
      obtain ⟨z2a, z2b, f2a, f2b⟩ := Z2.out.two
      go_wp2_with fail
      refine (l01Renamed_calls A n c K L B m d P _ HS.out HMK.out HL.out HI2.out HP.out HJ2.out).mono ?_
      rintro e w3 ⟨A3, c3, rfl, hO, hb3⟩
      have HO := Lib.hid (hO.mono (B' := w.heap.size) HB2.out.size)
      have HRL := Lib.hid (show (rnL L P).length = n by unfold rnL; rw [List.length_map, HL.out])
      clear x2a x2b z2a z2b f2a f2b hO
      have X3 := Lib.hid (X2.out.below hb3 X2.out.lt)
      have Z3 := Lib.hid (Z2.out.below hb3 Z2.out.lt)
      have HB3 := Lib.hid (HB2.out.trans (hb3.mono HB2.out.size))
      have HI3 := Lib.hid (HI2.out.below hb3)
      have HJ3 := Lib.hid (HJ2.out.below hb3)
      clear hb3
      obtain ⟨x3a, x3b, _, _⟩ := X3.out.two
      obtain ⟨z3a, z3b, f3a, f3b⟩ := Z3.out.two
      go_wp2
      have hb9 : Hid (Box ((w3.setCell ⟨w.heap.size + 1, 0, none⟩ (.int .i64 K)).setCell ⟨w.heap.size + 1, 1, none⟩ (.slice A3 n c3)) (w.heap.size + 1) 26 #[.int .i64 K, .slice A3 n c3]) := (Z3.out.set 0 _).set 1 _
      obtain ⟨r0, r1, _, _⟩ := hb9.out.two
      refine bodyPost_ret (v := .tuple #[.agg #[.int .i64 K, .slice A3 n c3], .int .i64 0]) (by simp [results, Try.results18, go_sem, r0, r1]) rfl ⟨A3, c3, by rw [HRL.out], ?_, ?_⟩
      · rw [HRL.out]
        exact (HO.out.setBoxed Z3.out (by decide) _ _).setBoxed (Z3.out.set _ _) (by decide) _ _
      · exact (HB3.out.setCell (by show w.heap.size ≤ w.heap.size + 1; omega) _).setCell (by show w.heap.size ≤ w.heap.size + 1; omega) _
    · have hpm' : permB K P = false := by simpa using hpm
      obtain ⟨q1, q2, q3⟩ := rp_two hs hpm'
      rw [q1, q2, q3]
      clear hL hP q1 q2 q3 hpm
      go_enter Try.func18, Try.ntmps18
      go_wp2_with fail
      refine (l01Is_calls A n c K L _ HL.out hn HI0.out).mono ?_
      rintro e w1 ⟨rfl, hb1⟩
      have X1 := Lib.hid (X0.out.below hb1 X0.out.lt)
      have Z1 := Lib.hid (Z0.out.below hb1 Z0.out.lt)
      have HB1 := Lib.hid (HB0.out.trans (hb1.mono HB0.out.size))
      have HI1 := Lib.hid (HI0.out.below hb1)
      have HJ1 := Lib.hid (HJ0.out.below hb1)
      clear hb1
      obtain ⟨x1a, x1b, _, _⟩ := X1.out.two
      obtain ⟨z1a, z1b, f1a, f1b⟩ := Z1.out.two
      go_wp2_with fail
      refine (l01Order_calls K B m d P _ (by omega) HP.out hm HJ1.out).mono ?_
      rintro e w2 ⟨rfl, hb2⟩
      clear x1a x1b z1a z1b f1a f1b
      have X2 := Lib.hid (X1.out.below hb2 X1.out.lt)
      have Z2 := Lib.hid (Z1.out.below hb2 Z1.out.lt)
      have HB2 := Lib.hid (HB1.out.trans (hb2.mono HB1.out.size))
      have HI2 := Lib.hid (HI1.out.below hb2)
      have HJ2 := Lib.hid (HJ1.out.below hb2)
      clear hb2
      obtain ⟨x2a, x2b, _, _⟩ := X2.out.two
      obtain ⟨z2a, z2b, f2a, f2b⟩ := Z2.out.two
      go_wp2
      have hb9 : Hid (Box ((w2.setCell ⟨w.heap.size + 1, 0, none⟩ (.int .i64 0)).setCell ⟨w.heap.size + 1, 1, none⟩ (.slice none 0 0)) (w.heap.size + 1) 26 #[.int .i64 0, .slice none 0 0]) := (Z2.out.set 0 _).set 1 _
      obtain ⟨r0, r1, _, _⟩ := hb9.out.two
      refine bodyPost_ret (v := .tuple #[.agg #[.int .i64 0, .slice none 0 0], .int .i64 2]) (by simp [results, Try.results18, go_sem, r0, r1]) rfl ⟨none, 0, rfl, Own.nilS _ _, ?_⟩
      exact (HB2.out.setCell (by show w.heap.size ≤ w.heap.size + 1; omega) _).setCell (by show w.heap.size ≤ w.heap.size + 1; omega) _
  · have hs' : stateB p L = false := by simpa using hs
    obtain ⟨q1, q2, q3⟩ := rp_one (P := P) hs'
    rw [q1, q2, q3]
    clear hL hP q1 q2 q3 hs
    go_enter Try.func18, Try.ntmps18
    go_wp2_with fail
    refine (l01Is_calls A n c p L _ HL.out hn HI0.out).mono ?_
    rintro e w1 ⟨rfl, hb1⟩
    have X1 := Lib.hid (X0.out.below hb1 X0.out.lt)
    have Z1 := Lib.hid (Z0.out.below hb1 Z0.out.lt)
    have HB1 := Lib.hid (HB0.out.trans (hb1.mono HB0.out.size))
    have HI1 := Lib.hid (HI0.out.below hb1)
    have HJ1 := Lib.hid (HJ0.out.below hb1)
    clear hb1
    obtain ⟨x1a, x1b, _, _⟩ := X1.out.two
    obtain ⟨z1a, z1b, f1a, f1b⟩ := Z1.out.two
    go_wp2
    have hb9 : Hid (Box ((w1.setCell ⟨w.heap.size + 1, 0, none⟩ (.int .i64 0)).setCell ⟨w.heap.size + 1, 1, none⟩ (.slice none 0 0)) (w.heap.size + 1) 26 #[.int .i64 0, .slice none 0 0]) := (Z1.out.set 0 _).set 1 _
    obtain ⟨r0, r1, _, _⟩ := hb9.out.two
    refine bodyPost_ret (v := .tuple #[.agg #[.int .i64 0, .slice none 0 0], .int .i64 1]) (by simp [results, Try.results18, go_sem, r0, r1]) rfl ⟨none, 0, rfl, Own.nilS _ _, ?_⟩
    exact (HB1.out.setCell (by show w.heap.size ≤ w.heap.size + 1; omega) _).setCell (by show w.heap.size ≤ w.heap.size + 1; omega) _

end Go.Proofs.Ytfdjlgpdbgmdkaa
