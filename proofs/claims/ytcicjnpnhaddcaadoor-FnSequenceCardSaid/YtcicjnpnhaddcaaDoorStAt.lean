/- Contracts: the state at a time. -/
import Derived.Test.YtcicjnpnhaddcaaDoorTen
import Derived.Test.YtcicjnpnhaddcaaDoorPerfect
import Derived.Deep.AppendLies
import Derived.Deep.RegionLaw
import Derived.StillTailTactics
namespace Go.Proofs.YtcicjnpnhaddcaaDoor
open Go.RowKit
open Go.RowKit (wrap64)
set_option linter.unusedVariables false

/-- The pegs of the discs at t. -/
def atL (t : Nat) : Nat → List Int
  | 0 => []
  | j + 1 => atL t j ++ [(pgN j (mvN t j) : Int)]
theorem atL_len (t : Nat) : ∀ j, (atL t j).length = j
  | 0 => rfl
  | j + 1 => by simp [atL, atL_len t j]
theorem atL_at (t : Nat) {j : Nat} : ∀ m, j < m → (atL t m)[j]?.getD 0 = (pgN j (mvN t j) : Int)
  | 0, h => absurd h (by omega)
  | m + 1, h => by
    have hl := atL_len t m
    unfold atL
    by_cases hj : j < m
    · rw [List.getElem?_append_left (by omega)]
      exact atL_at t m hj
    · obtain rfl : j = m := by omega
      rw [List.getElem?_append_right (by omega), hl]
      simp
theorem mvN_le {t d : Nat} (h : t ≤ 1024) : mvN t d ≤ 1025 := by
  unfold mvN
  have h1 : (t + 2 ^ d) / 2 ^ (d + 1) ≤ (t + 2 ^ (d + 1)) / 2 ^ (d + 1) := Nat.div_le_div_right (by rw [Nat.pow_succ]; omega)
  rw [Nat.add_div_right _ (Nat.two_pow_pos _)] at h1
  have h2 := Nat.div_le_self t (2 ^ (d + 1))
  omega

set_option maxHeartbeats 2000000 in
theorem l10State_calls (t n : Nat) (w : World) (hn : n ≤ 8) (ht : t ≤ 1024) :
    Calls Tryd.prog 30 #[.int .i64 t, .int .i64 n] w fun e w' => ∃ A c, e = .returned (.agg #[.int .i64 3, .slice A n c]) ∧ Own w.heap.size w' A n c (atL t n) ∧ Below w.heap.size w w' := by
  obtain ⟨i0, hi, hz0, hz1, hz2⟩ := info_parts Tryd.infoI
  go_enter Tryd.func30, Tryd.ntmps30
  go_wp2
  go_loopw [6] (fun d wr => ∃ j : Nat, j ≤ n ∧ d = .int .i64 j ∧ ∃ A c, Box wr (w.heap.size + 1 + 1) 28 #[.int .i64 3, .slice A j c] ∧ Own (w.heap.size + 1) wr A j c (atL t j) ∧ Box wr w.heap.size 28 #[.int .i64 0, .slice none 0 0] ∧ Below w.heap.size w wr) (fun d _ => n - (intOf d).toNat)
  case atStart =>
    have e1 : Box (w.alloc (.cells #[.int .i64 0, .slice none 0 0] 28)) w.heap.size 28 #[.int .i64 0, .slice none 0 0] := Box.new _ _ _
    have e2 : Box ((w.alloc (.cells #[.int .i64 0, .slice none 0 0] 28)).alloc (.cells #[] 2)) (w.heap.size + 1) 2 #[] := by
      have := Box.new (w.alloc (.cells #[.int .i64 0, .slice none 0 0] 28)) 2 #[]
      simpa using this
    have e3 := Box.new ((w.alloc (.cells #[.int .i64 0, .slice none 0 0] 28)).alloc (.cells #[] 2)) 28 #[.int .i64 3, .slice (some ⟨w.heap.size + 1, 0, none⟩) 0 0]
    simp only [World.size_alloc] at e3
    exact ⟨0, Nat.zero_le _, rfl, _, _, e3, Own.emptyAt (e2.alloc _) (Nat.le_refl _), (e1.alloc _).alloc _, (((Below.refl _ _).alloc (Nat.le_refl _) _).alloc (by simp) _).alloc (by simp; omega) _⟩
  case round =>
    obtain ⟨j, hj, rfl, A, c, hbx, hown, hbr, hb⟩ := hrel
    obtain ⟨c0, c1, f0, f1⟩ := hbx.two
    have HBX := Lib.hid hbx
    have HBR := Lib.hid hbr
    have HB := Lib.hid hb
    have hs := hb.size
    have hs2 := hbx.lt
    clear hbx hbr hb
    by_cases hlt : j < n
    · obtain ⟨M, hM⟩ : ∃ M, Hid (M = mvN t j) := ⟨_, rfl⟩
      obtain ⟨P, hP⟩ : ∃ P, Hid (P = pgN j M) := ⟨_, rfl⟩
      have hst : Hid (atL t (j + 1) = atL t j ++ [(P : Int)]) := by unfold Hid; rw [hP.out, hM.out]; rfl
      have hMb : M ≤ 1025 := by rw [hM.out]; exact mvN_le ht
      obtain ⟨D, hD⟩ : ∃ D : Nat, Hid (D = 2 ^ j) := ⟨_, rfl⟩
      have hDb : 1 ≤ D ∧ D ≤ 2199023255552 := by rw [hD.out]; exact pow2_40 (by omega)
      have HW : Hid (wrap64 ((2 : Int) ^ j) = (D : Int)) := by unfold Hid; rw [hD.out]; exact wrap_pow41 (by omega)
      have HQ : Hid (((t : Int) + (D : Int)) / 2 ^ (j + 1) = (M : Int)) := by unfold Hid; rw [hM.out, hD.out]; unfold mvN; simp
      have hdig : Hid ((atL t j).length = j) := atL_len t j
      generalize atL t j = L at *
      have HA : Hid (IntKind.i64.wrap ((t : Int) + IntKind.i64.wrap (2 ^ min (IntKind.u64.wrap (j : Int)).toNat 64)) / 2 ^ min (IntKind.u64.wrap (IntKind.i64.wrap ((j : Int) + 1))).toNat 64 = (M : Int)) := by
        unfold Hid
        have e1 : IntKind.u64.wrap (j : Int) = (j : Int) := by rw [IntKind.wrap_u64]; omega
        have e2 : IntKind.i64.wrap ((j : Int) + 1) = ((j + 1 : Nat) : Int) := by rw [IntWalk.i64_in _ (by omega)]; omega
        have e3 : IntKind.u64.wrap ((j + 1 : Nat) : Int) = ((j + 1 : Nat) : Int) := by rw [IntKind.wrap_u64]; omega
        rw [e1, e2, e3, Int.toNat_natCast, Int.toNat_natCast, Nat.min_eq_left (by omega), Nat.min_eq_left (by omega), show IntKind.i64.wrap ((2 : Int) ^ j) = (D : Int) by (rw [show ((2 : Int) ^ j) = (D : Int) by (rw [hD.out]; simp)]; exact IntWalk.i64_in _ (by omega)), IntWalk.i64_in _ (by omega)]
        exact HQ.out
      go_wp2_with fail
      go_region_law (first
        | (refine step_append_lies _ (by rfl) _ _ _ (by rfl) (w.heap.size + 1) 2 i0 _ 1 8 Tryd.underlying26 hi hz0 hz1 hz2 rfl (by omega) (.slice A j c) j (L.map (Value.int .i64)) (by rfl) ((hown.alloc _).drew) ⟨wr.heap.size, 0, none⟩ 1 1 [.int .i64 P] (by rfl) (by rfl) (World.news_of_block (cs := #[.int .i64 P]) (t := 2) (fr := (0, 0)) (heap_alloc_new wr _)) (by simp [Value.oneCell']) (by omega) (by unfold maxLen; omega) (by omega) (by simp; omega) (wr.heap.size + 1) (by simp) ?_; intro gg cap w1 hown1 hgrow hat hlt2; have HPU := Lib.hid (Own.pushed hown (grown_undrew hgrow) hown1); clear hgrow hown1; obtain ⟨d0, d1, g0, g1⟩ := (HPU.out.2.1 _ _ _ HBX.out (by decide)).two)
        | (go_simp; go_at_call 56; rw [HA.out]; refine (l10Peg_calls j M _ (by omega)).mono ?_; rintro e w' ⟨rfl, rfl⟩; rw [← hP.out]; dsimp only))
      all_goals
        go_wp2
        go_roundw
        case rel =>
          refine ⟨j + 1, by omega, by go_num, some ⟨gg, 0, none⟩, cap, ?_, ?_, ?_, ?_⟩
          · exact (HPU.out.2.1 _ _ _ HBX.out (by decide)).set 1 _
          · rw [hst.out]
            exact HPU.out.1.setBoxed (HPU.out.2.1 _ _ _ HBX.out (by decide)) (by decide) _ _
          · exact (HPU.out.2.1 _ _ _ HBR.out (by decide)).other (by simp; omega) _
          · exact (HB.out.trans (HPU.out.2.2.2 _ (by omega) hs)).setCell (by simp; omega) _
        case measure => simp [intOf]; omega
    · obtain rfl : j = n := by omega
      obtain ⟨r0, r1, g0, g1⟩ := HBR.out.two
      go_wp2
      refine bodyPost_ret (v := .agg #[.int .i64 3, .slice A j c]) (by simp [results, Tryd.results30, go_sem, r0, r1]) rfl ⟨A, c, rfl, ?_, ?_⟩
      · exact ((hown.setBoxed HBR.out (by decide) _ _).setBoxed (HBR.out.set _ _) (by decide) _ _).mono (by omega)
      · exact (HB.out.setCell (Nat.le_refl _) _).setCell (Nat.le_refl _) _

set_option maxHeartbeats 2000000 in
theorem stateAt_calls (t n : Nat) (w : World) (hn : n ≤ 8) (ht : t ≤ 1024) :
    Calls Tryd.prog 28 #[.int .i64 t, .int .i64 n] w fun e w' => ∃ A c, e = .returned (.agg #[.int .i64 3, .slice A n c]) ∧ Own w.heap.size w' A n c (atL t n) ∧ Below w.heap.size w w' := by
  have HBX := Lib.hid (Box.new w 28 #[.int .i64 0, .slice none 0 0])
  have HB0 := Lib.hid ((Below.refl w.heap.size w).alloc (Nat.le_refl _) (.cells #[.int .i64 0, .slice none 0 0] 28))
  have hmk := run_make_row' (P := Tryd.prog) 26 2 (.int .i64 0) 8 Tryd.underlying26 Tryd.infoI rfl .i64 .i64 n (by omega) (by omega)
  go_enter Tryd.func28, Tryd.ntmps28
  go_wp2
  go_loopw [6, 11] (fun _ i wr => ∃ j : Nat, j ≤ n ∧ i = .int .i64 j ∧ wr.rowIs (w.heap.size + 1) 2 n (upto (atL t n) j) ∧ Box wr (w.heap.size + 1 + 1) 28 #[.int .i64 3, .slice (some ⟨w.heap.size + 1, 0, none⟩) n n] ∧ Box wr w.heap.size 28 #[.int .i64 0, .slice none 0 0] ∧ Below w.heap.size w wr) (fun _ i _ => n - (intOf i).toNat)
  case atStart =>
    have e2 := World.rowIs_made (w.alloc (.cells #[.int .i64 0, .slice none 0 0] 28)) (.int .i64 0) n 2
    rw [World.size_alloc] at e2
    have e3 := Box.new ((w.alloc (.cells #[.int .i64 0, .slice none 0 0] 28)).alloc (.cells (madeCells #[.int .i64 0] n) 2)) 28 #[.int .i64 3, .slice (some ⟨w.heap.size + 1, 0, none⟩) n n]
    simp only [World.size_alloc] at e3
    exact ⟨0, Nat.zero_le _, rfl, (e2.congr (fun i _ => by simp [upto])).alloc _, e3, (HBX.out.alloc _).alloc _, (HB0.out.alloc (by simp) _).alloc (by simp; omega) _⟩
  case round =>
    obtain ⟨j, hj, rfl, hrow, hy, hbx, hb⟩ := hrel
    have HX := Lib.hid hbx
    have HY := Lib.hid hy
    have HB := Lib.hid hb
    clear hbx hb
    by_cases hlt : j < n
    · obtain ⟨M, hM⟩ : ∃ M, Hid (M = mvN t j) := ⟨_, rfl⟩
      obtain ⟨P, hP⟩ : ∃ P, Hid (P = pgN j M) := ⟨_, rfl⟩
      have hMb : M ≤ 1025 := by rw [hM.out]; exact mvN_le ht
      have hat : Hid ((atL t n)[j]?.getD 0 = (P : Int)) := by unfold Hid; rw [hP.out, hM.out]; exact atL_at t n hlt
      have hst := Lib.hid (upto_step (atL t n) j)
      have hold := hrow.cell hlt
      have hfz := hrow.frozen j
      have HR := Lib.hid hrow
      obtain ⟨y0, y1, _, _⟩ := hy.two
      clear hrow hy
      generalize atL t n = L at *
      go_wp2_with fail
      go_region_law (first
        | (go_simp; go_at_call 52; refine (movesOfDisc_calls t j _ (by omega) (by omega)).mono ?_; rintro e w' ⟨rfl, rfl⟩; rw [← hM.out]; dsimp only)
        | (go_simp; go_at_call 55; refine (pegBehind_calls j M _ (by omega)).mono ?_; rintro e w' ⟨rfl, rfl⟩; rw [← hP.out]; dsimp only))
      all_goals
        go_wp2
        go_roundw
        case rel =>
          refine ⟨j + 1, by omega, by go_num, (HR.out.drew.set j _).congr (fun i _ => ?_), (show Box wr.drew _ _ _ from HY.out).other (by simp) _, (show Box wr.drew _ _ _ from HX.out).other (by simp) _, (HB.out.drew).setCell (by simp) _⟩
          have := hst.out i
          rw [hat.out] at this
          exact this
        case measure => simp [intOf]; omega
    · obtain rfl : j = n := by omega
      have HR := Lib.hid hrow
      have hDl := Lib.hid (atL_len t j)
      obtain ⟨y0, y1, _, _⟩ := hy.two
      obtain ⟨r0, r1, g0, g1⟩ := HX.out.two
      clear hrow hy
      go_wp2
      have hrow' : Row wr (w.heap.size + 1) 2 (atL t j) := by
        unfold Row
        rw [hDl.out]
        exact HR.out.congr (fun i hi => by simp [upto, hi])
      have hown := hrow'.own (B := w.heap.size) (by omega) (by rw [hDl.out]; omega)
      rw [hDl.out] at hown
      refine bodyPost_ret (v := .agg #[.int .i64 3, .slice (some ⟨w.heap.size + 1, 0, none⟩) j j]) (by simp [results, Tryd.results28, go_sem, r0, r1]) rfl ⟨_, _, rfl, ?_, ?_⟩
      · exact (hown.setBoxed HX.out (by decide) _ _).setBoxed (HX.out.set _ _) (by decide) _ _
      · exact (HB.out.setCell (Nat.le_refl _) _).setCell (Nat.le_refl _) _

def staB (t n : Int) : Bool := inB n 0 8 && inB t 0 (((2 ^ n.toNat : Nat) : Int) - 1)
def staP (t n : Int) : Int := if staB t n = true then 3 else 0
def staL (t n : Int) : List Int := if staB t n = true then atL t.toNat n.toNat else []
def staE (t n : Int) : Int := if staB t n = true then 0 else 2
theorem sta_yes {t n : Int} (h : staB t n = true) : staP t n = 3 ∧ staL t n = atL t.toNat n.toNat ∧ staE t n = 0 := by unfold staP staL staE; simp [h]
theorem sta_no {t n : Int} (h : staB t n = false) : staP t n = 0 ∧ staL t n = [] ∧ staE t n = 2 := by unfold staP staL staE; simp [h]
theorem staL_len (t n : Int) : (staL t n).length ≤ 8 := by
  unfold staL
  by_cases h : staB t n = true
  · rw [if_pos h, atL_len]
    unfold staB at h
    simp only [Bool.and_eq_true] at h
    have := inB_of h.1
    omega
  · rw [if_neg h]; simp

set_option maxHeartbeats 1000000 in
theorem specStateAt_ret (t n : Int) (w : World) :
    Calls Tryd.prog 7 #[.int .i64 t, .int .i64 n] w (RetState w (staP t n) (staL t n).length (staL t n) (staE t n)) := by
  have HBX := Lib.hid (Box.new w 28 #[.int .i64 0, .slice none 0 0])
  have HB0 := Lib.hid ((Below.refl w.heap.size w).alloc (Nat.le_refl _) (.cells #[.int .i64 0, .slice none 0 0] 28))
  by_cases hb : inB n 0 8 = true
  · have h0 := inB_of hb
    obtain ⟨m, rfl⟩ := Int.eq_ofNat_of_zero_le h0.1
    obtain ⟨N, hN⟩ : ∃ N : Nat, Hid (N = 2 ^ m) := ⟨_, rfl⟩
    have hNb : 1 ≤ N ∧ N ≤ 256 := by rw [hN.out]; exact pow2n8' (by omega)
    have HW : Hid (wrap64 ((2 : Int) ^ m) = (N : Int)) := by unfold Hid; rw [hN.out]; exact wrap_pow41 (by omega)
    by_cases hc : inB t 0 ((N : Int) - 1) = true
    · have h1 := inB_of hc
      obtain ⟨k, rfl⟩ := Int.eq_ofNat_of_zero_le h1.1
      obtain ⟨q1, q2, q3⟩ := sta_yes (t := k) (n := m) (by unfold staB; rw [hb, Int.toNat_natCast, ← hN.out, hc]; rfl)
      rw [q1, q2, q3, Int.toNat_natCast, Int.toNat_natCast, atL_len]
      have hw := HW.out
      clear q1 q2 q3
      go_enter Tryd.func7, Tryd.ntmps7
      go_wp2_with fail
      refine (l01In_calls m 0 8 _).mono ?_
      rintro e w' ⟨rfl, rfl⟩
      go_wp2_with fail
      refine (l01In_calls k 0 ((N : Int) - 1) _).mono ?_
      rintro e w' ⟨rfl, rfl⟩
      clear hw
      go_wp2_with fail
      refine (l10State_calls k m _ (by omega) (by omega)).mono ?_
      rintro e w1 ⟨A, c, rfl, hO, hb⟩
      have HBX1 := Lib.hid (HBX.out.below hb (by simp))
      have HO := Lib.hid hO
      have HB := Lib.hid (HB0.out.trans (hb.mono (by simp)))
      obtain ⟨r0, r1, g0, g1⟩ := HBX1.out.two
      clear hO hb
      go_wp2
      refine bodyPost_ret (v := .tuple #[.agg #[.int .i64 3, .slice A m c], .int .i64 0]) (by simp [results, Tryd.results7, go_sem, r0, r1]) rfl ⟨A, c, rfl, ?_, ?_⟩
      · have h2 := HO.out.mono (B' := w.heap.size) (by simp)
        exact (h2.setBoxed HBX1.out (by decide) _ _).setBoxed (HBX1.out.set _ _) (by decide) _ _
      · exact (HB.out.setCell (Nat.le_refl _) _).setCell (Nat.le_refl _) _
    · have hc' : inB t 0 ((N : Int) - 1) = false := by simpa using hc
      obtain ⟨q1, q2, q3⟩ := sta_no (t := t) (n := m) (by unfold staB; rw [hb, Int.toNat_natCast, ← hN.out, hc']; rfl)
      rw [q1, q2, q3]
      have hw := HW.out
      clear q1 q2 q3 hc
      go_enter Tryd.func7, Tryd.ntmps7
      go_wp2_with fail
      refine (l01In_calls m 0 8 _).mono ?_
      rintro e w' ⟨rfl, rfl⟩
      go_wp2_with fail
      refine (l01In_calls t 0 ((N : Int) - 1) _).mono ?_
      rintro e w' ⟨rfl, rfl⟩
      clear hw
      go_wp2
      refine bodyPost_ret (v := .tuple #[.agg #[.int .i64 0, .slice none 0 0], .int .i64 2]) (by simp [results, Tryd.results7, go_sem]) rfl (retState_zero rfl ?_)
      first | exact HB0.out | exact (HB0.out.setCell (Nat.le_refl _) _).setCell (Nat.le_refl _) _
  · have hb' : inB n 0 8 = false := by simpa using hb
    obtain ⟨q1, q2, q3⟩ := sta_no (t := t) (n := n) (by unfold staB; rw [hb']; rfl)
    rw [q1, q2, q3]
    clear q1 q2 q3 hb
    go_enter Tryd.func7, Tryd.ntmps7
    go_wp2_with fail
    refine (l01In_calls n 0 8 _).mono ?_
    rintro e w' ⟨rfl, rfl⟩
    go_wp2
    refine bodyPost_ret (v := .tuple #[.agg #[.int .i64 0, .slice none 0 0], .int .i64 2]) (by simp [results, Tryd.results7, go_sem]) rfl (retState_zero rfl ?_)
    first | exact HB0.out | exact (HB0.out.setCell (Nat.le_refl _) _).setCell (Nat.le_refl _) _

set_option maxHeartbeats 1000000 in
theorem implStateAt_ret (t n : Int) (w : World) :
    Calls Tryd.prog 6 #[.int .i64 t, .int .i64 n] w (RetState w (staP t n) (staL t n).length (staL t n) (staE t n)) := by
  have HBX := Lib.hid (Box.new w 28 #[.int .i64 0, .slice none 0 0])
  have HB0 := Lib.hid ((Below.refl w.heap.size w).alloc (Nat.le_refl _) (.cells #[.int .i64 0, .slice none 0 0] 28))
  by_cases hb : inB n 0 8 = true
  · have h0 := inB_of hb
    obtain ⟨m, rfl⟩ := Int.eq_ofNat_of_zero_le h0.1
    obtain ⟨N, hN⟩ : ∃ N : Nat, Hid (N = 2 ^ m) := ⟨_, rfl⟩
    have hNb : 1 ≤ N ∧ N ≤ 256 := by rw [hN.out]; exact pow2n8' (by omega)
    have HW : Hid (wrap64 ((2 : Int) ^ m) = (N : Int)) := by unfold Hid; rw [hN.out]; exact wrap_pow41 (by omega)
    by_cases hc : inB t 0 ((N : Int) - 1) = true
    · have h1 := inB_of hc
      obtain ⟨k, rfl⟩ := Int.eq_ofNat_of_zero_le h1.1
      obtain ⟨q1, q2, q3⟩ := sta_yes (t := k) (n := m) (by unfold staB; rw [hb, Int.toNat_natCast, ← hN.out, hc]; rfl)
      rw [q1, q2, q3, Int.toNat_natCast, Int.toNat_natCast, atL_len]
      have hw := HW.out
      clear q1 q2 q3
      go_enter Tryd.func6, Tryd.ntmps6
      go_wp2_with fail
      refine (isUpTo_calls m 8 _).mono ?_
      rintro e w' ⟨rfl, rfl⟩
      go_wp2_with fail
      refine (isUpTo_calls k ((N : Int) - 1) _).mono ?_
      rintro e w' ⟨rfl, rfl⟩
      clear hw
      go_wp2_with fail
      refine (stateAt_calls k m _ (by omega) (by omega)).mono ?_
      rintro e w1 ⟨A, c, rfl, hO, hb⟩
      have HBX1 := Lib.hid (HBX.out.below hb (by simp))
      have HO := Lib.hid hO
      have HB := Lib.hid (HB0.out.trans (hb.mono (by simp)))
      obtain ⟨r0, r1, g0, g1⟩ := HBX1.out.two
      clear hO hb
      go_wp2
      refine bodyPost_ret (v := .tuple #[.agg #[.int .i64 3, .slice A m c], .int .i64 0]) (by simp [results, Tryd.results6, go_sem, r0, r1]) rfl ⟨A, c, rfl, ?_, ?_⟩
      · have h2 := HO.out.mono (B' := w.heap.size) (by simp)
        exact (h2.setBoxed HBX1.out (by decide) _ _).setBoxed (HBX1.out.set _ _) (by decide) _ _
      · exact (HB.out.setCell (Nat.le_refl _) _).setCell (Nat.le_refl _) _
    · have hc' : inB t 0 ((N : Int) - 1) = false := by simpa using hc
      obtain ⟨q1, q2, q3⟩ := sta_no (t := t) (n := m) (by unfold staB; rw [hb, Int.toNat_natCast, ← hN.out, hc']; rfl)
      rw [q1, q2, q3]
      have hw := HW.out
      clear q1 q2 q3 hc
      go_enter Tryd.func6, Tryd.ntmps6
      go_wp2_with fail
      refine (isUpTo_calls m 8 _).mono ?_
      rintro e w' ⟨rfl, rfl⟩
      go_wp2_with fail
      refine (isUpTo_calls t ((N : Int) - 1) _).mono ?_
      rintro e w' ⟨rfl, rfl⟩
      clear hw
      go_wp2
      refine bodyPost_ret (v := .tuple #[.agg #[.int .i64 0, .slice none 0 0], .int .i64 2]) (by simp [results, Tryd.results6, go_sem]) rfl (retState_zero rfl ?_)
      first | exact HB0.out | exact (HB0.out.setCell (Nat.le_refl _) _).setCell (Nat.le_refl _) _
  · have hb' : inB n 0 8 = false := by simpa using hb
    obtain ⟨q1, q2, q3⟩ := sta_no (t := t) (n := n) (by unfold staB; rw [hb']; rfl)
    rw [q1, q2, q3]
    clear q1 q2 q3 hb
    go_enter Tryd.func6, Tryd.ntmps6
    go_wp2_with fail
    refine (isUpTo_calls n 8 _).mono ?_
    rintro e w' ⟨rfl, rfl⟩
    go_wp2
    refine bodyPost_ret (v := .tuple #[.agg #[.int .i64 0, .slice none 0 0], .int .i64 2]) (by simp [results, Tryd.results6, go_sem]) rfl (retState_zero rfl ?_)
    first | exact HB0.out | exact (HB0.out.setCell (Nat.le_refl _) _).setCell (Nat.le_refl _) _

end Go.Proofs.YtcicjnpnhaddcaaDoor
