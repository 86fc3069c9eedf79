/- Contracts: the move at a time. -/
import Derived.Test.YtcicjnpnhaddcaaDoorRg2
import Derived.Test.YtcicjnpnhaddcaaDoorMvS
namespace Go.Proofs.YtcicjnpnhaddcaaDoor
open Go.RowKit
open Go.RowKit (wrap64)
set_option linter.unusedVariables false

/-- The move at t: disc, from, to. -/
def atF (t : Nat) : Nat := pgN (ctz t) (t / 2 ^ (ctz t + 1))
def atT (t : Nat) : Nat := pgN (ctz t) (t / 2 ^ (ctz t + 1) + 1)
def atM (t : Nat) : Mv := ((ctz t : Int), (atF t : Int), (atT t : Int))
theorem atM_is (t : Nat) : atM t = ((ctz t : Int), (atF t : Int), (atT t : Int)) := rfl
theorem ret_mv3 {a b c a' b' c' : Int} (h1 : a = a') (h2 : b = b') (h3 : c = c') : Ending.returned (.agg #[.int .i64 a, .int .i64 b, .int .i64 c]) = .returned (.agg #[.int .i64 a', .int .i64 b', .int .i64 c']) := by rw [h1, h2, h3]

set_option maxHeartbeats 1000000 in
theorem l10Move_calls (t d F G : Nat) (w : World) (h0 : 0 < t) (h1 : t ≤ 2000000000000) (hd : Hid (d = ctz t)) (hF : Hid (F = atF t)) (hG : Hid (G = atT t)) :
    Calls Tryd.prog 41 #[.int .i64 t] w fun e w' => e = .returned (.agg #[.int .i64 d, .int .i64 F, .int .i64 G]) ∧ Below w.heap.size w w' := by
  have hd41 : d < 41 := by rw [hd.out]; exact ctz_41 h0 h1
  obtain ⟨q, hq⟩ : ∃ q : Nat, Hid (q = t / 2 ^ (d + 1)) := ⟨_, rfl⟩
  have hqb : q ≤ 2000000000000 := by rw [hq.out]; exact Nat.le_trans (Nat.div_le_self _ _) h1
  have HQ : Hid (((t : Int) / 2 ^ (d + 1)) = (q : Int)) := by unfold Hid; rw [hq.out]; simp
  have hF' : Hid (F = pgN d q) := by unfold Hid; rw [hF.out, hq.out, hd.out]; rfl
  have hG' : Hid (G = pgN d (q + 1)) := by unfold Hid; rw [hG.out, hq.out, hd.out]; rfl
  have hnew := Lib.hid (Box.new w 36 #[.int .i64 0, .int .i64 0, .int .i64 0])
  go_enter Tryd.func41, Tryd.ntmps41
  go_wp2_with fail
  refine (l10Disc_calls t _ h0 h1).mono ?_
  rintro e w' ⟨rfl, rfl⟩
  rw [← hd.out]
  have hqe := HQ.out
  go_wp2_with fail
  refine (l10Peg_calls d q _ (by omega)).mono ?_
  rintro e w' ⟨rfl, rfl⟩
  rw [← hF'.out]
  clear hqe
  go_wp2_with fail
  refine (l10Peg_calls d (q + 1) _ (by omega)).mono ?_
  rintro e w' ⟨rfl, rfl⟩
  rw [← hG'.out]
  go_wp2
  refine bodyPost_ret (v := .agg #[.int .i64 d, .int .i64 F, .int .i64 G]) (by simp [results, Tryd.results41, go_sem]) rfl ⟨rfl, ?_⟩
  repeat' (first | exact Below.refl _ _ | (refine Below.setCell ?_ (by simp; try omega) _) | (refine Below.alloc ?_ (by simp; try omega) _))

set_option maxHeartbeats 1000000 in
theorem moveAt_calls (t d F G : Nat) (w : World) (h0 : 0 < t) (h1 : t ≤ 2000000000000) (hd : Hid (d = ctz t)) (hF : Hid (F = atF t)) (hG : Hid (G = atT t)) (hT : Tab w) :
    Calls Tryd.prog 40 #[.int .i64 t] w fun e w' => e = .returned (.agg #[.int .i64 d, .int .i64 F, .int .i64 G]) ∧ Below w.heap.size w w' := by
  have hd41 : d < 41 := by rw [hd.out]; exact ctz_41 h0 h1
  obtain ⟨q, hq⟩ : ∃ q : Nat, Hid (q = t / 2 ^ (d + 1)) := ⟨_, rfl⟩
  have hqb : q ≤ 2000000000000 := by rw [hq.out]; exact Nat.le_trans (Nat.div_le_self _ _) h1
  have hM : Hid (mvN t d = q + 1) := by unfold Hid; rw [hq.out, hd.out]; exact mv_at h0 h1
  have hF' : Hid (F = pgN d q) := by unfold Hid; rw [hF.out, hq.out, hd.out]; rfl
  have hG' : Hid (G = pgN d (q + 1)) := by unfold Hid; rw [hG.out, hq.out, hd.out]; rfl
  have hT' := Lib.hid (hT.below ((Below.refl _ w).alloc (Nat.le_refl _) (.cells #[.int .i64 0, .int .i64 0, .int .i64 0] 36)))
  go_enter Tryd.func40, Tryd.ntmps40
  go_wp2_with fail
  refine (ringOfStep_big t _ h0 h1 hT'.out).mono ?_
  rintro e w' ⟨rfl, rfl⟩
  rw [← hd.out]
  go_wp2_with fail
  refine (movesOfDisc_calls t d _ (by omega) (by omega)).mono ?_
  rintro e w' ⟨rfl, rfl⟩
  rw [hM.out]
  go_wp2_with fail
  refine (pegBehind_calls d q _ (by omega)).mono ?_
  rintro e w' ⟨rfl, rfl⟩
  rw [← hF'.out]
  go_wp2_with fail
  refine (pegBehind_calls d (q + 1) _ (by omega)).mono ?_
  rintro e w' ⟨rfl, rfl⟩
  rw [← hG'.out]
  go_wp2
  refine bodyPost_ret (v := .agg #[.int .i64 d, .int .i64 F, .int .i64 G]) (by simp [results, Tryd.results40, go_sem]) rfl ⟨rfl, ?_⟩
  repeat' (first | exact Below.refl _ _ | (refine Below.setCell ?_ (by simp; try omega) _) | (refine Below.alloc ?_ (by simp; try omega) _))

theorem isTime_calls (a : Int) (w : World) :
    Calls Tryd.prog 39 #[.int .i64 a] w fun e w' => e = .returned (.bool (inB a 1 1000000000000)) ∧ w = w' := by
  by_cases h1 : 1 ≤ a
  · by_cases h2 : a ≤ 1000000000000
    · go_enter Tryd.func39, Tryd.ntmps39
      go_wp2
      go_ret
      exact ⟨ret_in (by simp; omega), rfl⟩
    · go_enter Tryd.func39, Tryd.ntmps39
      go_wp2
      go_ret
      exact ⟨ret_in (by simp; omega), rfl⟩
  · go_enter Tryd.func39, Tryd.ntmps39
    go_wp2
    go_ret
    exact ⟨ret_in (by simp; omega), rfl⟩

def daV (t : Int) : Int := twoV (inB t 1 1000000000000) (ctz t.toNat : Int)
def daE (t : Int) : Int := twoE (inB t 1 1000000000000)
set_option maxHeartbeats 400000 in
theorem specDiscAt_calls (t : Int) (w : World) :
    Calls Tryd.prog 16 #[.int .i64 t] w fun e w' => e = .returned (.tuple #[.int .i64 (daV t), .int .i64 (daE t)]) ∧ Below w.heap.size w w' := by
  by_cases hb : inB t 1 1000000000000 = true
  · have h0 := inB_of hb
    obtain ⟨m, rfl⟩ := Int.eq_ofNat_of_zero_le (a := t) (by omega)
    have H := Lib.hid (show daV m = (ctz m : Int) ∧ daE m = 0 from two_yes hb)
    go_enter Tryd.func16, Tryd.ntmps16
    go_wp2_with fail
    refine (l01In_calls m 1 1000000000000 _).mono ?_
    rintro e w' ⟨rfl, rfl⟩
    go_wp2_with fail
    refine (l10Disc_calls m _ (by omega) (by omega)).mono ?_
    rintro e w' ⟨rfl, rfl⟩
    go_wp2
    go_ret2
    exact ⟨ret_two H.out.1 H.out.2, Below.refl _ _⟩
  · have hb' : inB t 1 1000000000000 = false := by simpa using hb
    have H := Lib.hid (show daV t = 0 ∧ daE t = 2 from two_no hb')
    clear hb
    go_enter Tryd.func16, Tryd.ntmps16
    go_wp2_with fail
    refine (l01In_calls t 1 1000000000000 _).mono ?_
    rintro e w' ⟨rfl, rfl⟩
    go_wp2
    go_ret2
    exact ⟨ret_two H.out.1 H.out.2, Below.refl _ _⟩

theorem mv_field (x y z : Int) : ∀ w : World, (Instr.field 36 (.agg #[.int .i64 x, .int .i64 y, .int .i64 z]) 0).run Tryd.prog w = .ok (.int .i64 x) w := fun _ => by kernel_rfl

set_option maxHeartbeats 400000 in
theorem implDiscAt_calls (t : Int) (w : World) (hT : Tab w) :
    Calls Tryd.prog 15 #[.int .i64 t] w fun e w' => e = .returned (.tuple #[.int .i64 (daV t), .int .i64 (daE t)]) ∧ Below w.heap.size w w' := by
  by_cases hb : inB t 1 1000000000000 = true
  · have h0 := inB_of hb
    obtain ⟨m, rfl⟩ := Int.eq_ofNat_of_zero_le (a := t) (by omega)
    have H := Lib.hid (show daV m = (ctz m : Int) ∧ daE m = 0 from two_yes hb)
    obtain ⟨d, hd⟩ : ∃ d, Hid (d = ctz m) := ⟨_, rfl⟩
    rw [← hd.out] at H
    go_enter Tryd.func15, Tryd.ntmps15
    go_wp2_with fail
    refine (isTime_calls m _).mono ?_
    rintro e w' ⟨rfl, rfl⟩
    go_wp2_with fail
    refine (moveAt_calls m d _ _ _ (by omega) (by omega) hd rfl rfl hT).mono ?_
    rintro e w' ⟨rfl, hb'⟩
    have HB := Lib.hid hb'
    clear hb'
    have hfd := mv_field (d : Int) (atF m : Int) (atT m : Int)
    go_wp2
    go_ret2
    exact ⟨ret_two H.out.1 H.out.2, HB.out⟩
  · have hb' : inB t 1 1000000000000 = false := by simpa using hb
    have H := Lib.hid (show daV t = 0 ∧ daE t = 2 from two_no hb')
    clear hb
    go_enter Tryd.func15, Tryd.ntmps15
    go_wp2_with fail
    refine (isTime_calls t _).mono ?_
    rintro e w' ⟨rfl, rfl⟩
    go_wp2
    go_ret2
    exact ⟨ret_two H.out.1 H.out.2, Below.refl _ _⟩

def RetMd (w : World) (m : Mv) (E : Int) (e : Ending) (w' : World) : Prop := e = .returned (.tuple #[.agg #[.int .i64 m.1, .int .i64 m.2.1, .int .i64 m.2.2], .int .i64 E]) ∧ Below w.heap.size w w'
def maM (t : Int) : Mv := if inB t 1 1000000000000 = true then atM t.toNat else (0, 0, 0)
def maE (t : Int) : Int := twoE (inB t 1 1000000000000)
theorem ma_yes {m : Nat} (h : inB (m : Int) 1 1000000000000 = true) : maM m = ((ctz m : Int), (atF m : Int), (atT m : Int)) ∧ maE m = 0 := by
  unfold maM maE twoE
  rw [if_pos h, if_pos h]
  exact ⟨rfl, rfl⟩
theorem ma_no {t : Int} (h : inB t 1 1000000000000 = false) : maM t = (0, 0, 0) ∧ maE t = 2 := by
  unfold maM maE twoE
  rw [h]
  exact ⟨rfl, rfl⟩

set_option maxHeartbeats 1000000 in
theorem specMoveAt_ret (t : Int) (w : World) :
    Calls Tryd.prog 14 #[.int .i64 t] w (RetMd w (maM t) (maE t)) := by
  have X0 := Lib.hid (Box.new w 36 #[.int .i64 0, .int .i64 0, .int .i64 0])
  have HB0 := Lib.hid ((Below.refl _ w).alloc (Nat.le_refl _) (.cells #[.int .i64 0, .int .i64 0, .int .i64 0] 36))
  by_cases hb : inB t 1 1000000000000 = true
  · have h0 := inB_of hb
    obtain ⟨m, rfl⟩ := Int.eq_ofNat_of_zero_le (a := t) (by omega)
    have H := Lib.hid (ma_yes hb)
    obtain ⟨d, hd⟩ : ∃ d, Hid (d = ctz m) := ⟨_, rfl⟩
    obtain ⟨F, hF⟩ : ∃ d, Hid (d = atF m) := ⟨_, rfl⟩
    obtain ⟨G, hG⟩ : ∃ d, Hid (d = atT m) := ⟨_, rfl⟩
    rw [← hd.out, ← hF.out, ← hG.out] at H
    go_enter Tryd.func14, Tryd.ntmps14
    go_wp2_with fail
    refine (l01In_calls m 1 1000000000000 _).mono ?_
    rintro e w' ⟨rfl, rfl⟩
    go_wp2_with fail
    refine (l10Move_calls m d F G _ (by omega) (by omega) hd hF hG).mono ?_
    rintro e w' ⟨rfl, hb1⟩
    have hX := X0.out.below hb1 X0.out.lt
    obtain ⟨z0, z1, z2⟩ := hX.three
    have f0 := hX.frozen 0
    have f1 := hX.frozen 1
    have f2 := hX.frozen 2
    have HB := Lib.hid (((HB0.out.trans (hb1.mono HB0.out.size)).setCell (p := ⟨w.heap.size, 0, none⟩) (Nat.le_refl _) (.int .i64 d)))
    have HB1 := Lib.hid hb1
    have HX := Lib.hid (((hX.set 0 (.int .i64 d)).set 1 (.int .i64 F)).set 2 (.int .i64 G))
    clear hb1 hX
    go_wp2
    obtain ⟨g0, g1, g2⟩ := Box.three (show Box _ w.heap.size 36 #[.int .i64 d, .int .i64 F, .int .i64 G] from HX.out)
    refine bodyPost_ret (v := .tuple #[.agg #[.int .i64 d, .int .i64 F, .int .i64 G], .int .i64 0]) (by simp [results, Tryd.results14, go_sem, g0, g1, g2]) rfl ⟨?_, ?_⟩
    · rw [H.out.1, H.out.2]
    · exact (((HB0.out.trans (HB1.out.mono HB0.out.size)).setCell (Nat.le_refl _) _).setCell (Nat.le_refl _) _).setCell (Nat.le_refl _) _
  · have hb' : inB t 1 1000000000000 = false := by simpa using hb
    have H := Lib.hid (ma_no hb')
    clear hb
    go_enter Tryd.func14, Tryd.ntmps14
    go_wp2_with fail
    refine (l01In_calls t 1 1000000000000 _).mono ?_
    rintro e w' ⟨rfl, rfl⟩
    go_wp2
    refine bodyPost_ret (v := .tuple #[.agg #[.int .i64 0, .int .i64 0, .int .i64 0], .int .i64 2]) (by simp [results, Tryd.results14, go_sem]) rfl ⟨?_, ?_⟩
    · rw [H.out.1, H.out.2]
    · repeat' (first | exact Below.refl _ _ | (refine Below.setCell ?_ (by simp; try omega) _) | (refine Below.alloc ?_ (by simp; try omega) _))

set_option maxHeartbeats 1000000 in
theorem implMoveAt_ret (t : Int) (w : World) (hT : Tab w) :
    Calls Tryd.prog 13 #[.int .i64 t] w (RetMd w (maM t) (maE t)) := by
  have X0 := Lib.hid (Box.new w 36 #[.int .i64 0, .int .i64 0, .int .i64 0])
  have HB0 := Lib.hid ((Below.refl _ w).alloc (Nat.le_refl _) (.cells #[.int .i64 0, .int .i64 0, .int .i64 0] 36))
  have hT' := Lib.hid (hT.below HB0.out)
  clear hT
  by_cases hb : inB t 1 1000000000000 = true
  · have h0 := inB_of hb
    obtain ⟨m, rfl⟩ := Int.eq_ofNat_of_zero_le (a := t) (by omega)
    have H := Lib.hid (ma_yes hb)
    obtain ⟨d, hd⟩ : ∃ d, Hid (d = ctz m) := ⟨_, rfl⟩
    obtain ⟨F, hF⟩ : ∃ d, Hid (d = atF m) := ⟨_, rfl⟩
    obtain ⟨G, hG⟩ : ∃ d, Hid (d = atT m) := ⟨_, rfl⟩
    rw [← hd.out, ← hF.out, ← hG.out] at H
    go_enter Tryd.func13, Tryd.ntmps13
    go_wp2_with fail
    refine (isTime_calls m _).mono ?_
    rintro e w' ⟨rfl, rfl⟩
    go_wp2_with fail
    refine (moveAt_calls m d F G _ (by omega) (by omega) hd hF hG hT'.out).mono ?_
    rintro e w' ⟨rfl, hb1⟩
    have hX := X0.out.below hb1 X0.out.lt
    obtain ⟨z0, z1, z2⟩ := hX.three
    have f0 := hX.frozen 0
    have f1 := hX.frozen 1
    have f2 := hX.frozen 2
    have HB := Lib.hid (((HB0.out.trans (hb1.mono HB0.out.size)).setCell (p := ⟨w.heap.size, 0, none⟩) (Nat.le_refl _) (.int .i64 d)))
    have HB1 := Lib.hid hb1
    have HX := Lib.hid (((hX.set 0 (.int .i64 d)).set 1 (.int .i64 F)).set 2 (.int .i64 G))
    clear hb1 hX
    go_wp2
    obtain ⟨g0, g1, g2⟩ := Box.three (show Box _ w.heap.size 36 #[.int .i64 d, .int .i64 F, .int .i64 G] from HX.out)
    refine bodyPost_ret (v := .tuple #[.agg #[.int .i64 d, .int .i64 F, .int .i64 G], .int .i64 0]) (by simp [results, Tryd.results13, go_sem, g0, g1, g2]) rfl ⟨?_, ?_⟩
    · rw [H.out.1, H.out.2]
    · exact (((HB0.out.trans (HB1.out.mono HB0.out.size)).setCell (Nat.le_refl _) _).setCell (Nat.le_refl _) _).setCell (Nat.le_refl _) _
  · have hb' : inB t 1 1000000000000 = false := by simpa using hb
    have H := Lib.hid (ma_no hb')
    clear hb
    go_enter Tryd.func13, Tryd.ntmps13
    go_wp2_with fail
    refine (isTime_calls t _).mono ?_
    rintro e w' ⟨rfl, rfl⟩
    go_wp2
    refine bodyPost_ret (v := .tuple #[.agg #[.int .i64 0, .int .i64 0, .int .i64 0], .int .i64 2]) (by simp [results, Tryd.results13, go_sem]) rfl ⟨?_, ?_⟩
    · rw [H.out.1, H.out.2]
    · repeat' (first | exact Below.refl _ _ | (refine Below.setCell ?_ (by simp; try omega) _) | (refine Below.alloc ?_ (by simp; try omega) _))

end Go.Proofs.YtcicjnpnhaddcaaDoor
