/- Contracts: the perfect state. -/
import Derived.Test.YtfdjlgpdbgmdkaaMark
import Derived.Test.YtfdjlgpdbgmdkaaState1
import Derived.Maps.AppendAt
namespace Go.Proofs.Ytfdjlgpdbgmdkaa
open Go.RowKit
set_option linter.unusedVariables false

set_option maxHeartbeats 400000 in
theorem l01Perfect_calls (k a : Int) (n : Nat) (w : World) (hn : n ≤ 8) :
    Calls Try.prog 61 #[.int .i64 k, .int .i64 n, .int .i64 a] w fun e w' => ∃ A c, e = .returned (.agg #[.int .i64 k, .slice A n c]) ∧ Own w.heap.size w' A n c (List.replicate n a) ∧ Below w.heap.size w w' := by
  obtain ⟨i0, hi, hz0, hz1, hz2⟩ := info_parts Try.infoI
  go_enter Try.func61, Try.ntmps61
  go_wp2
  go_loopw [1] (fun m wr => ∃ j : Nat, j ≤ n ∧ m = .int .i64 ((n : Int) - j) ∧ ∃ A c, Box wr (w.heap.size + 1 + 1) 26 #[.int .i64 k, .slice A j c] ∧ Own (w.heap.size + 1) wr A j c (List.replicate j a) ∧ Box wr w.heap.size 26 #[.int .i64 0, .slice none 0 0] ∧ Below w.heap.size w wr) (fun m _ => (intOf m).toNat)
  case atStart =>
    have e1 : Box (w.alloc (.cells #[.int .i64 0, .slice none 0 0] 26)) w.heap.size 26 #[.int .i64 0, .slice none 0 0] := Box.new _ _ _
    have e2 : Box ((w.alloc (.cells #[.int .i64 0, .slice none 0 0] 26)).alloc (.cells #[] 2)) (w.heap.size + 1) 2 #[] := by
      have := Box.new (w.alloc (.cells #[.int .i64 0, .slice none 0 0] 26)) 2 #[]
      simpa using this
    have e3 := Box.new ((w.alloc (.cells #[.int .i64 0, .slice none 0 0] 26)).alloc (.cells #[] 2)) 26 #[.int .i64 k, .slice (some ⟨w.heap.size + 1, 0, none⟩) 0 0]
    simp only [World.size_alloc] at e3
    exact ⟨0, Nat.zero_le _, by simp, _, _, e3, Own.emptyAt (e2.alloc _) (Nat.le_refl _), (e1.alloc _).alloc _, (((Below.refl _ _).alloc (Nat.le_refl _) _).alloc (by simp) _).alloc (by simp; omega) _⟩
  case round =>
    obtain ⟨j, hj, rfl, A, c, hbx, hown, hbr, hb⟩ := hrel
    obtain ⟨c0, c1, f0, f1⟩ := hbx.two
    have HBX := Lib.hid hbx
    have HBR := Lib.hid hbr
    have HB := Lib.hid hb
    have hs := hb.size
    have hs2 := hbx.lt
    clear hbx hbr hb
    by_cases hlt : j < n
    · go_wp2_with (at_builtin; refine wpList_append_own _ rfl _ _ 24 rfl (w.heap.size + 1) 2 i0 (.int .i64 0) 1 8 Try.underlying24 hi hz0 hz1 hz2 rfl (by decide) _ _ _ rfl (hown.alloc _) ⟨wr.heap.size, 0, none⟩ 1 1 [.int .i64 a] rfl rfl (cell_one_new _ _ _) (by simp [Value.oneCell']) (by unfold maxLen; omega) (by omega) (by simp; omega) ?_; intro v' w1 hown' hgrow _; obtain ⟨A', c', rfl⟩ := own_shape hown'; have HP := Lib.hid (Own.pushed hown hgrow hown'); clear hown' hgrow; obtain ⟨d0, d1, g0, g1⟩ := (HP.out.2.1 _ _ _ HBX.out (by decide)).two)
      go_roundw
      case rel =>
        refine ⟨j + 1, by omega, by go_num, A', c', ?_, ?_, ?_, ?_⟩
        · exact (HP.out.2.1 _ _ _ HBX.out (by decide)).set 1 _
        · rw [List.replicate_succ']
          exact HP.out.1.setBox (fun g hg => by subst hg; exact HP.out.1.ne_box (HP.out.2.1 _ _ _ HBX.out (by decide)) (by decide)) _
        · exact (HP.out.2.1 _ _ _ HBR.out (by decide)).other (by simp; omega) _
        · exact (HB.out.trans (HP.out.2.2.2 _ (by omega) hs)).setCell (by simp; omega) _
      case measure => simp [intOf]; omega
    · obtain rfl : j = n := by omega
      obtain ⟨r0, r1, g0, g1⟩ := HBR.out.two
      go_wp2
      refine bodyPost_ret (v := .agg #[.int .i64 k, .slice A j c]) (by simp [results, Try.results61, go_sem, r0, r1]) rfl ⟨A, c, rfl, ?_, ?_⟩
      · exact ((hown.setBoxed HBR.out (by decide) _ _).setBoxed (HBR.out.set _ _) (by decide) _ _).mono (by omega)
      · exact (HB.out.setCell (Nat.le_refl _) _).setCell (Nat.le_refl _) _

set_option maxHeartbeats 400000 in
theorem perfectState_calls (k a : Int) (n : Nat) (w : World) (hn : n ≤ 8) :
    Calls Try.prog 58 #[.int .i64 k, .int .i64 n, .int .i64 a] w fun e w' => ∃ A c, e = .returned (.agg #[.int .i64 k, .slice A n c]) ∧ Own w.heap.size w' A n c (List.replicate n a) ∧ Below w.heap.size w w' := by
  have hmk := run_make_row' (P := Try.prog) 24 2 (.int .i64 0) 8 Try.underlying24 Try.infoI rfl .i64 .i64 n (by omega) (by omega)
  go_enter Try.func58, Try.ntmps58
  go_wp2
  go_loopw [8, 13] (fun _ i wr => ∃ j : Nat, j ≤ n ∧ i = .int .i64 j ∧ wr.rowIs (w.heap.size + 1) 2 n (upto (List.replicate n a) j) ∧ Box wr w.heap.size 26 #[.int .i64 0, .slice none 0 0] ∧ Below w.heap.size w wr) (fun _ i _ => n - (intOf i).toNat)
  case atStart =>
    have e1 : Box (w.alloc (.cells #[.int .i64 0, .slice none 0 0] 26)) w.heap.size 26 #[.int .i64 0, .slice none 0 0] := Box.new _ _ _
    have e2 := World.rowIs_made (w.alloc (.cells #[.int .i64 0, .slice none 0 0] 26)) (.int .i64 0) n 2
    rw [World.size_alloc] at e2
    exact ⟨0, Nat.zero_le _, rfl, e2.congr (fun i _ => by simp [upto]), e1.alloc _, ((Below.refl _ _).alloc (Nat.le_refl _) _).alloc (by simp) _⟩
  case round =>
    obtain ⟨j, hj, rfl, hrow, hbx, hb⟩ := hrel
    have HBX := Lib.hid hbx
    have HB := Lib.hid hb
    clear hbx hb
    by_cases hlt : j < n
    · have hfz := hrow.frozen j
      have hold := hrow.cell hlt
      have HR := Lib.hid hrow
      clear hrow
      have hst := Lib.hid (upto_step (List.replicate n a) j)
      have hat : Hid ((List.replicate n a)[j]?.getD 0 = a) := by unfold Hid; simp [hlt]
      go_wp2
      go_roundw
      case rel =>
        refine ⟨j + 1, by omega, by go_num, (HR.out.set j _).congr (fun i _ => ?_), HBX.out.other (by simp) _, HB.out.setCell (by simp) _⟩
        have := hst.out i
        rw [hat.out] at this
        exact this
      case measure => simp [intOf]; omega
    · obtain rfl : j = n := by omega
      have HR := Lib.hid hrow
      clear hrow
      obtain ⟨r0, r1, g0, g1⟩ := HBX.out.two
      go_wp2
      have hrow' : Row wr (w.heap.size + 1) 2 (List.replicate j a) := by
        unfold Row
        rw [List.length_replicate]
        exact HR.out.congr (fun i hi => by simp [upto, hi])
      have hown := hrow'.own (B := w.heap.size) (by omega) (by simp; omega)
      rw [List.length_replicate] at hown
      refine bodyPost_ret (v := .agg #[.int .i64 k, .slice (some ⟨w.heap.size + 1, 0, none⟩) j j]) (by simp [results, Try.results58, go_sem, r0, r1]) rfl ⟨_, _, rfl, ?_, ?_⟩
      · exact (hown.setBoxed HBX.out (by decide) _ _).setBoxed (HBX.out.set _ _) (by decide) _ _
      · exact (HB.out.setCell (Nat.le_refl _) _).setCell (Nat.le_refl _) _

/-- What PerfectState answers. -/
def perfB (k n a : Int) : Bool := fitsB k n && inB a 0 (k - 1)
def perfP (k n a : Int) : Int := if perfB k n a = true then k else 0
def perfL (k n a : Int) : List Int := if perfB k n a = true then List.replicate n.toNat a else []
def perfE (k n a : Int) : Int := if perfB k n a = true then 0 else 2
theorem perfL_len (k n a : Int) : (perfL k n a).length ≤ 1048576 := by
  unfold perfL
  by_cases h : perfB k n a = true
  · rw [if_pos h, List.length_replicate]
    unfold perfB at h
    simp only [Bool.and_eq_true] at h
    have := fitsB_bd h.1
    omega
  · rw [if_neg h]; simp
theorem perf_yes {k n a : Int} (h : perfB k n a = true) : perfP k n a = k ∧ perfL k n a = List.replicate n.toNat a ∧ perfE k n a = 0 := by unfold perfP perfL perfE; simp [h]
theorem perf_no {k n a : Int} (h : perfB k n a = false) : perfP k n a = 0 ∧ perfL k n a = [] ∧ perfE k n a = 2 := by unfold perfP perfL perfE; simp [h]

/-- The answer where there is none: no state, and a code. -/
theorem retState_zero {w w' : World} {e : Ending} {E : Int} (he : e = .returned (.tuple #[.agg #[.int .i64 0, .slice none 0 0], .int .i64 E])) (hb : Below w.heap.size w w') : RetState w 0 ([] : List Int).length [] E e w' :=
  ⟨none, 0, he, Own.nilS _ _, hb⟩

set_option maxHeartbeats 400000 in
theorem specPerfectState_ret (k n a : Int) (w : World) :
    Calls Try.prog 22 #[.int .i64 k, .int .i64 n, .int .i64 a] w (RetState w (perfP k n a) (perfL k n a).length (perfL k n a) (perfE k n a)) := by
  have hbx : Box (w.alloc (.cells #[.int .i64 0, .slice none 0 0] 26)) w.heap.size 26 #[.int .i64 0, .slice none 0 0] := Box.new _ _ _
  have hb0 : Below w.heap.size w (w.alloc (.cells #[.int .i64 0, .slice none 0 0] 26)) := (Below.refl _ _).alloc (Nat.le_refl _) _
  have HBX := Lib.hid hbx
  have HB0 := Lib.hid hb0
  clear hbx hb0
  by_cases hf : fitsB k n = true
  · have hbd := fitsB_bd hf
    by_cases hp : inB a 0 (k - 1) = true
    · obtain ⟨q1, q2, q3⟩ := perf_yes (k := k) (n := n) (a := a) (by unfold perfB; rw [hf, hp]; rfl)
      obtain ⟨m, rfl⟩ := Int.eq_ofNat_of_zero_le hbd.2.2.1
      rw [q1, q2, q3, Int.toNat_natCast, List.length_replicate]
      clear q1 q2 q3
      go_enter Try.func22, Try.ntmps22
      go_wp2_with fail
      refine (l01Fits_calls k m _).mono ?_
      rintro e w' ⟨rfl, rfl⟩
      go_wp2_with fail
      refine (l01In_calls a 0 (k - 1) _).mono ?_
      rintro e w' ⟨rfl, rfl⟩
      go_wp2_with fail
      refine (l01Perfect_calls k a m _ (by omega)).mono ?_
      rintro e w1 ⟨A, c, rfl, hO, hb⟩
      have HBX1 := Lib.hid (HBX.out.below hb (by simp))
      have HO := Lib.hid hO
      have HB := Lib.hid (HB0.out.trans (hb.mono (by simp)))
      obtain ⟨r0, r1, g0, g1⟩ := HBX1.out.two
      clear hO hb
      go_wp2
      refine bodyPost_ret (v := .tuple #[.agg #[.int .i64 k, .slice A m c], .int .i64 0]) (by simp [results, Try.results22, go_sem, r0, r1]) rfl ⟨A, c, rfl, ?_, ?_⟩
      · have h2 := HO.out.mono (B' := w.heap.size) (by simp)
        exact (h2.setBoxed HBX1.out (by decide) _ _).setBoxed (HBX1.out.set _ _) (by decide) _ _
      · exact (HB.out.setCell (Nat.le_refl _) _).setCell (Nat.le_refl _) _
    · have hp' : inB a 0 (k - 1) = false := by simpa using hp
      obtain ⟨q1, q2, q3⟩ := perf_no (k := k) (n := n) (a := a) (by unfold perfB; rw [hf, hp']; rfl)
      rw [q1, q2, q3]
      clear q1 q2 q3 hp
      go_enter Try.func22, Try.ntmps22
      go_wp2_with fail
      refine (l01Fits_calls k n _).mono ?_
      rintro e w' ⟨rfl, rfl⟩
      go_wp2_with fail
      refine (l01In_calls a 0 (k - 1) _).mono ?_
      rintro e w' ⟨rfl, rfl⟩
      go_wp2
      refine bodyPost_ret (v := .tuple #[.agg #[.int .i64 0, .slice none 0 0], .int .i64 2]) (by simp [results, Try.results22, go_sem]) rfl (retState_zero rfl ?_)
      first | exact HB0.out | exact (HB0.out.setCell (Nat.le_refl _) _).setCell (Nat.le_refl _) _
  · have hf' : fitsB k n = false := by simpa using hf
    obtain ⟨q1, q2, q3⟩ := perf_no (k := k) (n := n) (a := a) (by unfold perfB; rw [hf']; rfl)
    rw [q1, q2, q3]
    clear q1 q2 q3 hf
    go_enter Try.func22, Try.ntmps22
    go_wp2_with fail
    refine (l01Fits_calls k n _).mono ?_
    rintro e w' ⟨rfl, rfl⟩
    go_wp2
    refine bodyPost_ret (v := .tuple #[.agg #[.int .i64 0, .slice none 0 0], .int .i64 2]) (by simp [results, Try.results22, go_sem]) rfl (retState_zero rfl ?_)
    first | exact HB0.out | exact (HB0.out.setCell (Nat.le_refl _) _).setCell (Nat.le_refl _) _

set_option maxHeartbeats 400000 in
theorem implPerfectState_ret (k n a : Int) (w : World) :
    Calls Try.prog 21 #[.int .i64 k, .int .i64 n, .int .i64 a] w (RetState w (perfP k n a) (perfL k n a).length (perfL k n a) (perfE k n a)) := by
  have hbx : Box (w.alloc (.cells #[.int .i64 0, .slice none 0 0] 26)) w.heap.size 26 #[.int .i64 0, .slice none 0 0] := Box.new _ _ _
  have hb0 : Below w.heap.size w (w.alloc (.cells #[.int .i64 0, .slice none 0 0] 26)) := (Below.refl _ _).alloc (Nat.le_refl _) _
  have HBX := Lib.hid hbx
  have HB0 := Lib.hid hb0
  clear hbx hb0
  by_cases hf : fitsB k n = true
  · have hbd := fitsB_bd hf
    by_cases hp : inB a 0 (k - 1) = true
    · obtain ⟨q1, q2, q3⟩ := perf_yes (k := k) (n := n) (a := a) (by unfold perfB; rw [hf, hp]; rfl)
      obtain ⟨m, rfl⟩ := Int.eq_ofNat_of_zero_le hbd.2.2.1
      rw [q1, q2, q3, Int.toNat_natCast, List.length_replicate]
      have hpg : pegB k a = true := by rw [pegB_in]; exact hp
      clear q1 q2 q3 hp
      go_enter Try.func21, Try.ntmps21
      go_wp2_with fail
      refine (numberOfStates_calls k m _).mono ?_
      rintro e w' ⟨rfl, rfl⟩
      go_wp2_with fail
      refine (isPeg_calls k a _).mono ?_
      rintro e w' ⟨rfl, rfl⟩
      go_wp2_with fail
      refine (perfectState_calls k a m _ (by omega)).mono ?_
      rintro e w1 ⟨A, c, rfl, hO, hb⟩
      have HBX1 := Lib.hid (HBX.out.below hb (by simp))
      have HO := Lib.hid hO
      have HB := Lib.hid (HB0.out.trans (hb.mono (by simp)))
      obtain ⟨r0, r1, g0, g1⟩ := HBX1.out.two
      clear hO hb
      go_wp2
      refine bodyPost_ret (v := .tuple #[.agg #[.int .i64 k, .slice A m c], .int .i64 0]) (by simp [results, Try.results21, go_sem, r0, r1]) rfl ⟨A, c, rfl, ?_, ?_⟩
      · have h2 := HO.out.mono (B' := w.heap.size) (by simp)
        exact (h2.setBoxed HBX1.out (by decide) _ _).setBoxed (HBX1.out.set _ _) (by decide) _ _
      · exact (HB.out.setCell (Nat.le_refl _) _).setCell (Nat.le_refl _) _
    · have hp' : inB a 0 (k - 1) = false := by simpa using hp
      obtain ⟨q1, q2, q3⟩ := perf_no (k := k) (n := n) (a := a) (by unfold perfB; rw [hf, hp']; rfl)
      rw [q1, q2, q3]
      have hpg : pegB k a = false := by rw [pegB_in]; exact hp'
      clear q1 q2 q3 hp hp'
      go_enter Try.func21, Try.ntmps21
      go_wp2_with fail
      refine (numberOfStates_calls k n _).mono ?_
      rintro e w' ⟨rfl, rfl⟩
      go_wp2_with fail
      refine (isPeg_calls k a _).mono ?_
      rintro e w' ⟨rfl, rfl⟩
      go_wp2
      refine bodyPost_ret (v := .tuple #[.agg #[.int .i64 0, .slice none 0 0], .int .i64 2]) (by simp [results, Try.results21, go_sem]) rfl (retState_zero rfl ?_)
      first | exact HB0.out | exact (HB0.out.setCell (Nat.le_refl _) _).setCell (Nat.le_refl _) _
  · have hf' : fitsB k n = false := by simpa using hf
    obtain ⟨q1, q2, q3⟩ := perf_no (k := k) (n := n) (a := a) (by unfold perfB; rw [hf']; rfl)
    rw [q1, q2, q3]
    clear q1 q2 q3 hf
    go_enter Try.func21, Try.ntmps21
    go_wp2_with fail
    refine (numberOfStates_calls k n _).mono ?_
    rintro e w' ⟨rfl, rfl⟩
    go_wp2
    refine bodyPost_ret (v := .tuple #[.agg #[.int .i64 0, .slice none 0 0], .int .i64 2]) (by simp [results, Try.results21, go_sem]) rfl (retState_zero rfl ?_)
    first | exact HB0.out | exact (HB0.out.setCell (Nat.le_refl _) _).setCell (Nat.le_refl _) _

end Go.Proofs.Ytfdjlgpdbgmdkaa
