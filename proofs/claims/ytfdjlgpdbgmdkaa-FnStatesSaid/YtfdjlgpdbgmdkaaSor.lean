/- Contracts: the state of a rank. -/
import Derived.Test.YtfdjlgpdbgmdkaaPerfect
import Derived.Test.YtfdjlgpdbgmdkaaRank
import Derived.Deep.AppendLies
import Derived.Deep.RegionLaw
namespace Go.Proofs.Ytfdjlgpdbgmdkaa
open Go.RowKit
set_option linter.unusedVariables false

/-- What is left of r behind j divisions by k, and the rests on the way. -/
def restR (k : Int) : Nat → Int → Int
  | 0, r => r
  | j + 1, r => restR k j r / k
def digR (k : Int) : Nat → Int → List Int
  | 0, _ => []
  | j + 1, r => digR k j r ++ [restR k j r % k]
theorem digR_len (k r : Int) : ∀ j, (digR k j r).length = j
  | 0 => rfl
  | j + 1 => by simp [digR, digR_len k r j]
theorem restR_bd {k r : Int} (hk : 3 ≤ k) (h0 : 0 ≤ r) : ∀ j, 0 ≤ restR k j r ∧ restR k j r ≤ r
  | 0 => ⟨h0, Int.le_refl _⟩
  | j + 1 => by
    have ih := restR_bd hk h0 j
    have h1 : 0 ≤ restR k j r / k := Int.ediv_nonneg ih.1 (by omega)
    have h2 : restR k j r / k ≤ restR k j r := Int.ediv_le_self _ ih.1
    exact ⟨h1, by show restR k j r / k ≤ r; omega⟩

theorem digR_at (k r : Int) {j : Nat} : ∀ m, j < m → (digR k m r)[j]?.getD 0 = restR k j r % k
  | 0, h => absurd h (by omega)
  | m + 1, h => by
    have hl := digR_len k r m
    unfold digR
    by_cases hj : j < m
    · rw [List.getElem?_append_left (by omega)]
      exact digR_at k r m hj
    · obtain rfl : j = m := by omega
      rw [List.getElem?_append_right (by omega), hl]
      simp

set_option maxHeartbeats 1000000 in
theorem l01OfRank_calls (k r : Int) (n : Nat) (w : World) (hn : n ≤ 8) (hk : 3 ≤ k) (hk5 : k ≤ 5) (hr : 0 ≤ r) (hr2 : r ≤ 6561) :
    Calls Try.prog 65 #[.int .i64 k, .int .i64 n, .int .i64 r] w fun e w' => ∃ A c, e = .returned (.agg #[.int .i64 k, .slice A n c]) ∧ Own w.heap.size w' A n c (digR k n r) ∧ Below w.heap.size w w' := by
  obtain ⟨i0, hi, hz0, hz1, hz2⟩ := info_parts Try.infoI
  go_enter Try.func65, Try.ntmps65
  go_wp2
  go_loopw [1, 2] (fun m q wr => ∃ j : Nat, j ≤ n ∧ m = .int .i64 ((n : Int) - j) ∧ q = .int .i64 (restR k j r) ∧ ∃ A c, Box wr (w.heap.size + 1 + 1) 26 #[.int .i64 k, .slice A j c] ∧ Own (w.heap.size + 1) wr A j c (digR k j r) ∧ Box wr w.heap.size 26 #[.int .i64 0, .slice none 0 0] ∧ Below w.heap.size w wr) (fun m _ _ => (intOf m).toNat)
  case atStart =>
    have e1 : Box (w.alloc (.cells #[.int .i64 0, .slice none 0 0] 26)) w.heap.size 26 #[.int .i64 0, .slice none 0 0] := Box.new _ _ _
    have e2 : Box ((w.alloc (.cells #[.int .i64 0, .slice none 0 0] 26)).alloc (.cells #[] 2)) (w.heap.size + 1) 2 #[] := by
      have := Box.new (w.alloc (.cells #[.int .i64 0, .slice none 0 0] 26)) 2 #[]
      simpa using this
    have e3 := Box.new ((w.alloc (.cells #[.int .i64 0, .slice none 0 0] 26)).alloc (.cells #[] 2)) 26 #[.int .i64 k, .slice (some ⟨w.heap.size + 1, 0, none⟩) 0 0]
    simp only [World.size_alloc] at e3
    exact ⟨0, Nat.zero_le _, by simp, rfl, _, _, e3, Own.emptyAt (e2.alloc _) (Nat.le_refl _), (e1.alloc _).alloc _, (((Below.refl _ _).alloc (Nat.le_refl _) _).alloc (by simp) _).alloc (by simp; omega) _⟩
  case round =>
    obtain ⟨j, hj, rfl, rfl, A, c, hbx, hown, hbr, hb⟩ := hrel
    obtain ⟨c0, c1, f0, f1⟩ := hbx.two
    have HBX := Lib.hid hbx
    have HBR := Lib.hid hbr
    have HB := Lib.hid hb
    have hs := hb.size
    have hs2 := hbx.lt
    have hrb := restR_bd hk hr j
    clear hbx hbr hb
    by_cases hlt : j < n
    · have hst : Hid (digR k (j + 1) r = digR k j r ++ [restR k j r % k]) := rfl
      have hst2 : Hid (restR k (j + 1) r = restR k j r / k) := rfl
      have hdig : Hid ((digR k j r).length = j) := digR_len k r j
      generalize restR k j r = q at *
      generalize digR k j r = D at *
      have hk0 : ¬ k = 0 := by omega
      have hm0 : 0 ≤ q % k := Int.emod_nonneg _ (by omega)
      have hm1 : q % k < k := Int.emod_lt_of_pos _ (by omega)
      have hmod : q.tmod k = q % k := Int.tmod_eq_emod_of_nonneg hrb.1
      go_wp2_with fail
      go_region_law ((refine step_append_lies _ (by rfl) _ _ _ (by rfl) (w.heap.size + 1) 2 i0 _ 1 8 Try.underlying24 hi hz0 hz1 hz2 rfl (by omega) (.slice A j c) j (D.map (Value.int .i64)) (by rfl) ((hown.alloc _).drew) ⟨wr.heap.size, 0, none⟩ 1 1 [.int .i64 (q % k)] (by rfl) (by rfl) (World.news_of_block (cs := #[.int .i64 (q % k)]) (t := 2) (fr := (0, 0)) (heap_alloc_new wr _)) (by simp [Value.oneCell']) (by omega) (by unfold maxLen; omega) (by omega) (by simp; omega) (wr.heap.size + 1) (by simp) ?_; intro gg cap w1 hown1 hgrow hat hlt2; have HP := Lib.hid (Own.pushed hown (grown_undrew hgrow) hown1); clear hgrow hown1; obtain ⟨d0, d1, g0, g1⟩ := (HP.out.2.1 _ _ _ HBX.out (by decide)).two))
      all_goals
        clear hm0 hm1 hmod
        go_wp2
        go_roundw
        case rel =>
          refine ⟨j + 1, by omega, by go_num, by rw [hst2.out], some ⟨gg, 0, none⟩, cap, ?_, ?_, ?_, ?_⟩
          · exact (HP.out.2.1 _ _ _ HBX.out (by decide)).set 1 _
          · rw [hst.out]
            exact HP.out.1.setBoxed (HP.out.2.1 _ _ _ HBX.out (by decide)) (by decide) _ _
          · exact (HP.out.2.1 _ _ _ HBR.out (by decide)).other (by simp; omega) _
          · exact (HB.out.trans (HP.out.2.2.2 _ (by omega) hs)).setCell (by simp; omega) _
        case measure => simp [intOf]; omega
    · obtain rfl : j = n := by omega
      obtain ⟨r0, r1, g0, g1⟩ := HBR.out.two
      go_wp2
      refine bodyPost_ret (v := .agg #[.int .i64 k, .slice A j c]) (by simp [results, Try.results65, go_sem, r0, r1]) rfl ⟨A, c, rfl, ?_, ?_⟩
      · exact ((hown.setBoxed HBR.out (by decide) _ _).setBoxed (HBR.out.set _ _) (by decide) _ _).mono (by omega)
      · exact (HB.out.setCell (Nat.le_refl _) _).setCell (Nat.le_refl _) _

/-- What StateOfRank answers. -/
def sorB (k n r : Int) : Bool := fitsB k n && inB r 0 (powI k n.toNat - 1)
def sorP (k n r : Int) : Int := if sorB k n r = true then k else 0
def sorL (k n r : Int) : List Int := if sorB k n r = true then digR k n.toNat r else []
def sorE (k n r : Int) : Int := if sorB k n r = true then 0 else 2
theorem sorL_len (k n r : Int) : (sorL k n r).length ≤ 1048576 := by
  unfold sorL
  by_cases h : sorB k n r = true
  · rw [if_pos h, digR_len]
    unfold sorB at h
    simp only [Bool.and_eq_true] at h
    have := fitsB_bd h.1
    omega
  · rw [if_neg h]; simp
theorem sor_yes {k n r : Int} (h : sorB k n r = true) : sorP k n r = k ∧ sorL k n r = digR k n.toNat r ∧ sorE k n r = 0 := by unfold sorP sorL sorE; simp [h]
theorem sor_no {k n r : Int} (h : sorB k n r = false) : sorP k n r = 0 ∧ sorL k n r = [] ∧ sorE k n r = 2 := by unfold sorP sorL sorE; simp [h]

set_option maxHeartbeats 400000 in
theorem specStateOfRank_ret (k n r : Int) (w : World) :
    Calls Try.prog 27 #[.int .i64 k, .int .i64 n, .int .i64 r] w (RetState w (sorP k n r) (sorL k n r).length (sorL k n r) (sorE k n r)) := by
  have hbx : Box (w.alloc (.cells #[.int .i64 0, .slice none 0 0] 26)) w.heap.size 26 #[.int .i64 0, .slice none 0 0] := Box.new _ _ _
  have hb0 : Below w.heap.size w (w.alloc (.cells #[.int .i64 0, .slice none 0 0] 26)) := (Below.refl _ _).alloc (Nat.le_refl _) _
  have HBX := Lib.hid hbx
  have HB0 := Lib.hid hb0
  clear hbx hb0
  by_cases hf : fitsB k n = true
  · have hbd := fitsB_bd hf
    have hpw := fitsB_pow hf
    obtain ⟨m, rfl⟩ := Int.eq_ofNat_of_zero_le hbd.2.2.1
    rw [Int.toNat_natCast] at hpw
    have hp1 := powI_pos hbd.1 m
    by_cases hp : inB r 0 (powI k m - 1) = true
    · have hrr := inB_of hp
      obtain ⟨q1, q2, q3⟩ := sor_yes (k := k) (n := m) (r := r) (by unfold sorB; rw [hf, Int.toNat_natCast, hp]; rfl)
      rw [q1, q2, q3, Int.toNat_natCast, digR_len]
      clear q1 q2 q3
      go_enter Try.func27, Try.ntmps27
      go_wp2_with fail
      refine (l01Fits_calls k m _).mono ?_
      rintro e w' ⟨rfl, rfl⟩
      go_wp2_with fail
      refine (l01Size_calls k m _ (by omega) (by omega) (by omega)).mono ?_
      rintro e w' ⟨rfl, rfl⟩
      go_wp2_with fail
      refine (l01In_calls r 0 (powI k m - 1) _).mono ?_
      rintro e w' ⟨rfl, rfl⟩
      go_wp2_with fail
      refine (l01OfRank_calls k r m _ (by omega) (by omega) (by omega) (by omega) (by omega)).mono ?_
      rintro e w1 ⟨A, c, rfl, hO, hb⟩
      have HBX1 := Lib.hid (HBX.out.below hb (by simp))
      have HO := Lib.hid hO
      have HB := Lib.hid (HB0.out.trans (hb.mono (by simp)))
      obtain ⟨r0, r1, g0, g1⟩ := HBX1.out.two
      clear hO hb
      go_wp2
      refine bodyPost_ret (v := .tuple #[.agg #[.int .i64 k, .slice A m c], .int .i64 0]) (by simp [results, Try.results27, go_sem, r0, r1]) rfl ⟨A, c, rfl, ?_, ?_⟩
      · have h2 := HO.out.mono (B' := w.heap.size) (by simp)
        exact (h2.setBoxed HBX1.out (by decide) _ _).setBoxed (HBX1.out.set _ _) (by decide) _ _
      · exact (HB.out.setCell (Nat.le_refl _) _).setCell (Nat.le_refl _) _
    · have hp' : inB r 0 (powI k m - 1) = false := by simpa using hp
      obtain ⟨q1, q2, q3⟩ := sor_no (k := k) (n := m) (r := r) (by unfold sorB; rw [hf, Int.toNat_natCast, hp']; rfl)
      rw [q1, q2, q3]
      clear q1 q2 q3 hp
      go_enter Try.func27, Try.ntmps27
      go_wp2_with fail
      refine (l01Fits_calls k m _).mono ?_
      rintro e w' ⟨rfl, rfl⟩
      go_wp2_with fail
      refine (l01Size_calls k m _ (by omega) (by omega) (by omega)).mono ?_
      rintro e w' ⟨rfl, rfl⟩
      go_wp2_with fail
      refine (l01In_calls r 0 (powI k m - 1) _).mono ?_
      rintro e w' ⟨rfl, rfl⟩
      go_wp2
      refine bodyPost_ret (v := .tuple #[.agg #[.int .i64 0, .slice none 0 0], .int .i64 2]) (by simp [results, Try.results27, go_sem]) rfl (retState_zero rfl ?_)
      first | exact HB0.out | exact (HB0.out.setCell (Nat.le_refl _) _).setCell (Nat.le_refl _) _
  · have hf' : fitsB k n = false := by simpa using hf
    obtain ⟨q1, q2, q3⟩ := sor_no (k := k) (n := n) (r := r) (by unfold sorB; rw [hf']; rfl)
    rw [q1, q2, q3]
    clear q1 q2 q3 hf
    go_enter Try.func27, Try.ntmps27
    go_wp2_with fail
    refine (l01Fits_calls k n _).mono ?_
    rintro e w' ⟨rfl, rfl⟩
    go_wp2
    refine bodyPost_ret (v := .tuple #[.agg #[.int .i64 0, .slice none 0 0], .int .i64 2]) (by simp [results, Try.results27, go_sem]) rfl (retState_zero rfl ?_)
    first | exact HB0.out | exact (HB0.out.setCell (Nat.le_refl _) _).setCell (Nat.le_refl _) _

set_option maxHeartbeats 1000000 in
theorem stateOfRank_calls (k r : Int) (m : Nat) (w : World) (hm : m ≤ 8) (hk : 3 ≤ k) (hk5 : k ≤ 5) (hr0 : 0 ≤ r) (hr2 : r ≤ 6561) :
    Calls Try.prog 44 #[.int .i64 k, .int .i64 m, .int .i64 r] w fun e w' => ∃ A c, e = .returned (.agg #[.int .i64 k, .slice A m c]) ∧ Own w.heap.size w' A m c (digR k m r) ∧ Below w.heap.size w w' := by
  have HBX := Lib.hid (Box.new w 26 #[.int .i64 0, .slice none 0 0])
  have HB0 := Lib.hid ((Below.refl w.heap.size w).alloc (Nat.le_refl _) (.cells #[.int .i64 0, .slice none 0 0] 26))
  have hmk := run_make_row' (P := Try.prog) 24 2 (.int .i64 0) 8 Try.underlying24 Try.infoI rfl .i64 .i64 m (by omega) (by omega)
  go_enter Try.func44, Try.ntmps44
  go_wp2
  go_loopw [2, 8, 13] (fun q _ i wr => ∃ j : Nat, j ≤ m ∧ i = .int .i64 j ∧ q = .int .i64 (restR k j r) ∧ wr.rowIs (w.heap.size + 1) 2 m (upto (digR k m r) j) ∧ Box wr w.heap.size 26 #[.int .i64 0, .slice none 0 0] ∧ Below w.heap.size w wr) (fun _ _ i _ => m - (intOf i).toNat)
  case atStart =>
    have e2 := World.rowIs_made (w.alloc (.cells #[.int .i64 0, .slice none 0 0] 26)) (.int .i64 0) m 2
    rw [World.size_alloc] at e2
    exact ⟨0, Nat.zero_le _, rfl, rfl, e2.congr (fun i _ => by simp [upto]), HBX.out.alloc _, HB0.out.alloc (by simp) _⟩
  case round =>
    obtain ⟨j, hj, rfl, rfl, hrow, hbx, hb⟩ := hrel
    have HBX := Lib.hid hbx
    have HB := Lib.hid hb
    have hrb := restR_bd hk hr0 j
    clear hbx hb
    by_cases hlt : j < m
    · have hfz := hrow.frozen j
      have hold := hrow.cell hlt
      have HR := Lib.hid hrow
      clear hrow
      have hst := Lib.hid (upto_step (digR k m r) j)
      have hat := Lib.hid (digR_at k r m hlt)
      have hst2 : Hid (restR k (j + 1) r = restR k j r / k) := rfl
      generalize hD : digR k m r = D at *
      clear hD
      generalize hq : restR k j r = q at *
      clear hq
      go_wp2
      go_roundw
      case rel =>
        refine ⟨j + 1, by omega, by go_num, by rw [hst2.out], (HR.out.set j _).congr (fun i _ => ?_), HBX.out.other (by simp) _, HB.out.setCell (by simp) _⟩
        have := hst.out i
        rw [hat.out] at this
        exact this
      case measure => simp [intOf]; omega
    · obtain rfl : j = m := by omega
      have HR := Lib.hid hrow
      have hDl := Lib.hid (digR_len k r j)
      clear hrow
      obtain ⟨r0, r1, g0, g1⟩ := HBX.out.two
      go_wp2
      have hrow' : Row wr (w.heap.size + 1) 2 (digR k j r) := by
        unfold Row
        rw [hDl.out]
        exact HR.out.congr (fun i hi => by simp [upto, hi])
      have hown := hrow'.own (B := w.heap.size) (by omega) (by rw [hDl.out]; omega)
      rw [hDl.out] at hown
      refine bodyPost_ret (v := .agg #[.int .i64 k, .slice (some ⟨w.heap.size + 1, 0, none⟩) j j]) (by simp [results, Try.results44, go_sem, r0, r1]) rfl ⟨_, _, rfl, ?_, ?_⟩
      · exact (hown.setBoxed HBX.out (by decide) _ _).setBoxed (HBX.out.set _ _) (by decide) _ _
      · exact (HB.out.setCell (Nat.le_refl _) _).setCell (Nat.le_refl _) _

set_option maxHeartbeats 1000000 in
theorem implStateOfRank_ret (k n r : Int) (w : World) :
    Calls Try.prog 10 #[.int .i64 k, .int .i64 n, .int .i64 r] w (RetState w (sorP k n r) (sorL k n r).length (sorL k n r) (sorE k n r)) := by
  have hbx : Box (w.alloc (.cells #[.int .i64 0, .slice none 0 0] 26)) w.heap.size 26 #[.int .i64 0, .slice none 0 0] := Box.new _ _ _
  have hb0 : Below w.heap.size w (w.alloc (.cells #[.int .i64 0, .slice none 0 0] 26)) := (Below.refl _ _).alloc (Nat.le_refl _) _
  have HBX := Lib.hid hbx
  have HB0 := Lib.hid hb0
  clear hbx hb0
  by_cases hf : fitsB k n = true
  · have hbd := fitsB_bd hf
    have hpw := fitsB_pow hf
    have hnum := numOf_yes hf
    obtain ⟨m, rfl⟩ := Int.eq_ofNat_of_zero_le hbd.2.2.1
    rw [Int.toNat_natCast] at hpw hnum
    have hp1 := powI_pos hbd.1 m
    by_cases hp : 0 ≤ r ∧ r < powI k m
    · obtain ⟨q1, q2, q3⟩ := sor_yes (k := k) (n := m) (r := r) (by unfold sorB; rw [hf, Int.toNat_natCast, inB_yes (by omega) (by omega)]; rfl)
      rw [q1, q2, q3, Int.toNat_natCast, digR_len]
      obtain ⟨hr0, hr1⟩ := hp
      clear q1 q2 q3
      go_enter Try.func10, Try.ntmps10
      go_wp2_with fail
      refine (numberOfStates_calls k m _).mono ?_
      rintro e w' ⟨rfl, rfl⟩
      go_wp2_with fail
      refine (stateOfRank_calls k r m _ (by omega) (by omega) (by omega) (by omega) (by omega)).mono ?_
      rintro e w1 ⟨A, c, rfl, hO, hb⟩
      have HBX1 := Lib.hid (HBX.out.below hb (by simp))
      have HO := Lib.hid hO
      have HB := Lib.hid (HB0.out.trans (hb.mono (by simp)))
      obtain ⟨r0, r1, g0, g1⟩ := HBX1.out.two
      clear hO hb
      go_wp2
      refine bodyPost_ret (v := .tuple #[.agg #[.int .i64 k, .slice A m c], .int .i64 0]) (by simp [results, Try.results10, go_sem, r0, r1]) rfl ⟨A, c, rfl, ?_, ?_⟩
      · have h2 := HO.out.mono (B' := w.heap.size) (by simp)
        exact (h2.setBoxed HBX1.out (by decide) _ _).setBoxed (HBX1.out.set _ _) (by decide) _ _
      · exact (HB.out.setCell (Nat.le_refl _) _).setCell (Nat.le_refl _) _
    · obtain ⟨q1, q2, q3⟩ := sor_no (k := k) (n := m) (r := r) (by unfold sorB; rw [hf, Int.toNat_natCast, inB_no (by omega)]; rfl)
      rw [q1, q2, q3]
      clear q1 q2 q3
      by_cases hr0 : r < 0
      · go_enter Try.func10, Try.ntmps10
        go_wp2_with fail
        refine (numberOfStates_calls k m _).mono ?_
        rintro e w' ⟨rfl, rfl⟩
        go_wp2
        refine bodyPost_ret (v := .tuple #[.agg #[.int .i64 0, .slice none 0 0], .int .i64 2]) (by simp [results, Try.results10, go_sem]) rfl (retState_zero rfl ?_)
        first | exact HB0.out | exact (HB0.out.setCell (Nat.le_refl _) _).setCell (Nat.le_refl _) _
      · have hr1 : powI k m ≤ r := by omega
        clear hp
        go_enter Try.func10, Try.ntmps10
        go_wp2_with fail
        refine (numberOfStates_calls k m _).mono ?_
        rintro e w' ⟨rfl, rfl⟩
        go_wp2
        refine bodyPost_ret (v := .tuple #[.agg #[.int .i64 0, .slice none 0 0], .int .i64 2]) (by simp [results, Try.results10, go_sem]) rfl (retState_zero rfl ?_)
        first | exact HB0.out | exact (HB0.out.setCell (Nat.le_refl _) _).setCell (Nat.le_refl _) _
  · have hf' : fitsB k n = false := by simpa using hf
    obtain ⟨q1, q2, q3⟩ := sor_no (k := k) (n := n) (r := r) (by unfold sorB; rw [hf']; rfl)
    rw [q1, q2, q3]
    clear q1 q2 q3 hf
    go_enter Try.func10, Try.ntmps10
    go_wp2_with fail
    refine (numberOfStates_calls k n _).mono ?_
    rintro e w' ⟨rfl, rfl⟩
    go_wp2
    refine bodyPost_ret (v := .tuple #[.agg #[.int .i64 0, .slice none 0 0], .int .i64 2]) (by simp [results, Try.results10, go_sem]) rfl (retState_zero rfl ?_)
    first | exact HB0.out | exact (HB0.out.setCell (Nat.le_refl _) _).setCell (Nat.le_refl _) _

end Go.Proofs.Ytfdjlgpdbgmdkaa
