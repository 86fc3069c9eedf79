/- Contracts: the plain numbers of chapter 10. -/
import Derived.Test.YtcicjnpnhaddcaaDoorTt
namespace Go.Proofs.YtcicjnpnhaddcaaDoor
open Go.RowKit
open Go.RowKit (wrap64)
set_option linter.unusedVariables false

/-- How many of the moves at 1 to t are those of the disc d. -/
def mvN (t d : Nat) : Nat := (t + 2 ^ d) / 2 ^ (d + 1)
/-- The peg of a disc behind q moves of it. -/
def pgN (d q : Nat) : Nat := if d % 2 = 0 then q % 3 else (2 * q) % 3
theorem pgN_lt (d q : Nat) : pgN d q < 3 := by unfold pgN; split <;> omega
theorem pgN_even {d q : Nat} (h : d % 2 = 0) : pgN d q = q % 3 := by unfold pgN; rw [if_pos h]
theorem pgN_odd {d q : Nat} (h : ¬ d % 2 = 0) : pgN d q = (2 * q) % 3 := by unfold pgN; rw [if_neg h]
theorem pow2_40 {d : Nat} (h : d ≤ 41) : 1 ≤ 2 ^ d ∧ 2 ^ d ≤ 2199023255552 := ⟨Nat.one_le_two_pow, Nat.le_trans (Nat.pow_le_pow_right (by omega) h) (by decide)⟩
theorem wrap_pow41 {d : Nat} (h : d ≤ 41) : wrap64 ((2 : Int) ^ d) = ((2 ^ d : Nat) : Int) := by
  have h0 := pow2_40 h
  have h1 : ((2 ^ d : Nat) : Int) = (2 : Int) ^ d := by simp
  rw [← h1]
  exact IntWalk.wrap64_in _ (by omega)
def cdB (t d : Int) : Bool := inB t 0 1000000000000 && inB d 0 40
def cdV (t d : Int) : Int := twoV (cdB t d) (mvN t.toNat d.toNat : Int)
def cdE (t d : Int) : Int := twoE (cdB t d)

set_option maxHeartbeats 400000 in
theorem movesOfDisc_calls (t d : Nat) (w : World) (ht : t ≤ 2000000000000) (hd : d ≤ 41) :
    Calls Tryd.prog 52 #[.int .i64 t, .int .i64 d] w fun e w' => e = .returned (.int .i64 (mvN t d)) ∧ w = w' := by
  obtain ⟨D, hD⟩ : ∃ D : Nat, Hid (D = 2 ^ d) := ⟨_, rfl⟩
  have hDb : 1 ≤ D ∧ D ≤ 2199023255552 := by rw [hD.out]; exact pow2_40 hd
  have HW : Hid (wrap64 ((2 : Int) ^ d) = (D : Int)) := by unfold Hid; rw [hD.out]; exact wrap_pow41 hd
  have hw := HW.out
  go_enter Tryd.func52, Tryd.ntmps52
  go_wp2
  go_ret
  exact ⟨ret_int (by unfold mvN; rw [← hD.out]; simp), rfl⟩

theorem pegBehind_calls (d q : Nat) (w : World) (hq : q ≤ 4000000000000) :
    Calls Tryd.prog 55 #[.int .i64 d, .int .i64 q] w fun e w' => e = .returned (.int .i64 (pgN d q)) ∧ w = w' := by
  by_cases h : d % 2 = 0
  · have H := Lib.hid (pgN_even (q := q) h)
    have h2 : (d : Int).tmod 2 = 0 := by rw [Int.tmod_eq_emod_of_nonneg (by omega)]; omega
    go_enter Tryd.func55, Tryd.ntmps55
    go_wp2
    go_ret
    exact ⟨ret_int (by rw [H.out]; first | rfl | omega | (rw [Int.tmod_eq_emod_of_nonneg (by omega)]; omega)), rfl⟩
  · have H := Lib.hid (pgN_odd (q := q) h)
    have h2 : ¬ (d : Int).tmod 2 = 0 := by rw [Int.tmod_eq_emod_of_nonneg (by omega)]; omega
    go_enter Tryd.func55, Tryd.ntmps55
    go_wp2
    go_ret
    exact ⟨ret_int (by rw [H.out]; first | rfl | omega | (rw [Int.tmod_eq_emod_of_nonneg (by omega)]; omega)), rfl⟩

theorem l10Peg_calls (d q : Nat) (w : World) (hq : q ≤ 4000000000000) :
    Calls Tryd.prog 56 #[.int .i64 d, .int .i64 q] w fun e w' => e = .returned (.int .i64 (pgN d q)) ∧ w = w' := by
  by_cases h : d % 2 = 0
  · have H := Lib.hid (pgN_even (q := q) h)
    have h2 : (d : Int).tmod 2 = 0 := by rw [Int.tmod_eq_emod_of_nonneg (by omega)]; omega
    go_enter Tryd.func56, Tryd.ntmps56
    go_wp2
    go_ret
    exact ⟨ret_int (by rw [H.out]; first | rfl | omega | (rw [Int.tmod_eq_emod_of_nonneg (by omega)]; omega)), rfl⟩
  · have H := Lib.hid (pgN_odd (q := q) h)
    have h2 : ¬ (d : Int).tmod 2 = 0 := by rw [Int.tmod_eq_emod_of_nonneg (by omega)]; omega
    go_enter Tryd.func56, Tryd.ntmps56
    go_wp2
    go_ret
    exact ⟨ret_int (by rw [H.out]; first | rfl | omega | (rw [Int.tmod_eq_emod_of_nonneg (by omega), Int.tmod_eq_emod_of_nonneg (by omega)]; omega)), rfl⟩

set_option maxHeartbeats 400000 in
theorem specCountOfDisc_calls (t d : Int) (w : World) :
    Calls Tryd.prog 23 #[.int .i64 t, .int .i64 d] w fun e w' => e = .returned (.tuple #[.int .i64 (cdV t d), .int .i64 (cdE t d)]) ∧ w = w' := by
  by_cases hb : inB t 0 1000000000000 = true
  · have h0 := inB_of hb
    obtain ⟨m, rfl⟩ := Int.eq_ofNat_of_zero_le h0.1
    by_cases hc : inB d 0 40 = true
    · have h1 := inB_of hc
      obtain ⟨k, rfl⟩ := Int.eq_ofNat_of_zero_le h1.1
      have hs : cdB m k = true := by unfold cdB; rw [hb, hc]; rfl
      have H := Lib.hid (show cdV m k = (mvN m k : Int) ∧ cdE m k = 0 from two_yes hs)
      obtain ⟨D, hD⟩ : ∃ D : Nat, Hid (D = 2 ^ k) := ⟨_, rfl⟩
      have hDb : 1 ≤ D ∧ D ≤ 2199023255552 := by rw [hD.out]; exact pow2_40 (by omega)
      have HW : Hid (wrap64 ((2 : Int) ^ k) = (D : Int)) := by unfold Hid; rw [hD.out]; exact wrap_pow41 (by omega)
      have hw := HW.out
      clear hs
      go_enter Tryd.func23, Tryd.ntmps23
      go_wp2_with fail
      refine (l01In_calls m 0 1000000000000 _).mono ?_
      rintro e w' ⟨rfl, rfl⟩
      go_wp2_with fail
      refine (l01In_calls k 0 40 _).mono ?_
      rintro e w' ⟨rfl, rfl⟩
      go_wp2
      go_ret2
      exact ⟨ret_two (by rw [H.out.1]; unfold mvN; rw [← hD.out]; simp) H.out.2, rfl⟩
    · have hc' : inB d 0 40 = false := by simpa using hc
      have hs : cdB m d = false := by unfold cdB; rw [hb, hc']; rfl
      have H := Lib.hid (show cdV m d = 0 ∧ cdE m d = 2 from two_no hs)
      clear hs hc
      go_enter Tryd.func23, Tryd.ntmps23
      go_wp2_with fail
      refine (l01In_calls m 0 1000000000000 _).mono ?_
      rintro e w' ⟨rfl, rfl⟩
      go_wp2_with fail
      refine (l01In_calls d 0 40 _).mono ?_
      rintro e w' ⟨rfl, rfl⟩
      go_wp2
      go_ret2
      exact ⟨ret_two H.out.1 H.out.2, rfl⟩
  · have hb' : inB t 0 1000000000000 = false := by simpa using hb
    have hs : cdB t d = false := by unfold cdB; rw [hb']; rfl
    have H := Lib.hid (show cdV t d = 0 ∧ cdE t d = 2 from two_no hs)
    clear hs hb
    go_enter Tryd.func23, Tryd.ntmps23
    go_wp2_with fail
    refine (l01In_calls t 0 1000000000000 _).mono ?_
    rintro e w' ⟨rfl, rfl⟩
    go_wp2
    go_ret2
    exact ⟨ret_two H.out.1 H.out.2, rfl⟩

set_option maxHeartbeats 400000 in
theorem implCountOfDisc_calls (t d : Int) (w : World) :
    Calls Tryd.prog 22 #[.int .i64 t, .int .i64 d] w fun e w' => e = .returned (.tuple #[.int .i64 (cdV t d), .int .i64 (cdE t d)]) ∧ w = w' := by
  by_cases hb : inB t 0 1000000000000 = true
  · have h0 := inB_of hb
    obtain ⟨m, rfl⟩ := Int.eq_ofNat_of_zero_le h0.1
    by_cases hc : inB d 0 40 = true
    · have h1 := inB_of hc
      obtain ⟨k, rfl⟩ := Int.eq_ofNat_of_zero_le h1.1
      have hs : cdB m k = true := by unfold cdB; rw [hb, hc]; rfl
      have H := Lib.hid (show cdV m k = (mvN m k : Int) ∧ cdE m k = 0 from two_yes hs)
      obtain ⟨D, hD⟩ : ∃ D : Nat, Hid (D = 2 ^ k) := ⟨_, rfl⟩
      have hDb : 1 ≤ D ∧ D ≤ 2199023255552 := by rw [hD.out]; exact pow2_40 (by omega)
      have HW : Hid (wrap64 ((2 : Int) ^ k) = (D : Int)) := by unfold Hid; rw [hD.out]; exact wrap_pow41 (by omega)
      have hw := HW.out
      clear hs
      go_enter Tryd.func22, Tryd.ntmps22
      go_wp2_with fail
      refine (isUpTo_calls m 1000000000000 _).mono ?_
      rintro e w' ⟨rfl, rfl⟩
      go_wp2_with fail
      refine (isUpTo_calls k 40 _).mono ?_
      rintro e w' ⟨rfl, rfl⟩
      go_wp2_with fail
      refine (movesOfDisc_calls m k _ (by omega) (by omega)).mono ?_
      rintro e w' ⟨rfl, rfl⟩
      go_wp2
      go_ret2
      exact ⟨ret_two H.out.1 H.out.2, rfl⟩
    · have hc' : inB d 0 40 = false := by simpa using hc
      have hs : cdB m d = false := by unfold cdB; rw [hb, hc']; rfl
      have H := Lib.hid (show cdV m d = 0 ∧ cdE m d = 2 from two_no hs)
      clear hs hc
      go_enter Tryd.func22, Tryd.ntmps22
      go_wp2_with fail
      refine (isUpTo_calls m 1000000000000 _).mono ?_
      rintro e w' ⟨rfl, rfl⟩
      go_wp2_with fail
      refine (isUpTo_calls d 40 _).mono ?_
      rintro e w' ⟨rfl, rfl⟩
      go_wp2
      go_ret2
      exact ⟨ret_two H.out.1 H.out.2, rfl⟩
  · have hb' : inB t 0 1000000000000 = false := by simpa using hb
    have hs : cdB t d = false := by unfold cdB; rw [hb']; rfl
    have H := Lib.hid (show cdV t d = 0 ∧ cdE t d = 2 from two_no hs)
    clear hs hb
    go_enter Tryd.func22, Tryd.ntmps22
    go_wp2_with fail
    refine (isUpTo_calls t 1000000000000 _).mono ?_
    rintro e w' ⟨rfl, rfl⟩
    go_wp2
    go_ret2
    exact ⟨ret_two H.out.1 H.out.2, rfl⟩

end Go.Proofs.YtcicjnpnhaddcaaDoor
