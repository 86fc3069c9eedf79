/- Contracts: the plain numbers of chapter 9. -/
import Derived.Test.YtlhcenhlcajgnaaPop
import Derived.Test.YtlhcenhlcajgnaaPow2
namespace Go.Proofs.Ytlhcenhlcajgnaa
open Go.RowKit
open Go.RowKit (wrap64)
set_option linter.unusedVariables false

theorem pop_le_of {k m : Nat} (h : k < 2 ^ m) (hm : m ≤ 32) : pop k ≤ m := by unfold pop; rw [popF_fuel m k h 32 hm]; exact popF_le _ _
theorem pow2n8' {n : Nat} (h : n ≤ 8) : 1 ≤ 2 ^ n ∧ 2 ^ n ≤ 256 :=
  ⟨Nat.one_le_two_pow, Nat.le_trans (Nat.pow_le_pow_right (by omega) h) (by decide)⟩
theorem digitNumber_at (x p : Nat) (w : World) (hx : x < 4294967296) (hp : Hid (p = pop x)) :
    Calls Try.prog 21 #[.int .i64 x] w fun e w' => e = .returned (.int .i64 p) ∧ w = w' := by rw [hp.out]; exact digitNumber_calls x w hx
theorem l09Digits_at (x p : Nat) (w : World) (hx : x < 4294967296) (hp : Hid (p = pop x)) :
    Calls Try.prog 17 #[.int .i64 x] w fun e w' => e = .returned (.int .i64 p) ∧ w = w' := by rw [hp.out]; exact l09Digits_calls x w hx

theorem isUpTo_calls (a hi : Int) (w : World) :
    Calls Try.prog 18 #[.int .i64 a, .int .i64 hi] w fun e w' => e = .returned (.bool (inB a 0 hi)) ∧ w = w' := by
  by_cases h1 : 0 ≤ a
  · by_cases h2 : a ≤ hi
    · go_enter Try.func18, Try.ntmps18
      go_wp2
      go_ret
      exact ⟨ret_in (by simp; omega), rfl⟩
    · go_enter Try.func18, Try.ntmps18
      go_wp2
      go_ret
      exact ⟨ret_in (by simp; omega), rfl⟩
  · go_enter Try.func18, Try.ntmps18
    go_wp2
    go_ret
    exact ⟨ret_in (by simp; omega), rfl⟩

def dgV (d : Int) : Int := if inB d 0 1000000000 = true then (pop d.toNat : Int) else 0
def dgE (d : Int) : Int := if inB d 0 1000000000 = true then 0 else 2
theorem dg_yes {d : Nat} (h : inB (d : Int) 0 1000000000 = true) : dgV d = (pop d : Int) ∧ dgE d = 0 := by unfold dgV dgE; rw [if_pos h, if_pos h, Int.toNat_natCast]; exact ⟨rfl, rfl⟩
theorem dg_no {d : Int} (h : inB d 0 1000000000 = false) : dgV d = 0 ∧ dgE d = 2 := by unfold dgV dgE; rw [h]; exact ⟨rfl, rfl⟩
def twoV (b : Bool) (v : Int) : Int := if b = true then v else 0
def twoE (b : Bool) : Int := if b = true then 0 else 2
theorem two_yes {b : Bool} {v : Int} (h : b = true) : twoV b v = v ∧ twoE b = 0 := by unfold twoV twoE; rw [h]; exact ⟨rfl, rfl⟩
theorem two_no {b : Bool} {v : Int} (h : b = false) : twoV b v = 0 ∧ twoE b = 2 := by unfold twoV twoE; rw [h]; exact ⟨rfl, rfl⟩
def saB (n d : Int) : Bool := inB n 0 8 && inB d 0 (((2 ^ n.toNat : Nat) : Int) - 1)
def saV (n d : Int) : Int := twoV (saB n d) ((2 ^ pop d.toNat : Nat) : Int)
def saE (n d : Int) : Int := twoE (saB n d)
def shB (n d : Int) : Bool := inB n 0 8 && inB d 0 (n - 1)
def shV (n d : Int) : Int := twoV (shB n d) ((2 ^ (n - 1 - d).toNat : Nat) : Int)
def shE (n d : Int) : Int := twoE (shB n d)


set_option maxHeartbeats 400000 in
theorem specDigitNumber_calls (d : Int) (w : World) :
    Calls Try.prog 9 #[.int .i64 d] w fun e w' => e = .returned (.tuple #[.int .i64 (dgV d), .int .i64 (dgE d)]) ∧ w = w' := by
  by_cases hb : inB d 0 1000000000 = true
  · have h0 := inB_of hb
    obtain ⟨m, rfl⟩ := Int.eq_ofNat_of_zero_le h0.1
    have H := Lib.hid (dg_yes hb)
    obtain ⟨p, hp⟩ : ∃ p, Hid (p = pop m) := ⟨_, rfl⟩
    go_enter Try.func9, Try.ntmps9
    go_wp2_with fail
    refine (l01In_calls m 0 1000000000 _).mono ?_
    rintro e w' ⟨rfl, rfl⟩
    go_wp2_with fail
    refine (l09Digits_at m p _ (by omega) hp).mono ?_
    rintro e w' ⟨rfl, rfl⟩
    go_wp2
    go_ret2
    exact ⟨ret_two (by rw [H.out.1, hp.out]) H.out.2, rfl⟩
  · have hb' : inB d 0 1000000000 = false := by simpa using hb
    have H := Lib.hid (dg_no hb')
    clear hb
    go_enter Try.func9, Try.ntmps9
    go_wp2_with fail
    refine (l01In_calls d 0 1000000000 _).mono ?_
    rintro e w' ⟨rfl, rfl⟩
    go_wp2
    go_ret2
    exact ⟨ret_two H.out.1 H.out.2, rfl⟩


set_option maxHeartbeats 400000 in
theorem implDigitNumber_calls (d : Int) (w : World) :
    Calls Try.prog 10 #[.int .i64 d] w fun e w' => e = .returned (.tuple #[.int .i64 (dgV d), .int .i64 (dgE d)]) ∧ w = w' := by
  by_cases hb : inB d 0 1000000000 = true
  · have h0 := inB_of hb
    obtain ⟨m, rfl⟩ := Int.eq_ofNat_of_zero_le h0.1
    have H := Lib.hid (dg_yes hb)
    obtain ⟨p, hp⟩ : ∃ p, Hid (p = pop m) := ⟨_, rfl⟩
    go_enter Try.func10, Try.ntmps10
    go_wp2_with fail
    refine (isUpTo_calls m 1000000000 _).mono ?_
    rintro e w' ⟨rfl, rfl⟩
    go_wp2_with fail
    refine (digitNumber_at m p _ (by omega) hp).mono ?_
    rintro e w' ⟨rfl, rfl⟩
    go_wp2
    go_ret2
    exact ⟨ret_two (by rw [H.out.1, hp.out]) H.out.2, rfl⟩
  · have hb' : inB d 0 1000000000 = false := by simpa using hb
    have H := Lib.hid (dg_no hb')
    clear hb
    go_enter Try.func10, Try.ntmps10
    go_wp2_with fail
    refine (isUpTo_calls d 1000000000 _).mono ?_
    rintro e w' ⟨rfl, rfl⟩
    go_wp2
    go_ret2
    exact ⟨ret_two H.out.1 H.out.2, rfl⟩


set_option maxHeartbeats 1000000 in
theorem specStatesAtDistance_calls (n d : Int) (w : World) :
    Calls Try.prog 11 #[.int .i64 n, .int .i64 d] w fun e w' => e = .returned (.tuple #[.int .i64 (saV n d), .int .i64 (saE n d)]) ∧ w = w' := by
  by_cases hb : inB n 0 8 = true
  · have h0 := inB_of hb
    obtain ⟨m, rfl⟩ := Int.eq_ofNat_of_zero_le h0.1
    obtain ⟨N, hN⟩ : ∃ N : Nat, Hid (N = 2 ^ m) := ⟨_, rfl⟩
    have hm8 : m ≤ 8 := by omega
    have hm16 : m ≤ 16 := by omega
    have hNb : 1 ≤ N ∧ N ≤ 256 := by rw [hN.out]; exact pow2n8' hm8
    have HWP : Hid (wrap64 ((2 : Int) ^ m) = (N : Int)) := by unfold Hid; rw [hN.out]; exact wrap_pow hm16
    by_cases hc : inB d 0 ((N : Int) - 1) = true
    · have h1 := inB_of hc
      obtain ⟨k, rfl⟩ := Int.eq_ofNat_of_zero_le h1.1
      have hs : saB m k = true := by unfold saB; rw [hb, Int.toNat_natCast, ← hN.out, hc]; rfl
      have H := Lib.hid (show saV m k = ((2 ^ pop k : Nat) : Int) ∧ saE m k = 0 from two_yes hs)
      obtain ⟨p, hp⟩ : ∃ p, Hid (p = pop k) := ⟨_, rfl⟩
      obtain ⟨Q, hQ⟩ : ∃ Q : Nat, Hid (Q = 2 ^ p) := ⟨_, rfl⟩
      have hp8 : p ≤ 8 := by rw [hp.out]; exact Nat.le_trans (pop_le_of (by rw [← hN.out]; omega) (by omega)) hm8
      have hp16 : p ≤ 16 := by omega
      have HWQ : Hid (wrap64 ((2 : Int) ^ p) = (Q : Int)) := by unfold Hid; rw [hQ.out]; exact wrap_pow hp16
      have hk256 : k < 256 := by omega
      clear hs
      go_enter Try.func11, Try.ntmps11
      go_wp2_with fail
      refine (l01In_calls m 0 8 _).mono ?_
      rintro e w' ⟨rfl, rfl⟩
      go_wp2_with fail
      refine (l01Size_two m N _ hm16 hN).mono ?_
      rintro e w' ⟨rfl, rfl⟩
      go_wp2_with fail
      refine (l01In_calls k 0 ((N : Int) - 1) _).mono ?_
      rintro e w' ⟨rfl, rfl⟩
      go_wp2_with fail
      refine (l09Digits_at k p _ (by omega) hp).mono ?_
      rintro e w' ⟨rfl, rfl⟩
      go_wp2_with fail
      refine (l01Size_two p Q _ hp16 hQ).mono ?_
      rintro e w' ⟨rfl, rfl⟩
      go_wp2
      go_ret2
      exact ⟨ret_two (by first | rw [H.out.1, hQ.out, hp.out] | rw [H.out.1, HWQ.out, hQ.out, hp.out]) H.out.2, rfl⟩
    · have hc' : inB d 0 ((N : Int) - 1) = false := by simpa using hc
      have hs : saB m d = false := by unfold saB; rw [hb, Int.toNat_natCast, ← hN.out, hc']; rfl
      have H := Lib.hid (show saV m d = 0 ∧ saE m d = 2 from two_no hs)
      clear hs hc
      go_enter Try.func11, Try.ntmps11
      go_wp2_with fail
      refine (l01In_calls m 0 8 _).mono ?_
      rintro e w' ⟨rfl, rfl⟩
      go_wp2_with fail
      refine (l01Size_two m N _ hm16 hN).mono ?_
      rintro e w' ⟨rfl, rfl⟩
      go_wp2_with fail
      refine (l01In_calls d 0 ((N : Int) - 1) _).mono ?_
      rintro e w' ⟨rfl, rfl⟩
      go_wp2
      go_ret2
      exact ⟨ret_two H.out.1 H.out.2, rfl⟩
  · have hb' : inB n 0 8 = false := by simpa using hb
    have hs : saB n d = false := by unfold saB; rw [hb']; rfl
    have H := Lib.hid (show saV n d = 0 ∧ saE n d = 2 from two_no hs)
    clear hs hb
    go_enter Try.func11, Try.ntmps11
    go_wp2_with fail
    refine (l01In_calls n 0 8 _).mono ?_
    rintro e w' ⟨rfl, rfl⟩
    go_wp2
    go_ret2
    exact ⟨ret_two H.out.1 H.out.2, rfl⟩


set_option maxHeartbeats 1000000 in
theorem implStatesAtDistance_calls (n d : Int) (w : World) :
    Calls Try.prog 12 #[.int .i64 n, .int .i64 d] w fun e w' => e = .returned (.tuple #[.int .i64 (saV n d), .int .i64 (saE n d)]) ∧ w = w' := by
  by_cases hb : inB n 0 8 = true
  · have h0 := inB_of hb
    obtain ⟨m, rfl⟩ := Int.eq_ofNat_of_zero_le h0.1
    obtain ⟨N, hN⟩ : ∃ N : Nat, Hid (N = 2 ^ m) := ⟨_, rfl⟩
    have hm8 : m ≤ 8 := by omega
    have hm16 : m ≤ 16 := by omega
    have hNb : 1 ≤ N ∧ N ≤ 256 := by rw [hN.out]; exact pow2n8' hm8
    have HWP : Hid (wrap64 ((2 : Int) ^ m) = (N : Int)) := by unfold Hid; rw [hN.out]; exact wrap_pow hm16
    by_cases hc : inB d 0 ((N : Int) - 1) = true
    · have h1 := inB_of hc
      obtain ⟨k, rfl⟩ := Int.eq_ofNat_of_zero_le h1.1
      have hs : saB m k = true := by unfold saB; rw [hb, Int.toNat_natCast, ← hN.out, hc]; rfl
      have H := Lib.hid (show saV m k = ((2 ^ pop k : Nat) : Int) ∧ saE m k = 0 from two_yes hs)
      obtain ⟨p, hp⟩ : ∃ p, Hid (p = pop k) := ⟨_, rfl⟩
      obtain ⟨Q, hQ⟩ : ∃ Q : Nat, Hid (Q = 2 ^ p) := ⟨_, rfl⟩
      have hp8 : p ≤ 8 := by rw [hp.out]; exact Nat.le_trans (pop_le_of (by rw [← hN.out]; omega) (by omega)) hm8
      have hp16 : p ≤ 16 := by omega
      have HWQ : Hid (wrap64 ((2 : Int) ^ p) = (Q : Int)) := by unfold Hid; rw [hQ.out]; exact wrap_pow hp16
      have hk256 : k < 256 := by omega
      clear hs
      have hwp := HWP.out
      have hwq := HWQ.out
      go_enter Try.func12, Try.ntmps12
      go_wp2_with fail
      refine (isUpTo_calls m 8 _).mono ?_
      rintro e w' ⟨rfl, rfl⟩
      go_wp2_with fail
      refine (isUpTo_calls k ((N : Int) - 1) _).mono ?_
      rintro e w' ⟨rfl, rfl⟩
      go_wp2_with fail
      refine (digitNumber_at k p _ (by omega) hp).mono ?_
      rintro e w' ⟨rfl, rfl⟩
      go_wp2
      go_ret2
      exact ⟨ret_two (by first | rw [H.out.1, hQ.out, hp.out] | rw [H.out.1, HWQ.out, hQ.out, hp.out]) H.out.2, rfl⟩
    · have hc' : inB d 0 ((N : Int) - 1) = false := by simpa using hc
      have hs : saB m d = false := by unfold saB; rw [hb, Int.toNat_natCast, ← hN.out, hc']; rfl
      have H := Lib.hid (show saV m d = 0 ∧ saE m d = 2 from two_no hs)
      clear hs hc
      have hwp := HWP.out
      go_enter Try.func12, Try.ntmps12
      go_wp2_with fail
      refine (isUpTo_calls m 8 _).mono ?_
      rintro e w' ⟨rfl, rfl⟩
      go_wp2_with fail
      refine (isUpTo_calls d ((N : Int) - 1) _).mono ?_
      rintro e w' ⟨rfl, rfl⟩
      go_wp2
      go_ret2
      exact ⟨ret_two H.out.1 H.out.2, rfl⟩
  · have hb' : inB n 0 8 = false := by simpa using hb
    have hs : saB n d = false := by unfold saB; rw [hb']; rfl
    have H := Lib.hid (show saV n d = 0 ∧ saE n d = 2 from two_no hs)
    clear hs hb
    go_enter Try.func12, Try.ntmps12
    go_wp2_with fail
    refine (isUpTo_calls n 8 _).mono ?_
    rintro e w' ⟨rfl, rfl⟩
    go_wp2
    go_ret2
    exact ⟨ret_two H.out.1 H.out.2, rfl⟩


set_option maxHeartbeats 1000000 in
theorem specShareOfDisc_calls (n d : Int) (w : World) :
    Calls Try.prog 13 #[.int .i64 n, .int .i64 d] w fun e w' => e = .returned (.tuple #[.int .i64 (shV n d), .int .i64 (shE n d)]) ∧ w = w' := by
  by_cases hb : inB n 0 8 = true
  · have h0 := inB_of hb
    obtain ⟨m, rfl⟩ := Int.eq_ofNat_of_zero_le h0.1
    have hm8 : m ≤ 8 := by omega
    by_cases hc : inB d 0 ((m : Int) - 1) = true
    · have h1 := inB_of hc
      obtain ⟨k, rfl⟩ := Int.eq_ofNat_of_zero_le h1.1
      have hs : shB m k = true := by unfold shB; rw [hb, hc]; rfl
      obtain ⟨r, hr⟩ : ∃ r : Nat, (m : Int) - 1 - (k : Int) = (r : Int) := ⟨m - k - 1, by omega⟩
      have H := Lib.hid (show shV m k = ((2 ^ ((m : Int) - 1 - (k : Int)).toNat : Nat) : Int) ∧ shE m k = 0 from two_yes hs)
      rw [hr, Int.toNat_natCast] at H
      obtain ⟨Q, hQ⟩ : ∃ Q : Nat, Hid (Q = 2 ^ r) := ⟨_, rfl⟩
      have hr16 : r ≤ 16 := by omega
      have HWQ : Hid (wrap64 ((2 : Int) ^ r) = (Q : Int)) := by unfold Hid; rw [hQ.out]; exact wrap_pow hr16
      have HR := Lib.hid hr
      clear hs hr
      go_enter Try.func13, Try.ntmps13
      go_wp2_with fail
      refine (l01In_calls m 0 8 _).mono ?_
      rintro e w' ⟨rfl, rfl⟩
      go_wp2_with fail
      refine (l01In_calls k 0 ((m : Int) - 1) _).mono ?_
      rintro e w' ⟨rfl, rfl⟩
      have hr := HR.out
      go_wp2_with fail
      refine (l01Size_two r Q _ hr16 hQ).mono ?_
      rintro e w' ⟨rfl, rfl⟩
      go_wp2
      go_ret2
      exact ⟨ret_two (by first | rw [H.out.1, hQ.out] | rw [H.out.1, HWQ.out, hQ.out]) H.out.2, rfl⟩
    · have hc' : inB d 0 ((m : Int) - 1) = false := by simpa using hc
      have hs : shB m d = false := by unfold shB; rw [hb, hc']; rfl
      have H := Lib.hid (show shV m d = 0 ∧ shE m d = 2 from two_no hs)
      clear hs hc
      go_enter Try.func13, Try.ntmps13
      go_wp2_with fail
      refine (l01In_calls m 0 8 _).mono ?_
      rintro e w' ⟨rfl, rfl⟩
      go_wp2_with fail
      refine (l01In_calls d 0 ((m : Int) - 1) _).mono ?_
      rintro e w' ⟨rfl, rfl⟩
      go_wp2
      go_ret2
      exact ⟨ret_two H.out.1 H.out.2, rfl⟩
  · have hb' : inB n 0 8 = false := by simpa using hb
    have hs : shB n d = false := by unfold shB; rw [hb']; rfl
    have H := Lib.hid (show shV n d = 0 ∧ shE n d = 2 from two_no hs)
    clear hs hb
    go_enter Try.func13, Try.ntmps13
    go_wp2_with fail
    refine (l01In_calls n 0 8 _).mono ?_
    rintro e w' ⟨rfl, rfl⟩
    go_wp2
    go_ret2
    exact ⟨ret_two H.out.1 H.out.2, rfl⟩


set_option maxHeartbeats 1000000 in
theorem implShareOfDisc_calls (n d : Int) (w : World) :
    Calls Try.prog 14 #[.int .i64 n, .int .i64 d] w fun e w' => e = .returned (.tuple #[.int .i64 (shV n d), .int .i64 (shE n d)]) ∧ w = w' := by
  by_cases hb : inB n 0 8 = true
  · have h0 := inB_of hb
    obtain ⟨m, rfl⟩ := Int.eq_ofNat_of_zero_le h0.1
    have hm8 : m ≤ 8 := by omega
    by_cases hc : inB d 0 ((m : Int) - 1) = true
    · have h1 := inB_of hc
      obtain ⟨k, rfl⟩ := Int.eq_ofNat_of_zero_le h1.1
      have hs : shB m k = true := by unfold shB; rw [hb, hc]; rfl
      obtain ⟨r, hr⟩ : ∃ r : Nat, (m : Int) - 1 - (k : Int) = (r : Int) := ⟨m - k - 1, by omega⟩
      have H := Lib.hid (show shV m k = ((2 ^ ((m : Int) - 1 - (k : Int)).toNat : Nat) : Int) ∧ shE m k = 0 from two_yes hs)
      rw [hr, Int.toNat_natCast] at H
      obtain ⟨Q, hQ⟩ : ∃ Q : Nat, Hid (Q = 2 ^ r) := ⟨_, rfl⟩
      have hr16 : r ≤ 16 := by omega
      have HWQ : Hid (wrap64 ((2 : Int) ^ r) = (Q : Int)) := by unfold Hid; rw [hQ.out]; exact wrap_pow hr16
      have HR := Lib.hid hr
      clear hs hr
      go_enter Try.func14, Try.ntmps14
      go_wp2_with fail
      refine (isUpTo_calls m 8 _).mono ?_
      rintro e w' ⟨rfl, rfl⟩
      go_wp2_with fail
      refine (isUpTo_calls k ((m : Int) - 1) _).mono ?_
      rintro e w' ⟨rfl, rfl⟩
      have hr := HR.out
      have hwq := HWQ.out
      go_wp2
      go_ret2
      exact ⟨ret_two (by first | rw [H.out.1, hQ.out] | rw [H.out.1, HWQ.out, hQ.out]) H.out.2, rfl⟩
    · have hc' : inB d 0 ((m : Int) - 1) = false := by simpa using hc
      have hs : shB m d = false := by unfold shB; rw [hb, hc']; rfl
      have H := Lib.hid (show shV m d = 0 ∧ shE m d = 2 from two_no hs)
      clear hs hc
      go_enter Try.func14, Try.ntmps14
      go_wp2_with fail
      refine (isUpTo_calls m 8 _).mono ?_
      rintro e w' ⟨rfl, rfl⟩
      go_wp2_with fail
      refine (isUpTo_calls d ((m : Int) - 1) _).mono ?_
      rintro e w' ⟨rfl, rfl⟩
      go_wp2
      go_ret2
      exact ⟨ret_two H.out.1 H.out.2, rfl⟩
  · have hb' : inB n 0 8 = false := by simpa using hb
    have hs : shB n d = false := by unfold shB; rw [hb']; rfl
    have H := Lib.hid (show shV n d = 0 ∧ shE n d = 2 from two_no hs)
    clear hs hb
    go_enter Try.func14, Try.ntmps14
    go_wp2_with fail
    refine (isUpTo_calls n 8 _).mono ?_
    rintro e w' ⟨rfl, rfl⟩
    go_wp2
    go_ret2
    exact ⟨ret_two H.out.1 H.out.2, rfl⟩


end Go.Proofs.Ytlhcenhlcajgnaa
