/- Contracts: the ring of a step. -/
import Derived.Test.YtbfajhjlnllamaaDoorTz
import Derived.Test.YtbfajhjlnllamaaDoorPow2
namespace Go.Proofs.YtbfajhjlnllamaaDoor
open Go.RowKit
open Go.RowKit (wrap64)
set_option linter.unusedVariables false

def rsB (n t : Int) : Bool := inB n 0 16 && inB t 1 (((2 ^ n.toNat : Nat) : Int) - 1)
def rsV (n t : Int) : Int := if rsB n t = true then (ctz t.toNat : Int) else 0
def rsE (n t : Int) : Int := if rsB n t = true then 0 else 2
theorem rs_yes {n t : Nat} (h : n ≤ 16) (h0 : 0 < t) (h2 : t < 2 ^ n) : rsV n t = (ctz t : Int) ∧ rsE n t = 0 := by
  have : rsB n t = true := by
    unfold rsB
    rw [Bool.and_eq_true]
    exact ⟨inB_yes (by omega) (by omega), inB_yes (by omega) (by rw [Int.toNat_natCast]; omega)⟩
  unfold rsV rsE
  rw [if_pos this, if_pos this]
  exact ⟨rfl, rfl⟩
theorem rs_no {n t : Int} (h : rsB n t = false) : rsV n t = 0 ∧ rsE n t = 2 := by unfold rsV rsE; rw [h]; exact ⟨rfl, rfl⟩
theorem rs_no1 {n t : Int} (h : ¬ (0 ≤ n ∧ n ≤ 16)) : rsV n t = 0 ∧ rsE n t = 2 := rs_no (by unfold rsB; rw [inB_no h]; rfl)
theorem rs_no2 {n : Nat} {t : Int} (h : ¬ (1 ≤ t ∧ t < ((2 ^ n : Nat) : Int))) : rsV n t = 0 ∧ rsE n t = 2 := rs_no (by unfold rsB; rw [Bool.and_eq_false_iff]; right; exact inB_no (by rw [Int.toNat_natCast]; omega))
theorem ret_rs {a b c d : Int} (h : c = a) (h' : d = b) : Ending.returned (.tuple #[.int .i64 a, .int .i64 b]) = .returned (.tuple #[.int .i64 c, .int .i64 d]) := by rw [h, h']

set_option maxHeartbeats 400000 in
theorem specRingOfStep_calls (n t : Int) (w : World) :
    Calls Tryd.prog 4 #[.int .i64 n, .int .i64 t] w fun e w' => e = .returned (.tuple #[.int .i64 (rsV n t), .int .i64 (rsE n t)]) ∧ w = w' := by
  by_cases hn : 0 ≤ n ∧ n ≤ 16
  · obtain ⟨m, rfl⟩ := Int.eq_ofNat_of_zero_le hn.1
    obtain ⟨N, hN⟩ : ∃ N : Nat, Hid (N = 2 ^ m) := ⟨_, rfl⟩
    have hp := pow2n16 (n := m) (by omega)
    have hNb : N ≤ 65536 := by rw [hN.out]; exact hp.2
    have hm16 : m ≤ 16 := by omega
    have hin : inB (m : Int) 0 16 = true := inB_yes hn.1 hn.2
    clear hp hn
    by_cases hr : 1 ≤ t ∧ t < (N : Int)
    · obtain ⟨q, rfl⟩ := Int.eq_ofNat_of_zero_le (a := t) (by omega)
      have hin2 : inB (q : Int) 1 ((N : Int) - 1) = true := inB_yes (by omega) (by omega)
      have H := Lib.hid (rs_yes (n := m) (t := q) hm16 (by omega) (by have := hN.out; omega))
      go_enter Tryd.func4, Tryd.ntmps4
      go_wp2_with fail
      refine (l01In_calls _ _ _ _).mono ?_
      rintro e w' ⟨rfl, rfl⟩
      go_wp2_with fail
      refine (l01Size_two m N _ hm16 hN).mono ?_
      rintro e w' ⟨rfl, rfl⟩
      go_wp2_with fail
      refine (l01In_calls _ _ _ _).mono ?_
      rintro e w' ⟨rfl, rfl⟩
      go_wp2_with fail
      refine (l05Ring_calls q _ (by omega) (by omega)).mono ?_
      rintro e w' ⟨rfl, rfl⟩
      go_wp2
      go_ret2
      exact ⟨ret_rs H.out.1 H.out.2, rfl⟩
    · have hin2 : inB t 1 ((N : Int) - 1) = false := inB_no (by omega)
      have H := Lib.hid (rs_no2 (n := m) (t := t) (by rw [← hN.out]; exact hr))
      clear hr
      go_enter Tryd.func4, Tryd.ntmps4
      go_wp2_with fail
      refine (l01In_calls _ _ _ _).mono ?_
      rintro e w' ⟨rfl, rfl⟩
      go_wp2_with fail
      refine (l01Size_two m N _ hm16 hN).mono ?_
      rintro e w' ⟨rfl, rfl⟩
      go_wp2_with fail
      refine (l01In_calls _ _ _ _).mono ?_
      rintro e w' ⟨rfl, rfl⟩
      go_wp2
      go_ret2
      exact ⟨ret_rs H.out.1 H.out.2, rfl⟩
  · have hin : inB n 0 16 = false := inB_no hn
    have H := Lib.hid (rs_no1 (t := t) hn)
    clear hn
    go_enter Tryd.func4, Tryd.ntmps4
    go_wp2_with fail
    refine (l01In_calls _ _ _ _).mono ?_
    rintro e w' ⟨rfl, rfl⟩
    go_wp2
    go_ret2
    exact ⟨ret_rs H.out.1 H.out.2, rfl⟩

set_option maxHeartbeats 400000 in
theorem implRingOfStep_calls (n t : Int) (w : World) (hT : Tab w) :
    Calls Tryd.prog 5 #[.int .i64 n, .int .i64 t] w fun e w' => e = .returned (.tuple #[.int .i64 (rsV n t), .int .i64 (rsE n t)]) ∧ w = w' := by
  by_cases hn : 0 ≤ n ∧ n ≤ 16
  · obtain ⟨m, rfl⟩ := Int.eq_ofNat_of_zero_le hn.1
    obtain ⟨N, hN⟩ : ∃ N : Nat, Hid (N = 2 ^ m) := ⟨_, rfl⟩
    have hp := pow2n16 (n := m) (by omega)
    have hNb : N ≤ 65536 := by rw [hN.out]; exact hp.2
    have hm16 : m ≤ 16 := by omega
    clear hp hn
    by_cases hr : 1 ≤ t ∧ t < (N : Int)
    · obtain ⟨q, rfl⟩ := Int.eq_ofNat_of_zero_le (a := t) (by omega)
      have H := Lib.hid (rs_yes (n := m) (t := q) hm16 (by omega) (by have := hN.out; omega))
      have hq : q < N := by omega
      have hq1 : 1 ≤ q := by omega
      clear hr
      go_enter Tryd.func5, Tryd.ntmps5
      go_wp2_with fail
      refine (numberOfWords_yes m N _ hm16 hN).mono ?_
      rintro e w' ⟨rfl, rfl⟩
      go_wp2_with fail
      refine (ringOfStep_calls q _ (by omega) (by omega) hT).mono ?_
      rintro e w' ⟨rfl, rfl⟩
      go_wp2
      go_ret2
      exact ⟨ret_rs H.out.1 H.out.2, rfl⟩
    · have H := Lib.hid (rs_no2 (n := m) (t := t) (by rw [← hN.out]; exact hr))
      by_cases h0 : t < 1
      · clear hr
        go_enter Tryd.func5, Tryd.ntmps5
        go_wp2_with fail
        refine (numberOfWords_yes m N _ hm16 hN).mono ?_
        rintro e w' ⟨rfl, rfl⟩
        go_wp2
        go_ret2
        exact ⟨ret_rs H.out.1 H.out.2, rfl⟩
      · have h1 : (N : Int) ≤ t := by omega
        clear hr
        go_enter Tryd.func5, Tryd.ntmps5
        go_wp2_with fail
        refine (numberOfWords_yes m N _ hm16 hN).mono ?_
        rintro e w' ⟨rfl, rfl⟩
        go_wp2
        go_ret2
        exact ⟨ret_rs H.out.1 H.out.2, rfl⟩
  · have H := Lib.hid (rs_no1 (t := t) hn)
    go_enter Tryd.func5, Tryd.ntmps5
    go_wp2_with fail
    refine (numberOfWords_no n _ hn).mono ?_
    rintro e w' ⟨rfl, rfl⟩
    go_wp2
    go_ret2
    exact ⟨ret_rs H.out.1 H.out.2, rfl⟩

end Go.Proofs.YtbfajhjlnllamaaDoor
