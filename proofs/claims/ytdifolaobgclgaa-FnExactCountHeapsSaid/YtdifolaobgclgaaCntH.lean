/- Contracts: the number of heaps of n discs. -/
import Derived.Test.YtdifolaobgclgaaState1
namespace Go.Proofs.Ytdifolaobgclgaa
open Go.RowKit
set_option linter.unusedVariables false

def chK : Nat → Int
  | 0 => 1
  | k + 1 => chK k * (3 + k)
theorem chK_small {k : Nat} (h : k ≤ 4) : 1 ≤ chK k ∧ chK k ≤ 360 := by
  match k, h with
  | 0, _ => decide
  | 1, _ => decide
  | 2, _ => decide
  | 3, _ => decide
  | 4, _ => decide
def chV (n : Int) : Int := if inB n 0 4 = true then chK n.toNat else 0
def chE (n : Int) : Int := if inB n 0 4 = true then 0 else 2
theorem ch_yes {n : Nat} (h : inB (n : Int) 0 4 = true) : chV n = chK n ∧ chE n = 0 := ⟨by unfold chV; rw [if_pos h, Int.toNat_natCast], by unfold chE; rw [if_pos h]⟩
theorem ch_no {n : Int} (h : inB n 0 4 = false) : chV n = 0 ∧ chE n = 2 := ⟨by unfold chV; rw [h]; rfl, by unfold chE; rw [h]; rfl⟩

set_option maxHeartbeats 1000000 in
theorem specCountHeaps_calls (n : Int) (w : World) :
    Calls Try.prog 14 #[.int .i64 n] w fun e w' => e = .returned (.tuple #[.int .i64 (chV n), .int .i64 (chE n)]) ∧ w = w' := by
  go_enter Try.func14, Try.ntmps14
  go_wp2_with fail
  refine (l01In_calls n 0 4 _).mono ?_
  rintro e w1 ⟨rfl, rfl⟩
  cases h : inB n 0 4 with
  | false =>
    have H := Lib.hid (ch_no h)
    clear h
    go_wp2
    go_ret2
    rw [H.out.1, H.out.2]
    exact ⟨rfl, rfl⟩
  | true =>
    have hb := inB_of h
    obtain ⟨m, rfl⟩ := Int.eq_ofNat_of_zero_le hb.1
    have H := Lib.hid (ch_yes h)
    have hm4 : m ≤ 4 := by omega
    clear h hb
    go_wp2
    go_loop [4, 5] (fun o i => ∃ k : Nat, k ≤ m ∧ i = .int .i64 k ∧ o = .int .i64 (chK k)) (fun _ i => m - (intOf i).toNat)
    case atStart => exact ⟨0, Nat.zero_le _, rfl, rfl⟩
    case round =>
      obtain ⟨k, hk, rfl, rfl⟩ := hrel
      by_cases hlt : k < m
      · have hs := chK_small (k := k) (by omega)
        have hs2 := chK_small (k := k + 1) (by omega)
        have hst : chK k * (3 + (k : Int)) = chK (k + 1) := rfl
        have HS := Lib.hid hst
        have hlt2 : (k : Int) < (m : Int) := by omega
        have hr : wrap64 (chK k * (3 + (k : Int))) = chK (k + 1) := by rw [hst]; unfold wrap64; omega
        have HRW := Lib.hid hr
        clear hst hr
        go_wp2
        go_round
        case rel => exact ⟨k + 1, by omega, by go_num, by rw [HRW.out]⟩
        case measure => simp [intOf]; omega
      · obtain rfl : k = m := by omega
        go_wp2
        go_ret2
        rw [H.out.1, H.out.2]
        exact ⟨rfl, rfl⟩

set_option maxHeartbeats 1000000 in
theorem implCountHeaps_calls (n : Int) (w : World) :
    Calls Try.prog 15 #[.int .i64 n] w fun e w' => e = .returned (.tuple #[.int .i64 (chV n), .int .i64 (chE n)]) ∧ w = w' := by
  cases h : inB n 0 4 with
  | false =>
    have H := Lib.hid (ch_no h)
    by_cases h0 : 0 ≤ n
    · have h4 : ¬ n ≤ 4 := fun h5 => by rw [inB_yes h0 h5] at h; cases h
      clear h
      go_enter Try.func15, Try.ntmps15
      go_wp2
      go_ret2
      rw [H.out.1, H.out.2]
      exact ⟨rfl, rfl⟩
    · clear h
      go_enter Try.func15, Try.ntmps15
      go_wp2
      go_ret2
      rw [H.out.1, H.out.2]
      exact ⟨rfl, rfl⟩
  | true =>
    have hb := inB_of h
    obtain ⟨m, rfl⟩ := Int.eq_ofNat_of_zero_le hb.1
    have H := Lib.hid (ch_yes h)
    have hm4 : m ≤ 4 := by omega
    have hm0 : (0 : Int) ≤ (m : Int) := hb.1
    have hm5 : (m : Int) ≤ 4 := hb.2
    clear h hb
    go_enter Try.func15, Try.ntmps15
    go_wp2
    go_loop [4, 5, 10] (fun o _ i => ∃ k : Nat, k ≤ m ∧ i = .int .i64 k ∧ o = .int .i64 (chK k)) (fun _ _ i => m - (intOf i).toNat)
    case atStart => exact ⟨0, Nat.zero_le _, rfl, rfl⟩
    case round =>
      obtain ⟨k, hk, rfl, rfl⟩ := hrel
      by_cases hlt : k < m
      · have hs := chK_small (k := k) (by omega)
        have hs2 := chK_small (k := k + 1) (by omega)
        have hst : chK k * (3 + (k : Int)) = chK (k + 1) := rfl
        have HS := Lib.hid hst
        have hlt2 : (k : Int) < (m : Int) := by omega
        have hr : wrap64 (chK k * (3 + (k : Int))) = chK (k + 1) := by rw [hst]; unfold wrap64; omega
        have HRW := Lib.hid hr
        clear hst hr
        go_wp2
        go_round
        case rel => exact ⟨k + 1, by omega, by go_num, by rw [HRW.out]⟩
        case measure => simp [intOf]; omega
      · obtain rfl : k = m := by omega
        go_wp2
        go_ret2
        rw [H.out.1, H.out.2]
        exact ⟨rfl, rfl⟩

end Go.Proofs.Ytdifolaobgclgaa
