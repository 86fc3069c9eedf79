/- Contracts: the discs of a way, as rings of steps. -/
import Derived.Test.YtlhcenhlcajgnaaDoorTz
import Derived.Test.YtlhcenhlcajgnaaDoorPow2
import Derived.Test.YtlhcenhlcajgnaaDoorOwnI
namespace Go.Proofs.YtlhcenhlcajgnaaDoor
open Go.RowKit
open Go.RowKit (wrap64)
set_option linter.unusedVariables false

def discL : Nat → List Int
  | 0 => []
  | k + 1 => discL k ++ [(ctz (k + 1) : Int)]
theorem discL_len : ∀ k, (discL k).length = k
  | 0 => rfl
  | k + 1 => by simp [discL, discL_len k]
def dcV (n : Int) : List Int := if inB n 0 8 = true then discL (2 ^ n.toNat - 1) else []
def dcE (n : Int) : Int := if inB n 0 8 = true then 0 else 2
theorem dc_yes {n N : Nat} (h : n ≤ 8) (hN : N = 2 ^ n) : dcV n = discL (N - 1) ∧ dcE n = 0 := by
  have : inB (n : Int) 0 8 = true := inB_yes (by omega) (by omega)
  unfold dcV dcE
  rw [if_pos this, if_pos this, Int.toNat_natCast, hN]
  exact ⟨rfl, rfl⟩
theorem dc_no {n : Int} (h : ¬ (0 ≤ n ∧ n ≤ 8)) : dcV n = [] ∧ dcE n = 2 := by unfold dcV dcE; rw [inB_no h]; exact ⟨rfl, rfl⟩
theorem dcV_len (n : Int) : (dcV n).length ≤ 1048576 := by
  unfold dcV
  by_cases h : inB n 0 8 = true
  · rw [if_pos h, discL_len]
    have := inB_of h
    have := (pow2n16 (n := n.toNat) (by omega)).2
    omega
  · rw [if_neg h]; simp
theorem pow2n8 {n : Nat} (h : n ≤ 8) : 1 ≤ 2 ^ n ∧ 2 ^ n ≤ 256 :=
  ⟨Nat.one_le_two_pow, Nat.le_trans (Nat.pow_le_pow_right (by omega) h) (by decide)⟩

set_option maxHeartbeats 1000000 in
theorem implDiscsOfWay_ret (n : Int) (w : World) (hT : Tab w) :
    Calls Tryd.prog 12 #[.int .i64 n] w (RetInts w (dcV n).length (dcV n) (dcE n)) := by
  by_cases hn : 0 ≤ n ∧ n ≤ 8
  · obtain ⟨m, rfl⟩ := Int.eq_ofNat_of_zero_le hn.1
    obtain ⟨i0, hi, hz0, hz1, hz2⟩ := info_parts Tryd.infoI
    obtain ⟨N, hN⟩ : ∃ N : Nat, Hid (N = 2 ^ m) := ⟨_, rfl⟩
    have hm8 : m ≤ 8 := by omega
    have hp := pow2n8 hm8
    have hNb : 1 ≤ N ∧ N ≤ 256 := by rw [hN.out]; exact hp
    have H := Lib.hid (dc_yes hm8 hN.out)
    have HWP : Hid (wrap64 ((2 : Int) ^ m) = (N : Int)) := by unfold Hid; rw [hN.out]; exact wrap_pow (by omega)
    have HT := Lib.hid hT
    have hm0 : (0 : Int) ≤ (m : Int) := by omega
    have hm64 : (m : Int) ≤ 8 := by omega
    clear hp hn hT
    go_enter Tryd.func12, Tryd.ntmps12
    go_wp2
    go_loopw [4, 5] (fun v i wr => ∃ k : Nat, k + 1 ≤ N ∧ i = .int .i64 ((k + 1 : Nat) : Int) ∧ (∃ AA cc, v = .slice AA k cc ∧ OwnG 2 1 w.heap.size wr AA k cc ((discL k).map (Value.int .i64))) ∧ Below w.heap.size w wr) (fun _ i _ => N - (intOf i).toNat)
    case atStart => exact ⟨0, by omega, rfl, ⟨_, _, rfl, OwnG.nilS _ _ _ _⟩, Below.refl _ _⟩
    case round =>
      obtain ⟨k, hk, rfl, ⟨AA, cc, rfl, hO⟩, hb⟩ := hrel
      have HO := Lib.hid hO
      have HB := Lib.hid hb
      have hsz := hb.size
      have HTr := Lib.hid (HT.out.below hb)
      clear hO hb
      by_cases hlt : k + 1 < N
      · have hst : Hid (discL (k + 1) = discL k ++ [(ctz (k + 1) : Int)]) := rfl
        have hul : Hid ((discL k).length = k) := discL_len k
        have hwp := HWP.out
        go_wp2_with fail
        clear hwp
        refine (ringOfStep_calls (k + 1) _ (by omega) (by omega) HTr.out).mono ?_
        rintro e w1 ⟨rfl, rfl⟩
        generalize discL k = D at *
        go_wp2_with (at_builtin; refine wpList_append_own _ rfl _ _ 22 rfl w.heap.size 2 i0 (.int .i64 0) 1 8 Tryd.underlying22 hi hz0 hz1 hz2 rfl (by decide) _ _ _ rfl (HO.out.alloc _) ⟨wr.heap.size, 0, none⟩ 1 1 [.int .i64 (ctz (k + 1))] rfl rfl (cell_one_new _ _ _) (by simp [Value.oneCell']) (by unfold maxLen; omega) (by omega) (by simp; omega) ?_; intro v' w4 hown' hgrow _; obtain ⟨A4, c4, rfl⟩ := ownG_shape hown'; have HO4 := Lib.hid hown'; have HB4 := Lib.hid (HB.out.trans (OwnG.grown_below HO.out hgrow (Nat.le_refl _) hsz)); clear hown' hgrow)
        go_roundw
        case rel =>
          refine ⟨k + 1, by omega, by go_num, ⟨A4, c4, rfl, ?_⟩, HB4.out⟩
          rw [hst.out, List.map_append]
          exact HO4.out
        case measure => simp [intOf]; omega
      · have hke : Hid (N - 1 = k) := by unfold Hid; omega
        have hwp := HWP.out
        go_wp2
        clear hwp
        go_ret2
        obtain ⟨q1, q2⟩ := H.out
        rw [q1, q2, discL_len, hke.out]
        exact ⟨AA, cc, rfl, HO.out, HB.out⟩
  · have H := Lib.hid (dc_no hn)
    by_cases h0 : n < 0
    · clear hn
      go_enter Tryd.func12, Tryd.ntmps12
      go_wp2
      go_ret2
      obtain ⟨q1, q2⟩ := H.out
      rw [q1, q2]
      exact retInts_zero rfl (Below.refl _ _)
    · have h1 : 8 < n := by omega
      clear hn
      go_enter Tryd.func12, Tryd.ntmps12
      go_wp2
      go_ret2
      obtain ⟨q1, q2⟩ := H.out
      rw [q1, q2]
      exact retInts_zero rfl (Below.refl _ _)

end Go.Proofs.YtlhcenhlcajgnaaDoor
