/- Contracts: ruler lists. -/
import Derived.Test.YtlhcenhlcajgnaaDoorDiscs
namespace Go.Proofs.YtlhcenhlcajgnaaDoor
open Go.RowKit
open Go.RowKit (wrap64)
set_option linter.unusedVariables false

set_option maxHeartbeats 1000000 in
theorem specRulerList_ret (n : Int) (w : World) :
    Calls Tryd.prog 4 #[.int .i64 n] w (RetInts w (dcV n).length (dcV n) (dcE n)) := by
  by_cases hn : 0 ≤ n ∧ n ≤ 8
  · obtain ⟨m, rfl⟩ := Int.eq_ofNat_of_zero_le hn.1
    obtain ⟨i0, hi, hz0, hz1, hz2⟩ := info_parts Tryd.infoI
    obtain ⟨N, hN⟩ : ∃ N : Nat, Hid (N = 2 ^ m) := ⟨_, rfl⟩
    have hm8 : m ≤ 8 := by omega
    have hm16 : m ≤ 16 := by omega
    have hp := pow2n8 hm8
    have hNb : 1 ≤ N ∧ N ≤ 256 := by rw [hN.out]; exact hp
    have hin : inB (m : Int) 0 8 = true := inB_yes hn.1 hn.2
    have H := Lib.hid (dc_yes hm8 hN.out)
    clear hp hn
    go_enter Tryd.func4, Tryd.ntmps4
    go_wp2_with fail
    refine (l01In_calls _ _ _ _).mono ?_
    rintro e w' ⟨rfl, rfl⟩
    go_wp2
    go_loopw [4, 5] (fun v i wr => ∃ k : Nat, k + 1 ≤ N ∧ i = .int .i64 ((k + 1 : Nat) : Int) ∧ (∃ AA cc, v = .slice AA k cc ∧ OwnG 2 1 w.heap.size wr AA k cc ((discL k).map (Value.int .i64))) ∧ Below w.heap.size w wr) (fun _ i _ => N - (intOf i).toNat)
    case atStart =>
      have e2 := Box.new w 2 #[]
      exact ⟨0, by omega, rfl, ⟨_, _, rfl, OwnG.emptyAt e2 (Nat.le_refl _)⟩, (Below.refl _ _).alloc (Nat.le_refl _) _⟩
    case round =>
      obtain ⟨k, hk, rfl, ⟨AA, cc, rfl, hO⟩, hb⟩ := hrel
      have HO := Lib.hid hO
      have HB := Lib.hid hb
      have hsz := hb.size
      clear hO hb
      go_wp2_with fail
      refine (l01Size_two m N _ hm16 hN).mono ?_
      rintro e w' ⟨rfl, rfl⟩
      by_cases hlt : k + 1 < N
      · have hst : Hid (discL (k + 1) = discL k ++ [(ctz (k + 1) : Int)]) := rfl
        have hul : Hid ((discL k).length = k) := discL_len k
        go_wp2_with fail
        refine (l05Ring_calls (k + 1) _ (by omega) (by omega)).mono ?_
        rintro e w1 ⟨rfl, rfl⟩
        generalize discL k = D at *
        go_wp2_with (at_builtin; refine wpList_append_own _ rfl _ _ 22 rfl w.heap.size 2 i0 (.int .i64 0) 1 8 Tryd.underlying22 hi hz0 hz1 hz2 rfl (by decide) _ _ _ rfl (HO.out.alloc _) ⟨wr.heap.size, 0, none⟩ 1 1 [.int .i64 (ctz (k + 1))] rfl rfl (cell_one_new _ _ _) (by simp [Value.oneCell']) (by unfold maxLen; omega) (by omega) (by simp; omega) ?_; intro v' w4 hown' hgrow _; obtain ⟨A4, c4, rfl⟩ := ownG_shape hown'; have HO4 := Lib.hid hown'; have HB4 := Lib.hid (HB.out.trans (OwnG.grown_below HO.out hgrow (Nat.le_refl _) hsz)); clear hown' hgrow)
        go_roundw
        case rel =>
          refine ⟨k + 1, by omega, by go_num, ⟨A4, c4, rfl, ?_⟩, HB4.out⟩
          rw [hst.out, List.map_append]
          exact HO4.out
        case measure => simp [intOf]; omega
      · have hke : Hid (N - 1 = k) := by unfold Hid; omega
        go_wp2
        go_ret2
        obtain ⟨q1, q2⟩ := H.out
        rw [q1, q2, discL_len, hke.out]
        exact ⟨AA, cc, rfl, HO.out, HB.out⟩
  · have hin : inB n 0 8 = false := inB_no hn
    have H := Lib.hid (dc_no hn)
    clear hn
    go_enter Tryd.func4, Tryd.ntmps4
    go_wp2_with fail
    refine (l01In_calls _ _ _ _).mono ?_
    rintro e w' ⟨rfl, rfl⟩
    go_wp2
    go_ret2
    obtain ⟨q1, q2⟩ := H.out
    rw [q1, q2]
    exact retInts_zero rfl (Below.refl _ _)

theorem implRulerList_ret (n : Int) (w : World) (hT : Tab w) :
    Calls Tryd.prog 5 #[.int .i64 n] w (RetInts w (dcV n).length (dcV n) (dcE n)) := by
  have HT := Lib.hid hT
  clear hT
  go_enter Tryd.func5, Tryd.ntmps5
  go_wp2_with fail
  refine (implDiscsOfWay_ret n _ HT.out).mono ?_
  rintro e w1 ⟨A, c, rfl, hO, hb⟩
  go_wp2
  go_ret2
  exact ⟨A, c, rfl, hO, hb⟩

end Go.Proofs.YtlhcenhlcajgnaaDoor
