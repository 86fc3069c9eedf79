/- Contracts: whole numbers. -/
import Derived.Test.YtbfajhjlnllamaaRepeat
import Derived.Test.YtbfajhjlnllamaaRgOf
import Derived.Test.YtbfajhjlnllamaaOwnI
namespace Go.Proofs.Ytbfajhjlnllamaa
open Go.RowKit
set_option linter.unusedVariables false

def wnV (n : Int) : Int := if inB n 0 16 = true then rkL (List.replicate n.toNat 1) else 0
def wnE (n : Int) : Int := if inB n 0 16 = true then 0 else 2
theorem wn_yes {n : Nat} (h : n ≤ 16) : wnV n = rkL (List.replicate n 1) ∧ wnE n = 0 := by
  have : inB (n : Int) 0 16 = true := inB_yes (by omega) (by omega)
  unfold wnV wnE
  rw [if_pos this, if_pos this, Int.toNat_natCast]
  exact ⟨rfl, rfl⟩
theorem wn_no {n : Int} (h : ¬ (0 ≤ n ∧ n ≤ 16)) : wnV n = 0 ∧ wnE n = 2 := by unfold wnV wnE; rw [inB_no h]; exact ⟨rfl, rfl⟩
theorem ones_rg {n : Nat} (h : n ≤ 16) : rgB (List.replicate n 1) = true := by
  unfold rgB
  rw [Bool.and_eq_true, List.all_eq_true]
  exact ⟨fun x hx => by rw [List.eq_of_mem_replicate hx]; rfl, by simpa using h⟩

set_option maxHeartbeats 1000000 in
theorem specWholeNumber_calls (n : Int) (w : World) :
    Calls Try.prog 20 #[.int .i64 n] w fun e w' => e = .returned (.tuple #[.int .i64 (wnV n), .int .i64 (wnE n)]) ∧ Below w.heap.size w w' := by
  by_cases hn : 0 ≤ n ∧ n ≤ 16
  · obtain ⟨m, rfl⟩ := Int.eq_ofNat_of_zero_le hn.1
    have hm16 : m ≤ 16 := by omega
    have hin : inB (m : Int) 0 16 = true := inB_yes hn.1 hn.2
    have H := Lib.hid (wn_yes hm16)
    obtain ⟨i0, hi, hz0, hz1, hz2⟩ := info_parts Try.infoI
    clear hn
    go_enter Try.func20, Try.ntmps20
    go_wp2_with fail
    refine (l01In_calls _ _ _ _).mono ?_
    rintro e w' ⟨rfl, rfl⟩
    go_wp2
    go_loopw [4] (fun v wr => ∃ k : Nat, k ≤ m ∧ (∃ A c, v = .slice A k c ∧ OwnG 2 1 w.heap.size wr A k c ((List.replicate k (1 : Int)).map (Value.int .i64))) ∧ Below w.heap.size w wr) (fun v _ => m - lenV v)
    case atStart =>
      have e2 := Box.new w 2 #[]
      exact ⟨0, Nat.zero_le _, ⟨_, _, rfl, OwnG.emptyAt e2 (Nat.le_refl _)⟩, (Below.refl _ _).alloc (Nat.le_refl _) _⟩
    case round =>
      obtain ⟨k, hk, ⟨A, c, rfl, hown⟩, hb⟩ := hrel
      have HB := Lib.hid hb
      have hsz := hb.size
      clear hb
      by_cases hlt : k < m
      · have hst : Hid (List.replicate (k + 1) (1 : Int) = List.replicate k 1 ++ [1]) := by unfold Hid; exact List.replicate_succ'
        have hdl : Hid ((List.replicate k (1 : Int)).length = k) := by unfold Hid; simp
        generalize List.replicate k (1 : Int) = D at *
        go_wp2_with (at_builtin; refine wpList_append_own _ rfl _ _ 22 rfl w.heap.size 2 i0 (.int .i64 0) 1 8 Try.underlying22 hi hz0 hz1 hz2 rfl (by decide) _ _ _ rfl (hown.alloc _) ⟨wr.heap.size, 0, none⟩ 1 1 [.int .i64 1] rfl rfl (cell_one_new _ _ _) (by simp [Value.oneCell']) (by unfold maxLen; omega) (by omega) (by simp; omega) ?_; intro v' w4 hown' hgrow _; obtain ⟨A4, c4, rfl⟩ := ownG_shape hown'; have HO4 := Lib.hid hown'; have HB4 := Lib.hid (HB.out.trans (OwnG.grown_below hown hgrow (Nat.le_refl _) hsz)); clear hown' hgrow)
        go_roundw
        case rel =>
          refine ⟨k + 1, by omega, ⟨A4, c4, rfl, ?_⟩, HB4.out⟩
          rw [hst.out, List.map_append]
          exact HO4.out
        case measure => simp [lenV]; omega
      · obtain rfl : k = m := by omega
        go_wp2_with fail
        refine (l05Rank_calls A k c (List.replicate k 1) _ (by simp) (OwnG.intsG0 hown) (ones_rg hm16)).mono ?_
        rintro e w1 ⟨rfl, rfl⟩
        go_wp2
        go_ret2
        exact ⟨ret_two H.out.1 H.out.2, HB.out⟩
  · have hin : inB n 0 16 = false := inB_no hn
    have H := Lib.hid (wn_no hn)
    clear hn
    go_enter Try.func20, Try.ntmps20
    go_wp2_with fail
    refine (l01In_calls _ _ _ _).mono ?_
    rintro e w' ⟨rfl, rfl⟩
    go_wp2
    go_ret2
    exact ⟨ret_two H.out.1 H.out.2, Below.refl _ _⟩

set_option maxHeartbeats 1000000 in
theorem implWholeNumber_calls (n : Int) (w : World) :
    Calls Try.prog 21 #[.int .i64 n] w fun e w' => e = .returned (.tuple #[.int .i64 (wnV n), .int .i64 (wnE n)]) ∧ Below w.heap.size w w' := by
  by_cases hn : 0 ≤ n ∧ n ≤ 16
  · obtain ⟨m, rfl⟩ := Int.eq_ofNat_of_zero_le hn.1
    obtain ⟨N, hN⟩ : ∃ N : Nat, Hid (N = 2 ^ m) := ⟨_, rfl⟩
    have hm16 : m ≤ 16 := by omega
    have H := Lib.hid (wn_yes hm16)
    have HX := Lib.hid (Box.new w 2 #[.int .i64 1])
    have HB := Lib.hid ((Below.refl w.heap.size w).alloc (Nat.le_refl _) (.cells #[.int .i64 1] 2))
    have hcap : (m : Int) ≤ 16 := by omega
    clear hn
    go_enter Try.func21, Try.ntmps21
    go_wp2_with fail
    refine (numberOfWords_yes m N _ hm16 hN).mono ?_
    rintro e w' ⟨rfl, rfl⟩
    go_wp2_with fail
    refine (repeat_calls w.heap.size m 1 _ hm16 HX.out.one.1 (by simp)).mono ?_
    rintro e w1 ⟨A, c, rfl, hO, hb⟩
    have HO := Lib.hid hO
    have HB1 := Lib.hid (HB.out.trans (hb.mono (by simp)))
    clear hO hb
    go_wp2_with fail
    refine (rankOfRings_calls A m c (List.replicate m 1) _ (by simp) HO.out.ints (ones_rg hm16)).mono ?_
    rintro e w2 ⟨rfl, hb⟩
    have HB2 := Lib.hid (HB1.out.trans (hb.mono HB1.out.size))
    clear hb
    go_wp2
    go_ret2
    exact ⟨ret_two H.out.1 H.out.2, HB2.out⟩
  · have H := Lib.hid (wn_no hn)
    go_enter Try.func21, Try.ntmps21
    go_wp2_with fail
    refine (numberOfWords_no n _ hn).mono ?_
    rintro e w' ⟨rfl, rfl⟩
    go_wp2
    go_ret2
    exact ⟨ret_two H.out.1 H.out.2, Below.refl _ _⟩

end Go.Proofs.Ytbfajhjlnllamaa
