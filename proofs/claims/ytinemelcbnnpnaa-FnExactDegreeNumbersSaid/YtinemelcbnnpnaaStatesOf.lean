/- Contracts: the states of n discs on k pegs as a function that is ranged over. -/
import Derived.Test.YtinemelcbnnpnaaTold
import Derived.Test.YtinemelcbnnpnaaOwnG
import Derived.Test.YtinemelcbnnpnaaSor
namespace Go.Proofs.Ytinemelcbnnpnaa
open Go.RowKit Go.Shelf
set_option linter.unusedVariables false
attribute [local go_sem] Oper.semAt_some

/-- A rank with the slice of its state. -/
abbrev RkSt := Nat × Option Addr × Nat
def rkV (k : Int) (m : Nat) (x : RkSt) : Array Value := #[.int .i64 x.1, .agg #[.int .i64 k, .slice x.2.1 m x.2.2]]
def rkG (k : Int) (m N : Nat) (pre : List RkSt) (x : RkSt) (W : World) : Prop := x.1 = pre.length ∧ x.1 < N ∧ Ints W x.2.1 (digR k m x.1) ∧ m ≤ x.2.2 ∧ x.2.2 ≤ maxLen
theorem dig_state {k : Int} {m : Nat} (hf : fitsB k m = true) (r : Int) (hr : 0 ≤ r) : stateB k (digR k m r) = true := by
  have hb := fitsB_bd hf
  have hall : ∀ j, ∀ x ∈ digR k j r, 0 ≤ x ∧ x ≤ k - 1 := by
    intro j
    induction j with
    | zero => intro x hx; simp [digR] at hx
    | succ j ih =>
      intro x hx
      rcases List.mem_append.1 (show x ∈ digR k j r ++ [restR k j r % k] from hx) with h | h
      · exact ih x h
      · simp at h
        subst h
        have h1 := Int.emod_nonneg (restR k j r) (show k ≠ 0 by omega)
        have h2 := Int.emod_lt_of_pos (restR k j r) (show 0 < k by omega)
        omega
  refine stateB_yes (by rw [digR_len]; exact hf) (fun j hj => ?_)
  have := hall m _ (List.getElem_mem hj)
  rw [List.getD_eq_getElem?_getD, List.getElem?_eq_getElem hj]
  exact inB_yes this.1 this.2

set_option maxHeartbeats 1000000 in
theorem statesOf_calls (n : Nat) (k m : Int) (w : World) :
    CallsIn Fence.wide n Try.prog 56 #[.int .i64 k, .int .i64 m] w fun e w' => e = .returned (.func (.func 64) #[] #[.pointer (some ⟨w.heap.size, 0, none⟩), .pointer (some ⟨w.heap.size + 1, 0, none⟩)]) ∧ w' = (w.alloc (.cells #[.int .i64 k] 2)).alloc (.cells #[.int .i64 m] 2) := by
  refine callsIn_of_wp Try.func56 rfl trivial ?_ rfl
  simp only [Try.ntmps56, List.size_toArray, List.length_cons, List.length_nil, Nat.reduceAdd, Nat.reduceSub, Array.replicate_succ, Array.replicate_zero, List.push_toArray, List.append_toArray, List.nil_append, List.cons_append]
  gi_wp2
  go_ret
  exact ⟨rfl, rfl⟩

set_option maxRecDepth 100000 in
set_option maxHeartbeats 4000000 in
theorem statesOf_told (n bk bn : Nat) (hn : 1 ≤ n) (k : Int) (m : Nat) (hf : fitsB k m = true) (w : World) (hbk : Box w bk 2 #[.int .i64 k]) (hbn : Box w bn 2 #[.int .i64 m]) :
    SeqTold n Try.prog 64 #[.pointer (some ⟨bk, 0, none⟩), .pointer (some ⟨bn, 0, none⟩)] (rkV k m) (rkG k m (powI k m).toNat) (KeepB (fun b => b = bk ∨ b = bn)) (fun xs => xs.map (·.1) = List.range (powI k m).toNat) w := by
  intro l J W hW hJ hY h0
  have hbd := fitsB_bd hf
  have hpw := fitsB_pow hf
  have hnum := numOf_yes hf
  rw [Int.toNat_natCast] at hpw hnum
  have hp1 := powI_pos hbd.1 m
  have HF := Lib.hid hf
  have hk1 := Lib.hid (hbk.below hW hbk.lt)
  have hn1 := Lib.hid (hbn.below hW hbn.lt)
  clear hf
  obtain ⟨N, hN⟩ := Int.eq_ofNat_of_zero_le (a := powI k m) (by omega)
  rw [hN] at hpw hp1 hnum hY ⊢
  rw [Int.toNat_natCast] at hY ⊢
  clear hN
  refine callsIn_of_wp Try.func64 rfl trivial ?_ rfl
  simp only [Try.ntmps64, List.size_toArray, List.length_cons, List.length_nil, Nat.reduceAdd, Nat.reduceSub, Array.replicate_succ, Array.replicate_zero, List.push_toArray, List.append_toArray, List.nil_append, List.cons_append]
  obtain ⟨c0, _⟩ := hk1.out.one
  obtain ⟨c1, _⟩ := hn1.out.one
  gi_wp2_with fail
  refine ⟨trivial, ?_⟩
  refine (callsIn_wide.2 (numberOfStates_calls k m W)).mono ?_
  rintro e w' ⟨rfl, rfl⟩
  rw [hnum, HF.out]
  clear hnum
  gi_wp2
  gi_loopw [6, 14] (fun _ i wr => ∃ j : Nat, j ≤ N ∧ i = .int .i64 j ∧ (∃ pre : List RkSt, pre.map (·.1) = List.range j ∧ J pre wr) ∧ Box wr bk 2 #[.int .i64 k] ∧ Box wr bn 2 #[.int .i64 m])
    (fun _ i _ => N - (intOf i).toNat)
  case atStart => exact ⟨0, Nat.zero_le _, rfl, ⟨[], rfl, h0⟩, hk1.out, hn1.out⟩
  case round =>
    obtain ⟨j, hj, rfl, ⟨pre, hpre, hJs⟩, hbk2, hbn2⟩ := hrel
    obtain ⟨c0, _⟩ := hbk2.one
    obtain ⟨c1, _⟩ := hbn2.one
    have HP := Lib.hid hpre
    have HPL := Lib.hid (show pre.length = j by have := congrArg List.length hpre; simpa using this)
    clear hpre
    by_cases hlt : j < N
    · gi_wp2_with fail
      refine ⟨trivial, ?_⟩
      refine (callsIn_wide.2 (stateOfRank_calls k j m wr (by omega) (by omega) (by omega) (by omega) (by omega))).mono ?_
      rintro e w1 ⟨A, c, rfl, hO, hb⟩
      have hbk3 := Lib.hid (hbk2.below hb hbk2.lt)
      have hbn3 := Lib.hid (hbn2.below hb hbn2.lt)
      have hcap := OwnG.cap (show OwnG 2 1 wr.heap.size w1 A m c _ from hO)
      obtain ⟨fn, tmps, assign, body, hy, hR⟩ := hY pre (j, A, c) w1 (hJ _ _ _ hJs hb) ⟨HPL.out.symm, hlt, hO.ints, hcap⟩
      clear hO hb hcap c0 c1
      dsimp only [rkV] at hy
      gi_wp2
      refine hR.mono ?_
      rintro e W3 ⟨rfl, hJ3, hk3⟩
      gi_wp2
      go_roundw
      case rel => exact ⟨j + 1, by omega, by go_num, ⟨_, by rw [List.map_append, HP.out, List.range_succ]; rfl, hJ3⟩, (hk3 _ (.inl rfl)).trans hbk3.out, (hk3 _ (.inr rfl)).trans hbn3.out⟩
      case measure => simp [intOf]; omega
    · obtain rfl : j = N := by omega
      gi_wp2
      go_end0
      exact ⟨⟨_, rfl⟩, pre, HP.out, hJs⟩

end Go.Proofs.Ytinemelcbnnpnaa
