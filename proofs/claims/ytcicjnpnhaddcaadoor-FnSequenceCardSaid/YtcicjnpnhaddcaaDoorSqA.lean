/- The sequence of moves: contracts, with what their answers have to do with each other. -/
import Derived.Test.YtcicjnpnhaddcaaDoorSqP
namespace Go.Proofs.YtcicjnpnhaddcaaDoor
open Go.RowKit
set_option linter.unusedVariables false

theorem st_facts {n t : Nat} (hn : n ≤ 8) (ht : t < 2 ^ n) : stateB 3 (atL t n) = true ∧ (t = 0 ∨ aftE 3 (atL (t - 1) n) (atG t).1 (atG t).2.1 (atG t).2.2 = 0 ∧ aftP 3 (atL (t - 1) n) (atG t).1 (atG t).2.1 (atG t).2.2 = 3 ∧ aftL 3 (atL (t - 1) n) (atG t).1 (atG t).2.1 (atG t).2.2 = atL t n) := by
  have h256 : 2 ^ n ≤ 256 := (pow2n8' hn).2
  have h := okSq_all ⟨n, by omega⟩ ⟨t, by omega⟩
  unfold okSq at h
  simp only [Bool.or_eq_true, Bool.and_eq_true, decide_eq_true_eq] at h
  rcases h with h | ⟨h1, h | h⟩
  · omega
  · exact ⟨h1, .inl h⟩
  · exact ⟨h1, .inr ⟨h.1.1, h.1.2, h.2⟩⟩
theorem sta_at {n t : Nat} (hn : n ≤ 8) (ht : t < 2 ^ n) : staP t n = 3 ∧ staL t n = atL t n ∧ staE t n = 0 := by
  have h := sta_yes (t := (t : Int)) (n := (n : Int)) (by
    unfold staB
    rw [inB_yes (by omega) (by omega), Int.toNat_natCast, inB_yes (by omega) (by omega)]
    rfl)
  rw [Int.toNat_natCast, Int.toNat_natCast] at h
  exact h
theorem st_all (t n : Int) : ∃ (P E : Int) (L : List Int), (∀ W, Calls Tryd.prog 6 #[.int .i64 t, .int .i64 n] W (RetState W P L.length L E)) ∧ (∀ W, Calls Tryd.prog 7 #[.int .i64 t, .int .i64 n] W (RetState W P L.length L E)) ∧ L.length ≤ 8 ∧
    ((E = 2 ∧ L = []) ∨ (E = 0 ∧ (1 ≤ t ∨ t = 0) ∧ t ≤ 256 ∧ (∀ (A : Option Addr) (c : Nat) (W : World), Ints W A L → Calls Tryd.prog 10 #[.agg #[.int .i64 P, .slice A L.length c]] W fun e w' => e = .returned (.tuple #[.int .i64 t, .int .i64 0]) ∧ Below W.heap.size W w') ∧ (t = 0 ∨ ∃ (P0 d fr tt : Int) (L0 : List Int), L0.length ≤ 8 ∧ (∀ W, Calls Tryd.prog 6 #[.int .i64 (t - 1), .int .i64 n] W (RetState W P0 L0.length L0 0)) ∧ (∀ W, Tab W → Calls Tryd.prog 13 #[.int .i64 t] W (RetMd W (d, fr, tt) 0)) ∧ (∀ (A : Option Addr) (c : Nat) (W : World), Ints W A L0 → L0.length ≤ c → c ≤ 9223372036854775807 → Calls Tryd.prog 24 #[.agg #[.int .i64 P0, .slice A L0.length c], .agg #[.int .i64 d, .int .i64 fr, .int .i64 tt]] W (RetState W P L.length L 0))))) := by
  refine ⟨staP t n, staE t n, staL t n, fun W => implStateAt_ret t n W, fun W => specStateAt_ret t n W, staL_len t n, ?_⟩
  by_cases hB : staB t n = true
  · right
    have hB2 := hB
    unfold staB at hB2
    rw [Bool.and_eq_true] at hB2
    have h0 := inB_of hB2.1
    have h1 := inB_of hB2.2
    obtain ⟨m, rfl⟩ := Int.eq_ofNat_of_zero_le h0.1
    obtain ⟨k, rfl⟩ := Int.eq_ofNat_of_zero_le h1.1
    rw [Int.toNat_natCast] at h1
    have hm : m ≤ 8 := by omega
    have hk : k < 2 ^ m := by omega
    have h256 : 2 ^ m ≤ 256 := (pow2n8' hm).2
    obtain ⟨q1, q2, q3⟩ := sta_at hm hk
    obtain ⟨f1, f2⟩ := st_facts hm hk
    rw [q1, q2, q3]
    refine ⟨rfl, by omega, by omega, fun A c W hI => ?_, ?_⟩
    · obtain ⟨r1, r2⟩ := tm_of (atL_len k m) hm hk rfl
      have hc : code1 3 (atL k m) = 0 := by unfold code1; rw [if_pos f1, if_pos rfl]
      obtain ⟨v1, v2⟩ := to_yes hc r1
      have h := implTimeOf_calls A (atL k m).length c 3 (atL k m) W rfl (by rw [atL_len]; omega) hI
      rw [v1, v2, r2] at h
      exact h
    · rcases f2 with rfl | ⟨a1, a2, a3⟩
      · left; rfl
      · by_cases hk0 : k = 0
        · left; omega
        · right
          obtain ⟨s1, s2, s3⟩ := sta_at (n := m) (t := k - 1) hm (by omega)
          refine ⟨3, (atG k).1, (atG k).2.1, (atG k).2.2, atL (k - 1) m, by rw [atL_len]; omega, fun W => ?_, fun W hT => ?_, fun A c W hI hc1 hc2 => ?_⟩
          · have h := implStateAt_ret ((k - 1 : Nat) : Int) m W
            rw [s1, s2, s3, show ((k - 1 : Nat) : Int) = (k : Int) - 1 by omega] at h
            exact h
          · have h := implMoveAt_ret (k : Int) W hT
            have hb : inB (k : Int) 1 1000000000000 = true := inB_yes (by omega) (by omega)
            obtain ⟨e1, e2⟩ := ma_yes hb
            rw [e1, e2] at h
            have hg := atG_is (t := k) (by omega) (by omega)
            rw [atM_is] at hg
            rw [hg] at h
            exact h
          · have h := implAfterMove_ret A (atL (k - 1) m).length c 3 (atL (k - 1) m) (atG k).1 (atG k).2.1 (atG k).2.2 W rfl (by rw [atL_len]; omega) hI hc1 hc2
            rw [a1, a2, a3] at h
            exact h
  · left
    obtain ⟨q1, q2, q3⟩ := sta_no (by simpa using hB)
    exact ⟨q3, q2⟩
theorem tm_all (p : Int) (L : List Int) (hl : L.length ≤ 1048576) : ∃ V E : Int, (∀ (A : Option Addr) (c : Nat) (W : World), Ints W A L → Calls Tryd.prog 10 #[.agg #[.int .i64 p, .slice A L.length c]] W fun e w' => e = .returned (.tuple #[.int .i64 V, .int .i64 E]) ∧ Below W.heap.size W w') ∧ (∀ (A : Option Addr) (c : Nat) (W : World), Ints W A L → Calls Tryd.prog 11 #[.agg #[.int .i64 p, .slice A L.length c]] W fun e w' => e = .returned (.tuple #[.int .i64 V, .int .i64 E]) ∧ Below W.heap.size W w') ∧
    (E ≠ 0 ∨ (E = 0 ∧ ∀ W, Calls Tryd.prog 6 #[.int .i64 V, .int .i64 L.length] W (RetState W p L.length L 0))) := by
  refine ⟨toV p L, toC p L, fun A c W hI => implTimeOf_calls A L.length c p L W rfl hl hI, fun A c W hI => specTimeOf_calls A L.length c p L W rfl hl hI, ?_⟩
  by_cases hz : code1 p L = 0
  · obtain ⟨hs, rfl⟩ := code1_zero hz
    have h8 := (state_facts hs rfl).2.2.1
    cases hb : tmB L with
    | true =>
      right
      obtain ⟨v1, v2⟩ := to_yes hz hb
      refine ⟨v2, fun W => ?_⟩
      have hd := distP_lt (L := L) rfl h8
      obtain ⟨k, hk⟩ := Int.eq_ofNat_of_zero_le hd.1
      have h := implStateAt_ret (k : Int) (L.length : Int) W
      obtain ⟨s1, s2, s3⟩ := sta_at (n := L.length) (t := k) h8 (by omega)
      unfold tmB at hb
      have hb := of_decide_eq_true hb
      rw [hk, Int.toNat_natCast] at hb
      rw [s1, s2, s3, hb, ← hk, ← v1] at h
      exact h
    | false =>
      left
      rw [(to_none hz hb).2]
      decide
  · left
    rw [(to_bad hz).2]
    exact hz
theorem mv_all (u : Int) : ∃ a b c d E E4 : Int, (∀ W, Tab W → Calls Tryd.prog 13 #[.int .i64 u] W (RetMd W (a, b, c) E)) ∧ (∀ W, Calls Tryd.prog 14 #[.int .i64 u] W (RetMd W (a, b, c) E)) ∧
    (∀ W, Tab W → Calls Tryd.prog 15 #[.int .i64 u] W fun e w' => e = .returned (.tuple #[.int .i64 d, .int .i64 E4]) ∧ Below W.heap.size W w') ∧ (∀ W, Calls Tryd.prog 16 #[.int .i64 u] W fun e w' => e = .returned (.tuple #[.int .i64 d, .int .i64 E4]) ∧ Below W.heap.size W w') ∧ ((E = 2 ∧ E4 = 2) ∨ (E = 0 ∧ E4 = 0 ∧ d = a)) := by
  refine ⟨(maM u).1, (maM u).2.1, (maM u).2.2, daV u, maE u, daE u, fun W hT => implMoveAt_ret u W hT, fun W => specMoveAt_ret u W, fun W hT => implDiscAt_calls u W hT, fun W => specDiscAt_calls u W, ?_⟩
  cases hb : inB u 1 1000000000000 with
  | true =>
    right
    have h0 := inB_of hb
    obtain ⟨m, rfl⟩ := Int.eq_ofNat_of_zero_le (a := u) (by omega)
    obtain ⟨e1, e2⟩ := ma_yes hb
    rw [e1, e2]
    exact ⟨rfl, by unfold daE twoE; rw [if_pos hb], by unfold daV twoV; rw [if_pos hb, Int.toNat_natCast]⟩
  | false =>
    left
    exact ⟨(ma_no hb).2, by unfold daE twoE; rw [hb]; rfl⟩
theorem tu_all (m : Int) : ∃ (M : List Mv) (E : Int), (∀ W, Calls Tryd.prog 18 #[.int .i64 m] W (RetMvs W M.length M E)) ∧ (∀ W, Calls Tryd.prog 19 #[.int .i64 m] W (RetMvs W M.length M E)) ∧ M.length ≤ 256 ∧
    (E ≠ 0 ∨ (E = 0 ∧ ∀ i, i < M.length → (∀ W, Tab W → Calls Tryd.prog 13 #[.int .i64 ((i : Int) + 1)] W (RetMd W ((M[i]?.getD (0, 0, 0)).1, (M[i]?.getD (0, 0, 0)).2.1, (M[i]?.getD (0, 0, 0)).2.2) 0)))) := by
  refine ⟨mtnL m, mtnE m, fun W => implMovesByTurns_ret m W, fun W => specMovesByTurns_ret m W, ?_⟩
  cases hb : inB m 0 8 with
  | true =>
    have h0 := inB_of hb
    obtain ⟨k, rfl⟩ := Int.eq_ofNat_of_zero_le h0.1
    have h256 : 2 ^ k ≤ 256 := (pow2n8' (n := k) (by omega)).2
    obtain ⟨q1, q2⟩ := mtn_yes hb
    rw [q1, q2]
    refine ⟨by rw [tnL_len]; omega, .inr ⟨rfl, fun i hi W hT => ?_⟩⟩
    rw [tnL_len] at hi
    have ho := okTs_all ⟨k, by omega⟩
    unfold okTs at ho
    have ho := of_decide_eq_true ho
    have hx : (tnL k (2 ^ k - 1))[i]?.getD (0, 0, 0) = atG (i + 1) := by
      rw [ho, List.getElem?_map, List.getElem?_range hi]
      rfl
    rw [hx]
    have h := implMoveAt_ret ((i + 1 : Nat) : Int) W hT
    have hbb : inB ((i + 1 : Nat) : Int) 1 1000000000000 = true := inB_yes (by omega) (by omega)
    obtain ⟨e1, e2⟩ := ma_yes hbb
    have hg := atG_is (t := i + 1) (by omega) (by omega)
    rw [atM_is] at hg
    rw [e1, e2, hg, show ((i + 1 : Nat) : Int) = (i : Int) + 1 by omega] at h
    exact h
  | false =>
    obtain ⟨q1, q2⟩ := mtn_no hb
    rw [q1, q2]
    exact ⟨by simp, .inl (by decide)⟩

end Go.Proofs.YtcicjnpnhaddcaaDoor
