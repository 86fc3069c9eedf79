/- Contracts: the rank of a state, by the specification's model and by the program. -/
import Derived.Test.YtfdjlgpdbgmdkaaState1
import Derived.Test.YtfdjlgpdbgmdkaaNum
namespace Go.Proofs.Ytfdjlgpdbgmdkaa
open Go.RowKit
set_option linter.unusedVariables false

/-- The number with the digits L, the least one first, to the base p. -/
def rankL (p : Int) : List Int → Int
  | [] => 0
  | x :: xs => rankL p xs * p + x

theorem rankL_bd {p : Int} (hp : 3 ≤ p) : ∀ L : List Int, (∀ x ∈ L, 0 ≤ x ∧ x ≤ p - 1) → 0 ≤ rankL p L ∧ rankL p L + 1 ≤ powI p L.length
  | [], _ => by simp [rankL, powI]
  | x :: xs, h => by
    have ih := rankL_bd hp xs (fun y hy => h y (List.mem_cons_of_mem _ hy))
    have hx := h x List.mem_cons_self
    simp only [rankL, List.length_cons, powI_succ]
    have h1 : 0 ≤ rankL p xs * p := Int.mul_nonneg ih.1 (by omega)
    have h2 : (rankL p xs + 1) * p ≤ powI p xs.length * p := Int.mul_le_mul_of_nonneg_right ih.2 (by omega)
    rw [Int.add_mul] at h2
    omega

theorem rankL_append (p : Int) (x : Int) : ∀ L : List Int, rankL p (L ++ [x]) = rankL p L + x * powI p L.length
  | [] => by simp [rankL, powI]
  | y :: ys => by
    simp only [List.cons_append, rankL, List.length_cons, powI_succ]
    rw [rankL_append p x ys, Int.add_mul, Int.mul_assoc]
    omega

theorem rank_drop {p : Int} {L : List Int} {k : Nat} (hk : k < L.length) : rankL p (L.drop k) = rankL p (L.drop (k + 1)) * p + L[k]?.getD 0 := by
  rw [List.drop_eq_getElem_cons hk, List.getElem?_eq_getElem hk, Option.getD_some]
  rfl

theorem rank_take {p : Int} {L : List Int} {k : Nat} (hk : k < L.length) : rankL p (L.take (k + 1)) = rankL p (L.take k) + L[k]?.getD 0 * powI p k := by
  rw [List.take_succ_eq_append_getElem hk, rankL_append, List.getElem?_eq_getElem hk, Option.getD_some, List.length_take, Nat.min_eq_left (by omega)]

theorem rank_drop_bd {p : Int} {L : List Int} (h : stateB p L = true) (k : Nat) : 0 ≤ rankL p (L.drop k) ∧ rankL p (L.drop k) ≤ 6560 := by
  obtain ⟨h3, h5, h8, hp⟩ := state_facts h rfl
  have h1 := rankL_bd h3 (L.drop k) (fun x hx => stateB_mem h x (List.mem_of_mem_drop hx))
  have h2 := powI_mono h3 (show (L.drop k).length ≤ L.length by simp)
  omega

theorem rank_take_bd {p : Int} {L : List Int} (h : stateB p L = true) (k : Nat) : 0 ≤ rankL p (L.take k) ∧ rankL p (L.take k) ≤ 6560 := by
  obtain ⟨h3, h5, h8, hp⟩ := state_facts h rfl
  have h1 := rankL_bd h3 (L.take k) (fun x hx => stateB_mem h x (List.mem_of_mem_take hx))
  have h2 := powI_mono h3 (show (L.take k).length ≤ L.length by simp; omega)
  omega

set_option maxHeartbeats 400000 in
theorem l01Rank_calls (A : Option Addr) (n c : Nat) (p : Int) (L : List Int) (w : World) (hL : L.length = n) (hn : n ≤ 1048576) (hI : Ints w A L) (hs : stateB p L = true) :
    Calls Try.prog 41 #[.agg #[.int .i64 p, .slice A n c]] w fun e w' => e = .returned (.int .i64 (rankL p L)) ∧ Below w.heap.size w w' := by
  have HL : Hid (L.length = n) := hL
  have HS := Lib.hid hs
  obtain ⟨h3, h5, h8, _⟩ := state_facts hs hL
  clear hL hs
  go_enter Try.func41, Try.ntmps41
  go_wp2
  go_loopw [3, 4] (fun o d wr => ∃ k : Nat, k ≤ n ∧ d = .int .i64 ((k : Int) - 1) ∧ o = .int .i64 (rankL p (L.drop k)) ∧ ∃ m, wr = (w.alloc (.cells #[.int .i64 p, .slice A n c] 26)).drewN m) (fun _ d _ => (intOf d + 1).toNat)
  case atStart => exact ⟨n, Nat.le_refl _, rfl, by rw [List.drop_of_length_le (by rw [HL.out]; omega)]; rfl, 0, rfl⟩
  case round =>
    obtain ⟨k, hk, rfl, rfl, m, rfl⟩ := hrel
    by_cases hlt : 0 < k
    · obtain ⟨j, rfl⟩ : ∃ j, k = j + 1 := ⟨k - 1, by omega⟩
      obtain ⟨ad, rfl, had, hc⟩ := (hI.below ((Below.refl _ _).alloc (Nat.le_refl _) (.cells #[.int .i64 p, .slice A n c] 26))) j (by rw [HL.out]; omega)
      have hd := rank_drop_bd HS.out (j + 1)
      have hx := state_at HS.out j (by rw [HL.out]; omega)
      have hst := Lib.hid (rank_drop (p := p) (L := L) (k := j) (by rw [HL.out]; omega))
      have hmul := mul_bd (a := rankL p (L.drop (j + 1))) (b := p) (by omega) (by omega)
      generalize rankL p (L.drop (j + 1)) = r at *
      have hidx : ((j + 1 : Nat) : Int) - 1 = (j : Int) := by omega
      rw [hidx]
      clear hidx
      go_wp2_with fail
      go_quiet (fail)
      go_wp2
      go_roundw
      case rel => exact ⟨j, by omega, rfl, by rw [hst.out], by first | exact ⟨_, rfl⟩ | exact ⟨_, World.drewN_drewN _ _ _⟩⟩
      case measure => simp [intOf]
    · obtain rfl : k = 0 := by omega
      go_wp2
      go_ret
      exact ⟨rfl, belowDraws ((Below.refl _ _).alloc (Nat.le_refl _) _) m⟩

def rankV (p : Int) (L : List Int) : Int := if stateB p L = true then rankL p L else 0

theorem rankV_yes {p : Int} {L : List Int} (h : stateB p L = true) : rankV p L = rankL p L := by unfold rankV; rw [if_pos h]

theorem rankV_no {p : Int} {L : List Int} (h : stateB p L = false) : rankV p L = 0 := by unfold rankV; rw [h]; rfl

theorem specRankOf_calls (A : Option Addr) (n c : Nat) (p : Int) (L : List Int) (w : World) (hL : L.length = n) (hn : n ≤ 1048576) (hI : Ints w A L) :
    Calls Try.prog 7 #[.agg #[.int .i64 p, .slice A n c]] w fun e w' => e = .returned (.tuple #[.int .i64 (rankV p L), .int .i64 (codeS p L)]) ∧ Below w.heap.size w w' := by
  have HL : Hid (L.length = n) := hL
  clear hL
  have hb0 : Below w.heap.size w (w.alloc (.cells #[.int .i64 p, .slice A n c] 26)) := (Below.refl _ _).alloc (Nat.le_refl _) _
  have hI0 := hI.below hb0
  by_cases hs : stateB p L = true
  · go_enter Try.func7, Try.ntmps7
    go_wp2_with fail
    refine (l01Is_calls A n c p L _ HL.out hn hI0).mono ?_
    rintro e w1 ⟨rfl, hb⟩
    have HB := Lib.hid hb
    have hI1 := hI0.below hb
    obtain ⟨c0, c1, hz⟩ := boxed2 (hb.mono (by simp))
    clear hb
    go_wp2_with fail
    refine (l01Rank_calls A n c p L _ HL.out hn hI1 hs).mono ?_
    rintro e w2 ⟨rfl, hb2⟩
    have HB2 := Lib.hid hb2
    clear hb2
    go_wp2
    go_ret2
    exact ⟨ret_two (rankV_yes hs) (codeS_yes hs), hb0.trans ((HB.out.mono (by simp)).trans (HB2.out.mono (by omega)))⟩
  · have hs' : stateB p L = false := by simpa using hs
    clear hs
    go_enter Try.func7, Try.ntmps7
    go_wp2_with fail
    refine (l01Is_calls A n c p L _ HL.out hn hI0).mono ?_
    rintro e w1 ⟨rfl, hb⟩
    have HB := Lib.hid hb
    clear hb
    go_wp2
    go_ret2
    exact ⟨ret_two (rankV_no hs') (codeS_no hs'), hb0.trans (HB.out.mono (by simp))⟩

set_option maxHeartbeats 400000 in
theorem rankOf_calls (A : Option Addr) (n c : Nat) (p : Int) (L : List Int) (w : World) (hL : L.length = n) (hn : n ≤ 1048576) (hI : Ints w A L) (hs : stateB p L = true) :
    Calls Try.prog 39 #[.agg #[.int .i64 p, .slice A n c]] w fun e w' => e = .returned (.int .i64 (rankL p L)) ∧ Below w.heap.size w w' := by
  have HL : Hid (L.length = n) := hL
  have hb0 : Below w.heap.size w (w.alloc (.cells #[.int .i64 p, .slice A n c] 26)) := (Below.refl _ _).alloc (Nat.le_refl _) _
  have hI0 := hI.below hb0
  obtain ⟨h3, h5, h8, hpn⟩ := state_facts hs hL
  have HS := Lib.hid hs
  clear hL hs
  go_enter Try.func39, Try.ntmps39
  go_wp2
  go_loopw [3, 4, 6, 10] (fun r wt _ i wr => ∃ k : Nat, k ≤ n ∧ i = .int .i64 k ∧ r = .int .i64 (rankL p (L.take k)) ∧ wt = .int .i64 (powI p k) ∧ ∃ m, wr = (w.alloc (.cells #[.int .i64 p, .slice A n c] 26)).drewN m) (fun _ _ _ i _ => n - (intOf i).toNat)
  case atStart => exact ⟨0, Nat.zero_le _, rfl, rfl, rfl, 0, rfl⟩
  case round =>
    obtain ⟨k, hk, rfl, rfl, rfl, m, rfl⟩ := hrel
    by_cases hlt : k < n
    · obtain ⟨ad, rfl, had, hc⟩ := hI0 k (by rw [HL.out]; omega)
      have hd := rank_take_bd HS.out k
      have hx := state_at HS.out k (by rw [HL.out]; omega)
      have hst := Lib.hid (rank_take (p := p) (L := L) (k := k) (by rw [HL.out]; omega))
      have hpk := powI_mono h3 (show k ≤ n by omega)
      have hp1 := powI_pos h3 k
      have hmul := mul_bd (a := L[k]?.getD 0) (b := powI p k) (by omega) (by omega)
      have hmul2 := mul_bd (a := powI p k) (b := p) (by omega) (by omega)
      generalize rankL p (L.take k) = r at *
      go_wp2
      go_roundw
      case rel => exact ⟨k + 1, by omega, by go_num, by rw [hst.out], rfl, by first | exact ⟨_, rfl⟩ | exact ⟨_, World.drewN_drewN _ _ _⟩⟩
      case measure => simp [intOf]; omega
    · obtain rfl : k = n := by omega
      go_wp2
      go_ret
      exact ⟨ret_int (by rw [List.take_of_length_le (by rw [HL.out]; omega)]), belowDraws hb0 m⟩

theorem implRankOf_calls (A : Option Addr) (n c : Nat) (p : Int) (L : List Int) (w : World) (hL : L.length = n) (hn : n ≤ 1048576) (hI : Ints w A L) :
    Calls Try.prog 6 #[.agg #[.int .i64 p, .slice A n c]] w fun e w' => e = .returned (.tuple #[.int .i64 (rankV p L), .int .i64 (codeS p L)]) ∧ Below w.heap.size w w' := by
  have HL : Hid (L.length = n) := hL
  clear hL
  have hb0 : Below w.heap.size w (w.alloc (.cells #[.int .i64 p, .slice A n c] 26)) := (Below.refl _ _).alloc (Nat.le_refl _) _
  have hI0 := hI.below hb0
  by_cases hs : stateB p L = true
  · go_enter Try.func6, Try.ntmps6
    go_wp2_with fail
    refine (implIsState_calls A n c p L _ HL.out hn hI0).mono ?_
    rintro e w1 ⟨rfl, hb⟩
    have HB := Lib.hid hb
    have hI1 := hI0.below hb
    obtain ⟨c0, c1, hz⟩ := boxed2 (hb.mono (by simp))
    clear hb
    go_wp2_with fail
    refine (rankOf_calls A n c p L _ HL.out hn hI1 hs).mono ?_
    rintro e w2 ⟨rfl, hb2⟩
    have HB2 := Lib.hid hb2
    clear hb2
    go_wp2
    go_ret2
    exact ⟨ret_two (rankV_yes hs) (codeS_yes hs), hb0.trans ((HB.out.mono (by simp)).trans (HB2.out.mono (by omega)))⟩
  · have hs' : stateB p L = false := by simpa using hs
    clear hs
    go_enter Try.func6, Try.ntmps6
    go_wp2_with fail
    refine (implIsState_calls A n c p L _ HL.out hn hI0).mono ?_
    rintro e w1 ⟨rfl, hb⟩
    have HB := Lib.hid hb
    clear hb
    go_wp2
    go_ret2
    exact ⟨ret_two (rankV_no hs') (codeS_no hs'), hb0.trans (HB.out.mono (by simp))⟩

end Go.Proofs.Ytfdjlgpdbgmdkaa
