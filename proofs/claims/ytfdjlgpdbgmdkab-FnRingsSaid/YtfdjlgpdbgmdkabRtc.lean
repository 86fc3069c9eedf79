/- Contracts: rings that can be changed. -/
import Derived.Test.YtfdjlgpdbgmdkabConcat
import Derived.Test.YtfdjlgpdbgmdkabRk
import Derived.Laws.EntriesVeiled
namespace Go.Proofs.Ytfdjlgpdbgmdkab
open Go.RowKit
set_option linter.unusedVariables false

/-- The first place of a number in a list; the length if there is none. -/
def ixN (v : Int) : List Int → Nat
  | [] => 0
  | x :: t => if x = v then 0 else ixN v t + 1
def ixV (v : Int) (L : List Int) : Int := if ixN v L < L.length then (ixN v L : Int) else -1
theorem ixN_le (v : Int) : ∀ L : List Int, ixN v L ≤ L.length
  | [] => Nat.le_refl _
  | x :: t => by have := ixN_le v t; unfold ixN; split <;> simp <;> omega
theorem ixN_hit (v : Int) : ∀ (L : List Int) (k : Nat), k < L.length → L[k]?.getD 0 = v → ixN v L ≤ k
  | [], k, h, _ => absurd h (by simp)
  | x :: t, 0, _, h => by
    simp at h
    unfold ixN
    rw [if_pos h]
    exact Nat.le_refl _
  | x :: t, k + 1, hk, h => by
    have := ixN_hit v t k (by simpa using hk) (by simpa using h)
    unfold ixN
    split <;> omega
theorem ixN_miss (v : Int) : ∀ (L : List Int) (k : Nat), k ≤ L.length → (∀ j, j < k → ¬ L[j]?.getD 0 = v) → k ≤ ixN v L
  | _, 0, _, _ => Nat.zero_le _
  | [], k + 1, hk, _ => absurd hk (by simp)
  | x :: t, k + 1, hk, h => by
    have h0 := h 0 (by omega)
    simp at h0
    have := ixN_miss v t k (by simpa using hk) (fun j hj => by have := h (j + 1) (by omega); simpa using this)
    unfold ixN
    rw [if_neg h0]
    omega
theorem ixN_at (v : Int) : ∀ L : List Int, ixN v L < L.length → L[ixN v L]?.getD 0 = v
  | [], h => absurd h (by simp)
  | x :: t, h => by
    unfold ixN at h ⊢
    by_cases hx : x = v
    · rw [if_pos hx]; simpa using hx
    · rw [if_neg hx] at h ⊢
      have := ixN_at v t (by simpa using h)
      simpa using this
theorem ixN_mem (v : Int) : ∀ L : List Int, ixN v L < L.length ↔ v ∈ L
  | [] => by simp
  | x :: t => by
    unfold ixN
    by_cases hx : x = v
    · rw [if_pos hx]; simp [hx]
    · rw [if_neg hx, List.mem_cons, ← ixN_mem v t]
      simp
      exact fun h => absurd h.symm hx
theorem ret_ix {a b : Int} (h : a = b) : Ending.returned (.int .i64 a) = .returned (.int .i64 b) := by rw [h]

set_option maxHeartbeats 400000 in
theorem indexR_calls (A : Option Addr) (n c : Nat) (L : List Int) (v : Int) (w : World) (hL : L.length = n) (hn : n ≤ 1000) (hI : Ints w A L) :
    Calls Try.prog 63 #[.slice A n c, .int .i64 v] w fun e w' => e = .returned (.int .i64 (ixV v L)) ∧ w = w' := by
  have HL := Lib.hid hL
  have HI := Lib.hid hI
  clear hL hI
  go_enter Try.func63, Try.ntmps63
  go_wp2
  go_loop [5, 8] (fun _ i => ∃ k : Nat, k ≤ n ∧ i = .int .i64 k ∧ Hid (∀ j, j < k → ¬ L[j]?.getD 0 = v)) (fun _ i => n - (intOf i).toNat)
  case atStart => exact ⟨0, Nat.zero_le _, rfl, fun j hj => absurd hj (by omega)⟩
  case round =>
    obtain ⟨k, hk, rfl, hall⟩ := hrel
    by_cases hlt : k < n
    · obtain ⟨ad, rfl, had, hc⟩ := HI.out k (by rw [HL.out]; exact hlt)
      by_cases hv : L[k]?.getD 0 = v
      · have ht : (v == L[k]?.getD 0) = true := by simp [hv]
        have H : Hid ((k : Int) = ixV v L) := by
          have h1 := ixN_hit v L k (by rw [HL.out]; exact hlt) hv
          have h2 := ixN_miss v L k (by rw [HL.out]; omega) hall.out
          unfold Hid ixV
          rw [if_pos (by rw [HL.out]; omega)]
          omega
        clear hv
        go_wp2
        go_ret
        exact ⟨ret_ix H.out, rfl⟩
      · have ht : (v == L[k]?.getD 0) = false := by simpa using fun e => hv e.symm
        have HV := Lib.hid hv
        clear hv
        go_wp2
        go_round
        case rel => exact ⟨k + 1, by omega, by go_num, fun j hj => by
          by_cases hjk : j = k
          · subst hjk; exact HV.out
          · exact hall.out j (by omega)⟩
        case measure => simp [intOf]; omega
    · obtain rfl : k = n := by omega
      have H : Hid ((-1 : Int) = ixV v L) := by
        have h2 := ixN_miss v L k (by rw [HL.out]; omega) hall.out
        unfold Hid ixV
        rw [if_neg (by rw [HL.out]; omega)]
      go_wp2
      go_ret
      exact ⟨ret_ix H.out, rfl⟩

set_option maxHeartbeats 400000 in
theorem index_calls (A : Option Addr) (n c : Nat) (L : List Int) (v : Int) (w : World) (hL : L.length = n) (hn : n ≤ 1000) (hI : Ints w A L) :
    Calls Try.prog 57 #[.slice A n c, .int .i64 v] w fun e w' => e = .returned (.int .i64 (ixV v L)) ∧ w = w' := by
  have HL := Lib.hid hL
  have HI := Lib.hid hI
  clear hL hI
  go_enter Try.func57, Try.ntmps57
  go_wp2
  go_loop [5, 8] (fun _ i => ∃ k : Nat, k ≤ n ∧ i = .int .i64 k ∧ Hid (∀ j, j < k → ¬ L[j]?.getD 0 = v)) (fun _ i => n - (intOf i).toNat)
  case atStart => exact ⟨0, Nat.zero_le _, rfl, fun j hj => absurd hj (by omega)⟩
  case round =>
    obtain ⟨k, hk, rfl, hall⟩ := hrel
    by_cases hlt : k < n
    · obtain ⟨ad, rfl, had, hc⟩ := HI.out k (by rw [HL.out]; exact hlt)
      by_cases hv : L[k]?.getD 0 = v
      · have ht : (v == L[k]?.getD 0) = true := by simp [hv]
        have H : Hid ((k : Int) = ixV v L) := by
          have h1 := ixN_hit v L k (by rw [HL.out]; exact hlt) hv
          have h2 := ixN_miss v L k (by rw [HL.out]; omega) hall.out
          unfold Hid ixV
          rw [if_pos (by rw [HL.out]; omega)]
          omega
        clear hv
        go_wp2
        go_ret
        exact ⟨ret_ix H.out, rfl⟩
      · have ht : (v == L[k]?.getD 0) = false := by simpa using fun e => hv e.symm
        have HV := Lib.hid hv
        clear hv
        go_wp2
        go_round
        case rel => exact ⟨k + 1, by omega, by go_num, fun j hj => by
          by_cases hjk : j = k
          · subst hjk; exact HV.out
          · exact hall.out j (by omega)⟩
        case measure => simp [intOf]; omega
    · obtain rfl : k = n := by omega
      have H : Hid ((-1 : Int) = ixV v L) := by
        have h2 := ixN_miss v L k (by rw [HL.out]; omega) hall.out
        unfold Hid ixV
        rw [if_neg (by rw [HL.out]; omega)]
      go_wp2
      go_ret
      exact ⟨ret_ix H.out, rfl⟩

theorem first_calls (A : Option Addr) (n c : Nat) (w : World) :
    Calls Try.prog 59 #[.slice A n c] w fun e w' => e = .returned (.tuple #[.int .i64 0, .bool (decide (0 < n))]) ∧ w = w' := by
  by_cases h : 0 < n
  · have ht : decide ((0 : Int) < (n : Int)) = true := by simp; omega
    go_enter Try.func59, Try.ntmps59
    go_wp2
    go_ret2
    exact ⟨by simp [h], rfl⟩
  · have ht : decide ((0 : Int) < (n : Int)) = false := by simp; omega
    go_enter Try.func59, Try.ntmps59
    go_wp2
    go_ret2
    exact ⟨by simp [h], rfl⟩

/-- The ring behind the least one that is on. -/
def blV (L : List Int) : Int := if ixN 1 L < L.length then (ixN 1 L : Int) + 1 else 0
theorem blV_ix (L : List Int) : ixV 1 L + 1 = blV L := by unfold ixV blV; split <;> omega
theorem blV_bd (L : List Int) : 0 ≤ blV L ∧ blV L ≤ L.length := by unfold blV; split <;> omega
theorem ret_bl {a b : Int} {x y : Bool} (h : a = b) (h' : x = y) : Ending.returned (.tuple #[.int .i64 a, .bool x]) = .returned (.tuple #[.int .i64 b, .bool y]) := by rw [h, h']

set_option maxHeartbeats 400000 in
theorem behindLeast_calls (A : Option Addr) (n c : Nat) (L : List Int) (w : World) (hL : L.length = n) (hn : n ≤ 1000) (hI : Ints w A L) :
    Calls Try.prog 60 #[.slice A n c] w fun e w' => e = .returned (.tuple #[.int .i64 (blV L), .bool (decide (ixN 1 L + 1 < n))]) ∧ w = w' := by
  have hb := blV_bd L
  have hbl := blV_ix L
  have hdef : (0 < blV L ↔ ixN 1 L < n) ∧ (ixN 1 L < n → blV L = (ixN 1 L : Int) + 1) := by
    unfold blV
    rw [hL]
    split <;> omega
  rw [hL] at hb
  obtain ⟨b, hbb⟩ := Int.eq_ofNat_of_zero_le hb.1
  rw [hbb] at hdef hb
  have hix : ixV 1 L = (b : Int) - 1 := by omega
  have HX := Lib.hid hbb
  clear hbl hbb
  have hw : (b : Int) - 1 + 1 = b := by omega
  by_cases h1 : 0 < b
  · have ht1 : decide ((0 : Int) < (b : Int)) = true := by simp; omega
    by_cases h2 : b < n
    · have ht2 : decide ((b : Int) < (n : Int)) = true := by simp; omega
      have H : Hid (true = decide (ixN 1 L + 1 < n)) := by unfold Hid; symm; rw [decide_eq_true_iff]; omega
      clear hdef
      go_enter Try.func60, Try.ntmps60
      go_wp2_with fail
      refine (indexR_calls A n c L 1 _ hL hn hI).mono ?_
      rintro e w' ⟨rfl, rfl⟩
      rw [hix]
      go_wp2
      go_ret2
      exact ⟨ret_bl HX.out.symm H.out, rfl⟩
    · have ht2 : decide ((b : Int) < (n : Int)) = false := by simp; omega
      have H : Hid (false = decide (ixN 1 L + 1 < n)) := by unfold Hid; symm; rw [decide_eq_false_iff_not]; omega
      clear hdef
      go_enter Try.func60, Try.ntmps60
      go_wp2_with fail
      refine (indexR_calls A n c L 1 _ hL hn hI).mono ?_
      rintro e w' ⟨rfl, rfl⟩
      rw [hix]
      go_wp2
      go_ret2
      exact ⟨ret_bl HX.out.symm H.out, rfl⟩
  · have ht1 : decide ((0 : Int) < (b : Int)) = false := by simp; omega
    have H : Hid (false = decide (ixN 1 L + 1 < n)) := by unfold Hid; symm; rw [decide_eq_false_iff_not]; omega
    clear hdef
    go_enter Try.func60, Try.ntmps60
    go_wp2_with fail
    refine (indexR_calls A n c L 1 _ hL hn hI).mono ?_
    rintro e w' ⟨rfl, rfl⟩
    rw [hix]
    go_wp2
    go_ret2
    exact ⟨ret_bl HX.out.symm H.out, rfl⟩

theorem ringChoices_calls (w : World) :
    Calls Try.prog 53 #[] w fun e w' => e = .returned (.agg #[.func (.func 59) #[] #[], .func (.func 60) #[] #[]]) ∧ Below w.heap.size w w' := by
  have HX := Lib.hid (Box.new w 68 #[.nilFunc, .nilFunc])
  go_enter Try.func53, Try.ntmps53
  go_wp2
  refine bodyPost_ret (v := .agg #[.func (.func 59) #[] #[], .func (.func 60) #[] #[]]) (by simp [results, Try.results53, go_sem]) rfl ⟨rfl, (Below.refl _ _).alloc (Nat.le_refl _) _⟩

def rtcL (L : List Int) : List Int := (if 0 < L.length then [0] else []) ++ (if ixN 1 L + 1 < L.length then [(ixN 1 L : Int) + 1] else [])
theorem rtcL_len (L : List Int) : (rtcL L).length ≤ 2 := by unfold rtcL; split <;> split <;> simp

set_option maxHeartbeats 2000000 in
theorem ringsThatChange_calls (A : Option Addr) (n c : Nat) (L : List Int) (w : World) (hL : L.length = n) (hn : n ≤ 16) (hI : Ints w A L) :
    Calls Try.prog 31 #[.slice A n c] w fun e w' => ∃ A' c', e = .returned (.slice A' (rtcL L).length c') ∧ Own w.heap.size w' A' (rtcL L).length c' (rtcL L) ∧ Below w.heap.size w w' := by
  obtain ⟨i0, hi, hz0, hz1, hz2⟩ := info_parts Try.infoI
  have x0 : ∀ (w : World) (f g : Value), (Instr.index 68 (.agg #[f, g]) (.int .i64 0)).run Try.prog w = .ok f w := fun _ _ _ => by kernel_rfl
  have x1 : ∀ (w : World) (f g : Value), (Instr.index 68 (.agg #[f, g]) (.int .i64 1)).run Try.prog w = .ok g w := fun _ _ _ => by kernel_rfl
  have HL := Lib.hid hL
  have hbl : Hid (ixN 1 L + 1 < n → blV L = (ixN 1 L : Int) + 1) := by unfold Hid blV; intro h; rw [hL, if_pos (by omega)]
  by_cases h0 : 0 < n
  · have d0 : decide (0 < n) = true := by simpa using h0
    by_cases h2 : ixN 1 L + 1 < n
    · have d2 : decide (ixN 1 L + 1 < n) = true := by simpa using h2
      have H : Hid (rtcL L = [0] ++ [blV L]) := by unfold Hid rtcL; rw [hL, if_pos h0, if_pos h2, hbl.out h2]
      have HB0 := Lib.hid h0
      clear h2 hL h0 hbl
      go_enter Try.func31, Try.ntmps31
      go_wp2_with fail
      refine (ringChoices_calls _).mono ?_
      rintro e w1 ⟨rfl, hb⟩
      have HB1 := Lib.hid hb
      have HI := Lib.hid (hI.below hb)
      have HI0 := Lib.hid hI
      have HN1 := Lib.hid (OwnG.nilS 2 1 w.heap.size w1)
      clear hb hI
      go_wp2_with fail
      refine wp_loop_rounds 3 ?_
      rw [rounds_succ]
      go_wp2_with fail
      refine (first_calls A n c _).mono ?_
      rintro e w' ⟨rfl, rfl⟩
      rw [d0]
      go_wp2_with (at_builtin; refine wpList_append_own _ rfl _ _ 24 rfl w.heap.size 2 i0 (.int .i64 0) 1 8 Try.underlying24 hi hz0 hz1 hz2 rfl (by decide) _ _ _ rfl (HN1.out.alloc _) ⟨w1.heap.size, 0, none⟩ 1 1 [.int .i64 0] rfl rfl (cell_one_new _ _ _) (by simp [Value.oneCell']) (by unfold maxLen; omega) (by omega) (by simp; have := HB1.out.size; omega) ?_; intro v' w4 hown' hgrow _; obtain ⟨A4, c4, rfl⟩ := ownG_shape hown'; have HO4 := Lib.hid hown'; have HB4 := Lib.hid (HB1.out.trans (OwnG.grown_below HN1.out hgrow (Nat.le_refl _) HB1.out.size)); clear hown' hgrow)
      have HI4 := Lib.hid (HI0.out.below HB4.out)
      rw [rounds_succ]
      go_wp2_with fail
      refine (behindLeast_calls A n c L _ HL.out (by omega) HI4.out).mono ?_
      rintro e w' ⟨rfl, rfl⟩
      rw [d2]
      go_wp2_with (at_builtin; refine wpList_append_own _ rfl _ _ 24 rfl w.heap.size 2 i0 (.int .i64 0) 1 8 Try.underlying24 hi hz0 hz1 hz2 rfl (by decide) _ _ _ rfl (HO4.out.alloc _) ⟨w4.heap.size, 0, none⟩ 1 1 [.int .i64 (blV L)] rfl rfl (cell_one_new _ _ _) (by simp [Value.oneCell']) (by unfold maxLen; omega) (by omega) (by simp; have := HB4.out.size; omega) ?_; intro v' w5 hown' hgrow _; obtain ⟨A5, c5, rfl⟩ := ownG_shape hown'; have HO5 := Lib.hid hown'; have HB5 := Lib.hid (HB4.out.trans (OwnG.grown_below HO4.out hgrow (Nat.le_refl _) HB4.out.size)); clear hown' hgrow)
      rw [rounds_succ]
      go_wp2
      go_ret
      rw [H.out]
      exact ⟨_, _, rfl, HO5.out, HB5.out⟩
    · have d2 : decide (ixN 1 L + 1 < n) = false := by simpa using h2
      have H : Hid (rtcL L = [0]) := by unfold Hid rtcL; rw [hL, if_pos h0, if_neg h2]; rfl
      have HB0 := Lib.hid h0
      clear h2 hL h0 hbl
      go_enter Try.func31, Try.ntmps31
      go_wp2_with fail
      refine (ringChoices_calls _).mono ?_
      rintro e w1 ⟨rfl, hb⟩
      have HB1 := Lib.hid hb
      have HI := Lib.hid (hI.below hb)
      have HI0 := Lib.hid hI
      have HN1 := Lib.hid (OwnG.nilS 2 1 w.heap.size w1)
      clear hb hI
      go_wp2_with fail
      refine wp_loop_rounds 3 ?_
      rw [rounds_succ]
      go_wp2_with fail
      refine (first_calls A n c _).mono ?_
      rintro e w' ⟨rfl, rfl⟩
      rw [d0]
      go_wp2_with (at_builtin; refine wpList_append_own _ rfl _ _ 24 rfl w.heap.size 2 i0 (.int .i64 0) 1 8 Try.underlying24 hi hz0 hz1 hz2 rfl (by decide) _ _ _ rfl (HN1.out.alloc _) ⟨w1.heap.size, 0, none⟩ 1 1 [.int .i64 0] rfl rfl (cell_one_new _ _ _) (by simp [Value.oneCell']) (by unfold maxLen; omega) (by omega) (by simp; have := HB1.out.size; omega) ?_; intro v' w4 hown' hgrow _; obtain ⟨A4, c4, rfl⟩ := ownG_shape hown'; have HO4 := Lib.hid hown'; have HB4 := Lib.hid (HB1.out.trans (OwnG.grown_below HN1.out hgrow (Nat.le_refl _) HB1.out.size)); clear hown' hgrow)
      have HI4 := Lib.hid (HI0.out.below HB4.out)
      rw [rounds_succ]
      go_wp2_with fail
      refine (behindLeast_calls A n c L _ HL.out (by omega) HI4.out).mono ?_
      rintro e w' ⟨rfl, rfl⟩
      rw [d2]
      go_wp2
      rw [rounds_succ]
      go_wp2
      go_ret
      rw [H.out]
      exact ⟨_, _, rfl, HO4.out, HB4.out⟩
  · have h00 : n = 0 := by omega
    have d0 : decide (0 < n) = false := by simpa using h0
    have d2 : decide (ixN 1 L + 1 < n) = false := by simp; omega
    have H : Hid (rtcL L = []) := by unfold Hid rtcL; rw [hL, if_neg h0, if_neg (by omega)]; rfl
    clear hL h0 hbl h00
    go_enter Try.func31, Try.ntmps31
    go_wp2_with fail
    refine (ringChoices_calls _).mono ?_
    rintro e w1 ⟨rfl, hb⟩
    have HB1 := Lib.hid hb
    have HI := Lib.hid (hI.below hb)
    have HI0 := Lib.hid hI
    have HN1 := Lib.hid (OwnG.nilS 2 1 w.heap.size w1)
    clear hb hI
    go_wp2_with fail
    refine wp_loop_rounds 3 ?_
    rw [rounds_succ]
    go_wp2_with fail
    refine (first_calls A n c _).mono ?_
    rintro e w' ⟨rfl, rfl⟩
    rw [d0]
    go_wp2
    rw [rounds_succ]
    go_wp2_with fail
    refine (behindLeast_calls A n c L _ HL.out (by omega) HI.out).mono ?_
    rintro e w' ⟨rfl, rfl⟩
    rw [d2]
    go_wp2
    rw [rounds_succ]
    go_wp2
    go_ret
    rw [H.out]
    exact ⟨_, _, rfl, HN1.out, HB1.out⟩

end Go.Proofs.Ytfdjlgpdbgmdkab
