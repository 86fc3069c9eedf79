/- Contracts: the total of a perfect state of three pegs. -/
import Derived.Test.YtlhcenhlcajgnaaSm
import Derived.Test.YtlhcenhlcajgnaaTt
namespace Go.Proofs.Ytlhcenhlcajgnaa
open Go.RowKit
open Go.RowKit (wrap64)
set_option linter.unusedVariables false

/-- The levels of a perfect state: 2^(digits 1 of d). -/
def lvL (N : Nat) : List Int := (List.range N).map fun d => ((2 ^ pop d : Nat) : Int)
theorem lvL_len (N : Nat) : (lvL N).length = N := by simp [lvL]
theorem lvL_at {N j : Nat} (h : j < N) : (lvL N)[j]?.getD 0 = ((2 ^ pop j : Nat) : Int) := by
  unfold lvL
  rw [List.getElem?_map, List.getElem?_range h]
  rfl
theorem lvL_ok {m : Nat} (hm : m ≤ 8) : lvOk (lvL (2 ^ m)) := by
  intro j
  by_cases h : j < 2 ^ m
  · rw [lvL_at h]
    have h1 := pop_le_of h (by omega)
    have h2 := pow2n8' (n := pop j) (by omega)
    omega
  · rw [List.getElem?_eq_none (by rw [lvL_len]; omega)]
    decide
def tpV (n : Int) : Int := if inB n 0 8 = true then sm1 (lvL (2 ^ n.toNat)) (2 ^ n.toNat) else 0
def tpE (n : Int) : Int := if inB n 0 8 = true then 0 else 2
theorem tp_yes {m : Nat} (h : inB (m : Int) 0 8 = true) : tpV m = sm1 (lvL (2 ^ m)) (2 ^ m) ∧ tpE m = 0 := by unfold tpV tpE; rw [if_pos h, if_pos h, Int.toNat_natCast]; exact ⟨rfl, rfl⟩
theorem tp_no {n : Int} (h : inB n 0 8 = false) : tpV n = 0 ∧ tpE n = 2 := by unfold tpV tpE; rw [h]; exact ⟨rfl, rfl⟩

set_option maxHeartbeats 1000000 in
theorem specTotalToPerfect_calls (n : Int) (w : World) :
    Calls Try.prog 7 #[.int .i64 n] w fun e w' => e = .returned (.tuple #[.int .i64 (tpV n), .int .i64 (tpE n)]) ∧ Below w.heap.size w w' := by
  by_cases hb : inB n 0 8 = true
  · have h0 := inB_of hb
    obtain ⟨m, rfl⟩ := Int.eq_ofNat_of_zero_le h0.1
    have hm8 : m ≤ 8 := by omega
    have hm16 : m ≤ 16 := by omega
    have H := Lib.hid (tp_yes hb)
    have HV := Lib.hid (lvL_ok hm8)
    obtain ⟨N, hN⟩ : ∃ N : Nat, Hid (N = 2 ^ m) := ⟨_, rfl⟩
    have hNb : 1 ≤ N ∧ N ≤ 256 := by rw [hN.out]; exact pow2n8' hm8
    rw [← hN.out] at H HV
    go_enter Try.func7, Try.ntmps7
    go_wp2_with fail
    refine (l01In_calls m 0 8 _).mono ?_
    rintro e w' ⟨rfl, rfl⟩
    go_wp2
    go_loop [4, 5] (fun s d => ∃ k : Nat, k ≤ N ∧ d = .int .i64 k ∧ s = .int .i64 (sm1 (lvL N) k)) (fun _ d => N - (intOf d).toNat)
    case atStart => exact ⟨0, Nat.zero_le _, rfl, rfl⟩
    case round =>
      obtain ⟨k, hk, rfl, rfl⟩ := hrel
      by_cases hlt : k < N
      · have hx := HV.out k
        have hat := lvL_at hlt
        have hbd := (sm_bd HV.out k (by omega)).2.1
        have hpr := (lv_prod (k := k) hx (by omega)).1
        have s1 := Lib.hid (show sm1 (lvL N) (k + 1) = sm1 (lvL N) k + (lvL N)[k]?.getD 0 * k from rfl)
        rw [hat] at hx hpr s1
        obtain ⟨p, hp⟩ : ∃ p, Hid (p = pop k) := ⟨_, rfl⟩
        rw [← hp.out] at hx hpr s1
        obtain ⟨Q, hQ⟩ : ∃ Q : Nat, Hid (Q = 2 ^ p) := ⟨_, rfl⟩
        rw [← hQ.out] at hx hpr s1
        have hp16 : p ≤ 16 := by
          have := pop_le_of (k := k) (m := m) (by rw [← hN.out]; exact hlt) (by omega)
          rw [hp.out]
          omega
        rw [Int.mul_comm] at hpr s1
        obtain ⟨r2, r3⟩ := hbd
        obtain ⟨q0, q1⟩ := hpr
        have hk32 : k < 4294967296 := by omega
        clear hat hx
        generalize sm1 (lvL N) k = S1 at *
        go_wp2_with fail
        refine (l01Size_two m N _ hm16 hN).mono ?_
        rintro e w' ⟨rfl, rfl⟩
        go_wp2_with fail
        refine (l09Digits_at k p _ hk32 hp).mono ?_
        rintro e w' ⟨rfl, rfl⟩
        go_wp2_with fail
        refine (l01Size_two p Q _ hp16 hQ).mono ?_
        rintro e w' ⟨rfl, rfl⟩
        go_wp2
        go_round
        case rel => exact ⟨k + 1, by omega, by go_num, by rw [s1.out]⟩
        case measure => simp [intOf]; omega
      · obtain rfl : k = N := by omega
        go_wp2_with fail
        refine (l01Size_two m k _ hm16 hN).mono ?_
        rintro e w' ⟨rfl, rfl⟩
        go_wp2
        go_ret2
        exact ⟨ret_two H.out.1 H.out.2, Below.refl _ _⟩
  · have hb' : inB n 0 8 = false := by simpa using hb
    have H := Lib.hid (tp_no hb')
    clear hb
    go_enter Try.func7, Try.ntmps7
    go_wp2_with fail
    refine (l01In_calls n 0 8 _).mono ?_
    rintro e w' ⟨rfl, rfl⟩
    go_wp2
    go_ret2
    exact ⟨ret_two H.out.1 H.out.2, Below.refl _ _⟩

set_option maxHeartbeats 1000000 in
theorem perfectLevels_calls (m N : Nat) (w : World) (hm : m ≤ 8) (hN : Hid (N = 2 ^ m)) :
    Calls Try.prog 20 #[.int .i64 m] w fun e w' => e = .returned (.slice (some ⟨w.heap.size, 0, none⟩) N N) ∧ Row w' w.heap.size 2 (lvL N) ∧ Below w.heap.size w w' := by
  have hm16 : m ≤ 16 := by omega
  have hNb : 1 ≤ N ∧ N ≤ 256 := by rw [hN.out]; exact pow2n8' hm
  have HWP : Hid (wrap64 ((2 : Int) ^ m) = (N : Int)) := by unfold Hid; rw [hN.out]; exact wrap_pow hm16
  have hmk := run_make_row' (P := Try.prog) 33 2 (.int .i64 0) 8 Try.underlying33 Try.infoI rfl .i64 .i64 N (by omega) (by omega)
  have hwp := HWP.out
  go_enter Try.func20, Try.ntmps20
  go_wp2
  go_loopw [10] (fun i wr => ∃ k : Nat, k ≤ N ∧ i = .int .i64 k ∧ wr.rowIs w.heap.size 2 N (upto (lvL N) k) ∧ Below w.heap.size w wr) (fun i _ => N - (intOf i).toNat)
  case atStart => exact ⟨0, Nat.zero_le _, rfl, (World.rowIs_made _ _ _ _).congr (fun i _ => by simp [upto]), (Below.refl _ _).alloc (Nat.le_refl _) _⟩
  case round =>
    obtain ⟨k, hk, rfl, hrow, hb⟩ := hrel
    have HB := Lib.hid hb
    have HR := Lib.hid hrow
    by_cases hlt : k < N
    · have hfz := hrow.frozen k
      have hold := hrow.cell hlt
      have hst := Lib.hid (upto_step (lvL N) k)
      have hat := lvL_at hlt
      obtain ⟨p, hp⟩ : ∃ p, Hid (p = pop k) := ⟨_, rfl⟩
      have hp16 : p ≤ 16 := by
        have := pop_le_of (k := k) (m := m) (by rw [← hN.out]; exact hlt) (by omega)
        rw [hp.out]
        omega
      obtain ⟨Q, hQ⟩ : ∃ Q : Nat, Hid (Q = 2 ^ p) := ⟨_, rfl⟩
      rw [← hp.out, ← hQ.out] at hat
      have HAT := Lib.hid hat
      have HWQ : Hid (wrap64 ((2 : Int) ^ p) = (Q : Int)) := by unfold Hid; rw [hQ.out]; exact wrap_pow hp16
      have hwq := HWQ.out
      have hk32 : k < 4294967296 := by omega
      clear hrow hb hat hwp
      go_wp2_with fail
      refine (digitNumber_at k p _ hk32 hp).mono ?_
      rintro e w' ⟨rfl, rfl⟩
      go_wp2
      go_roundw
      case rel =>
        refine ⟨k + 1, by omega, by go_num, (HR.out.set k _).congr (fun i _ => ?_), HB.out.setCell (Nat.le_refl _) _⟩
        have := hst.out i
        rw [HAT.out] at this
        first | exact this | (rw [HWQ.out]; exact this)
      case measure => simp [intOf]; omega
    · obtain rfl : k = N := by omega
      clear hrow hb
      go_wp2
      go_ret
      exact ⟨rfl, by
        unfold Row
        rw [lvL_len]
        exact HR.out.congr (fun j hj => by simp [upto, hj]), HB.out⟩

theorem sums_field (x y z : Int) : ∀ w : World, (Instr.field 31 (.agg #[.int .i64 x, .int .i64 y, .int .i64 z]) 1).run Try.prog w = .ok (.int .i64 y) w := fun _ => by kernel_rfl

set_option maxHeartbeats 1000000 in
theorem implTotalToPerfect_calls (n : Int) (w : World) :
    Calls Try.prog 8 #[.int .i64 n] w fun e w' => e = .returned (.tuple #[.int .i64 (tpV n), .int .i64 (tpE n)]) ∧ Below w.heap.size w w' := by
  by_cases hb : inB n 0 8 = true
  · have h0 := inB_of hb
    obtain ⟨m, rfl⟩ := Int.eq_ofNat_of_zero_le h0.1
    have hm8 : m ≤ 8 := by omega
    have H := Lib.hid (tp_yes hb)
    have HV := Lib.hid (lvL_ok hm8)
    obtain ⟨N, hN⟩ : ∃ N : Nat, Hid (N = 2 ^ m) := ⟨_, rfl⟩
    have hNb : 1 ≤ N ∧ N ≤ 256 := by rw [hN.out]; exact pow2n8' hm8
    rw [← hN.out] at H HV
    go_enter Try.func8, Try.ntmps8
    go_wp2_with fail
    refine (isUpTo_calls m 8 _).mono ?_
    rintro e w' ⟨rfl, rfl⟩
    go_wp2_with fail
    refine (perfectLevels_calls m N _ hm8 hN).mono ?_
    rintro e w1 ⟨rfl, hr, hb1⟩
    have HB1 := Lib.hid hb1
    have HR1 := Lib.hid hr.ints
    have hsz := hb1.size
    clear hr hb1
    go_wp2_with fail
    refine (sumsOf_calls _ N N (lvL N) _ (lvL_len N) (by omega) HR1.out HV.out).mono ?_
    rintro e w2 ⟨rfl, hb2⟩
    have HB2 := Lib.hid (HB1.out.trans (hb2.mono hsz))
    clear hb2
    have hfd := sums_field (sm0 (lvL N) N) (sm1 (lvL N) N) (sm2 (lvL N) N)
    go_wp2
    go_ret2
    exact ⟨ret_two H.out.1 H.out.2, HB2.out⟩
  · have hb' : inB n 0 8 = false := by simpa using hb
    have H := Lib.hid (tp_no hb')
    clear hb
    go_enter Try.func8, Try.ntmps8
    go_wp2_with fail
    refine (isUpTo_calls n 8 _).mono ?_
    rintro e w' ⟨rfl, rfl⟩
    go_wp2
    go_ret2
    exact ⟨ret_two H.out.1 H.out.2, Below.refl _ _⟩

end Go.Proofs.Ytlhcenhlcajgnaa
