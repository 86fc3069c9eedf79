/- Contracts: words of rings of ranks. -/
import Derived.Test.YtfdjlgpdbgmdkabRk
import Derived.Test.YtfdjlgpdbgmdkabPow2
import Derived.Test.YtfdjlgpdbgmdkabMark
import Derived.Test.YtfdjlgpdbgmdkabOwnG
import Derived.Test.YtfdjlgpdbgmdkabPerfect
import Derived.Laws.BitsLemmas
namespace Go.Proofs.Ytfdjlgpdbgmdkab
open Go.RowKit
set_option linter.unusedVariables false

/-- The number of the ring i of the word with the rank r. -/
def rwB (r i : Nat) : Int := (((r / 2 ^ i + r / 2 ^ (i + 1)) % 2 : Nat) : Int)
def rwL (r : Nat) (k : Nat) : List Int := (List.range k).map (rwB r)
theorem rwL_len (r k : Nat) : (rwL r k).length = k := by simp [rwL]
theorem rwL_succ (r k : Nat) : rwL r (k + 1) = rwL r k ++ [rwB r k] := by simp [rwL, List.range_succ]
theorem rwL_at (r : Nat) {k i : Nat} (h : i < k) : (rwL r k)[i]?.getD 0 = rwB r i := by simp [rwL, h]
/-- What RingsOfRank answers. -/
def roB (n r : Int) : Bool := inB n 0 16 && inB r 0 (((2 ^ n.toNat : Nat) : Int) - 1)
def roL (n r : Int) : List Int := if roB n r = true then rwL r.toNat n.toNat else []
def roE (n r : Int) : Int := if roB n r = true then 0 else 2
theorem ro_yes {n r : Nat} (h : n ≤ 16) (h2 : r < 2 ^ n) : roL n r = rwL r n ∧ roE n r = 0 := by
  have : roB n r = true := by
    unfold roB
    rw [Bool.and_eq_true]
    exact ⟨inB_yes (by omega) (by omega), inB_yes (by omega) (by rw [Int.toNat_natCast]; omega)⟩
  unfold roL roE
  rw [if_pos this, if_pos this]
  exact ⟨rfl, rfl⟩
theorem ro_no {n r : Int} (h : roB n r = false) : roL n r = [] ∧ roE n r = 2 := by unfold roL roE; rw [h]; exact ⟨rfl, rfl⟩
theorem ro_no1 {n r : Int} (h : ¬ (0 ≤ n ∧ n ≤ 16)) : roL n r = [] ∧ roE n r = 2 := ro_no (by unfold roB; rw [inB_no h]; rfl)
theorem ro_no2 {n : Nat} {r : Int} (h : ¬ (0 ≤ r ∧ r < ((2 ^ n : Nat) : Int))) : roL n r = [] ∧ roE n r = 2 := ro_no (by unfold roB; rw [Bool.and_eq_false_iff]; right; exact inB_no (by rw [Int.toNat_natCast]; omega))
theorem roL_len (n r : Int) : (roL n r).length ≤ 1048576 := by
  unfold roL
  by_cases h : roB n r = true
  · rw [if_pos h, rwL_len]
    unfold roB at h
    rw [Bool.and_eq_true] at h
    have := inB_of h.1
    omega
  · rw [if_neg h]; simp

set_option maxHeartbeats 1000000 in
theorem l05Word_calls (n r : Nat) (w : World) (hn : n ≤ 16) (hr : r ≤ 65536) :
    Calls Try.prog 47 #[.int .i64 n, .int .i64 r] w fun e w' => ∃ A c, e = .returned (.slice A n c) ∧ Own w.heap.size w' A n c (rwL r n) ∧ Below w.heap.size w w' := by
  obtain ⟨i0, hi, hz0, hz1, hz2⟩ := info_parts Try.infoI
  go_enter Try.func47, Try.ntmps47
  go_wp2
  go_loopw [5, 6] (fun v i wr => ∃ k : Nat, k ≤ n ∧ i = .int .i64 k ∧ (∃ A c, v = .slice A k c ∧ OwnG 2 1 w.heap.size wr A k c ((rwL r k).map (Value.int .i64))) ∧ Below w.heap.size w wr) (fun _ i _ => n - (intOf i).toNat)
  case atStart =>
    have e2 := Box.new w 2 #[]
    exact ⟨0, Nat.zero_le _, rfl, ⟨_, _, rfl, OwnG.emptyAt e2 (Nat.le_refl _)⟩, (Below.refl _ _).alloc (Nat.le_refl _) _⟩
  case round =>
    obtain ⟨k, hk, rfl, ⟨A, c, rfl, hown⟩, hb⟩ := hrel
    have HB := Lib.hid hb
    have hsz := hb.size
    clear hb
    by_cases hlt : k < n
    · obtain ⟨X, hX⟩ : ∃ X : Nat, X = r / 2 ^ k := ⟨_, rfl⟩
      obtain ⟨Y, hY⟩ : ∃ Y : Nat, Y = r / 2 ^ (k + 1) := ⟨_, rfl⟩
      have hx : (r : Int) / 2 ^ k = (X : Int) := by rw [hX]; simp
      have hy : (r : Int) / 2 ^ (k + 1) = (Y : Int) := by rw [hY]; simp
      have hXb : X ≤ 65536 := by rw [hX]; exact Nat.le_trans (Nat.div_le_self _ _) hr
      have hYb : Y ≤ 65536 := by rw [hY]; exact Nat.le_trans (Nat.div_le_self _ _) hr
      have hst : Hid (rwL r (k + 1) = rwL r k ++ [((X : Int) + Y) % 2]) := by
        unfold Hid
        rw [rwL_succ, hX, hY]
        unfold rwB
        simp
      have hdl : Hid ((rwL r k).length = k) := rwL_len r k
      clear hX hY
      generalize rwL r k = D at *
      go_wp2_with (at_builtin; refine wpList_append_own _ rfl _ _ 24 rfl w.heap.size 2 i0 (.int .i64 0) 1 8 Try.underlying24 hi hz0 hz1 hz2 rfl (by decide) _ _ _ rfl (hown.alloc _) ⟨wr.heap.size, 0, none⟩ 1 1 [.int .i64 (((X : Int) + Y) % 2)] rfl rfl (cell_one_new _ _ _) (by simp [Value.oneCell']) (by unfold maxLen; omega) (by omega) (by simp; omega) ?_; intro v' w4 hown' hgrow _; obtain ⟨A4, c4, rfl⟩ := ownG_shape hown'; have HO4 := Lib.hid hown'; have HB4 := Lib.hid (HB.out.trans (OwnG.grown_below hown hgrow (Nat.le_refl _) hsz)); clear hown' hgrow)
      go_roundw
      case rel =>
        refine ⟨k + 1, by omega, by go_num, ⟨A4, c4, rfl, ?_⟩, HB4.out⟩
        rw [hst.out, List.map_append]
        exact HO4.out
      case measure => simp [intOf]; omega
    · obtain rfl : k = n := by omega
      go_wp2
      go_ret
      exact ⟨A, c, rfl, hown, HB.out⟩

set_option maxHeartbeats 400000 in
theorem specRingsOfRank_ret (n r : Int) (w : World) :
    Calls Try.prog 22 #[.int .i64 n, .int .i64 r] w (RetInts w (roL n r).length (roL n r) (roE n r)) := by
  by_cases hn : 0 ≤ n ∧ n ≤ 16
  · obtain ⟨m, rfl⟩ := Int.eq_ofNat_of_zero_le hn.1
    obtain ⟨N, hN⟩ : ∃ N : Nat, Hid (N = 2 ^ m) := ⟨_, rfl⟩
    have hp := pow2n16 (n := m) (by omega)
    have hNb : N ≤ 65536 := by rw [hN.out]; exact hp.2
    have hm16 : m ≤ 16 := by omega
    have hin : inB (m : Int) 0 16 = true := inB_yes hn.1 hn.2
    clear hp hn
    by_cases hr : 0 ≤ r ∧ r < (N : Int)
    · obtain ⟨q, rfl⟩ := Int.eq_ofNat_of_zero_le hr.1
      have hin2 : inB (q : Int) 0 ((N : Int) - 1) = true := inB_yes (by omega) (by omega)
      have H := Lib.hid (ro_yes (n := m) (r := q) hm16 (by have := hN.out; omega))
      go_enter Try.func22, Try.ntmps22
      go_wp2_with fail
      refine (l01In_calls _ _ _ _).mono ?_
      rintro e w' ⟨rfl, rfl⟩
      go_wp2_with fail
      refine (l01Size_two m N _ hm16 hN).mono ?_
      rintro e w' ⟨rfl, rfl⟩
      go_wp2_with fail
      refine (l01In_calls _ _ _ _).mono ?_
      rintro e w' ⟨rfl, rfl⟩
      go_wp2_with fail
      refine (l05Word_calls m q _ hm16 (by omega)).mono ?_
      rintro e w' ⟨A, c, rfl, hO, hb⟩
      have HO := Lib.hid hO
      have HB := Lib.hid hb
      clear hO hb
      go_wp2
      go_ret2
      obtain ⟨q1, q2⟩ := H.out
      rw [q1, q2, rwL_len]
      exact ⟨A, c, rfl, HO.out, HB.out⟩
    · have hin2 : inB r 0 ((N : Int) - 1) = false := inB_no (by omega)
      have H := Lib.hid (ro_no2 (n := m) (r := r) (by rw [← hN.out]; exact hr))
      clear hr
      go_enter Try.func22, Try.ntmps22
      go_wp2_with fail
      refine (l01In_calls _ _ _ _).mono ?_
      rintro e w' ⟨rfl, rfl⟩
      go_wp2_with fail
      refine (l01Size_two m N _ hm16 hN).mono ?_
      rintro e w' ⟨rfl, rfl⟩
      go_wp2_with fail
      refine (l01In_calls _ _ _ _).mono ?_
      rintro e w' ⟨rfl, rfl⟩
      go_wp2
      go_ret2
      obtain ⟨q1, q2⟩ := H.out
      rw [q1, q2]
      exact retInts_zero rfl (Below.refl _ _)
  · have hin : inB n 0 16 = false := inB_no hn
    have H := Lib.hid (ro_no1 (r := r) hn)
    clear hn
    go_enter Try.func22, Try.ntmps22
    go_wp2_with fail
    refine (l01In_calls _ _ _ _).mono ?_
    rintro e w' ⟨rfl, rfl⟩
    go_wp2
    go_ret2
    obtain ⟨q1, q2⟩ := H.out
    rw [q1, q2]
    exact retInts_zero rfl (Below.refl _ _)

theorem xor_mod2 (x y : Nat) : (x ^^^ y) % 2 = (x + y) % 2 := by
  have h := Nat.xor_mod_two_eq_one (a := x) (b := y)
  rcases Nat.mod_two_eq_zero_or_one x with hx | hx <;> rcases Nat.mod_two_eq_zero_or_one y with hy | hy <;> rcases Nat.mod_two_eq_zero_or_one (x ^^^ y) with hz | hz <;> simp [hx, hy, hz] at h <;> omega
theorem xorbit (q i : Nat) : (q ^^^ q / 2) / 2 ^ i % 2 = (q / 2 ^ i + q / 2 ^ (i + 1)) % 2 := by
  have h1 : q / 2 ^ (i + 1) = q / 2 / 2 ^ i := by rw [Nat.pow_succ, Nat.mul_comm, Nat.div_div_eq_div_mul]
  rw [h1, ← Nat.shiftRight_eq_div_pow, ← Nat.shiftRight_eq_div_pow, ← Nat.shiftRight_eq_div_pow, Nat.shiftRight_xor_distrib, xor_mod2]
theorem bits_xor (a b : Nat) (ha : a < 2 ^ 63) (hb : b < 2 ^ 63) : bits .xor .i64 (a : Int) (b : Int) = ((a ^^^ b : Nat) : Int) := by
  have hx : a ^^^ b < 2 ^ 63 := Nat.xor_lt_two_pow ha hb
  have ha' : a % 2 ^ 64 = a := Nat.mod_eq_of_lt (by omega)
  have hb' : b % 2 ^ 64 = b := Nat.mod_eq_of_lt (by omega)
  show IntKind.i64.wrap ((BitVec.ofInt 64 (a : Int) ^^^ BitVec.ofInt 64 (b : Int)).toNat : Int) = _
  rw [BitVec.toNat_xor, BitVec.ofInt_natCast, BitVec.ofInt_natCast, BitVec.toNat_ofNat, BitVec.toNat_ofNat, ha', hb', IntKind.wrap_i64]
  omega
theorem wraps_i63 (n : Int) (h₀ : 0 ≤ n) (h₁ : n < 2 ^ 63) : IntKind.i64.wrap n = n := by rw [IntKind.wrap_i64]; omega
/-- What the program reckons for a ring. -/
theorem ring_bits (q j : Nat) (hq : q ≤ 65536) : bits .and .i64 (bits .xor .i64 (q : Int) ((q : Int) / 2) / 2 ^ j) 1 = rwB q j := by
  have e1 : (q : Int) / 2 = ((q / 2 : Nat) : Int) := by simp
  rw [e1, bits_xor q (q / 2) (by omega) (by omega)]
  have e2 : (((q ^^^ q / 2 : Nat) : Int)) / 2 ^ j = (((q ^^^ q / 2) / 2 ^ j : Nat) : Int) := by simp
  have hb : (q ^^^ q / 2) / 2 ^ j < 2 ^ 63 := Nat.lt_of_le_of_lt (Nat.div_le_self _ _) (Nat.xor_lt_two_pow (by omega) (by omega))
  rw [e2]
  have e3 := bits_mask .i64 63 (by decide) wraps_i63 1 (by decide) (((q ^^^ q / 2) / 2 ^ j : Nat) : Int) (Int.natCast_nonneg _) (by omega)
  simp only [Int.pow_succ, Int.pow_zero, Int.one_mul] at e3
  rw [show (2 : Int) - 1 = 1 from rfl] at e3
  rw [e3]
  unfold rwB
  rw [← xorbit]
  omega

set_option maxHeartbeats 1000000 in
theorem implRingsOfRank_ret (n r : Int) (w : World) :
    Calls Try.prog 12 #[.int .i64 n, .int .i64 r] w (RetInts w (roL n r).length (roL n r) (roE n r)) := by
  by_cases hn : 0 ≤ n ∧ n ≤ 16
  · obtain ⟨m, rfl⟩ := Int.eq_ofNat_of_zero_le hn.1
    obtain ⟨N, hN⟩ : ∃ N : Nat, Hid (N = 2 ^ m) := ⟨_, rfl⟩
    have hp := pow2n16 (n := m) (by omega)
    have hNb : N ≤ 65536 := by rw [hN.out]; exact hp.2
    have hm16 : m ≤ 16 := by omega
    clear hp hn
    by_cases hr : 0 ≤ r ∧ r < (N : Int)
    · obtain ⟨q, rfl⟩ := Int.eq_ofNat_of_zero_le hr.1
      have H := Lib.hid (ro_yes (n := m) (r := q) hm16 (by have := hN.out; omega))
      have hmk := run_make_row' (P := Try.prog) 24 2 (.int .i64 0) 8 Try.underlying24 Try.infoI rfl .i64 .i64 m (by omega) (by omega)
      have hq : q < N := by omega
      clear hr
      go_enter Try.func12, Try.ntmps12
      go_wp2_with fail
      refine (numberOfWords_yes m N _ hm16 hN).mono ?_
      rintro e w' ⟨rfl, rfl⟩
      go_wp2
      go_loopw [9, 30] (fun _ i wr => ∃ j : Nat, j ≤ m ∧ i = .int .i64 j ∧ wr.rowIs w.heap.size 2 m (upto (rwL q m) j) ∧ Below w.heap.size w wr) (fun _ i _ => m - (intOf i).toNat)
      case atStart =>
        have e2 := World.rowIs_made w (.int .i64 0) m 2
        exact ⟨0, Nat.zero_le _, rfl, e2.congr (fun i _ => by simp [upto]), (Below.refl _ _).alloc (Nat.le_refl _) _⟩
      case round =>
        obtain ⟨j, hj, rfl, hrow, hb⟩ := hrel
        have HB := Lib.hid hb
        clear hb
        by_cases hlt : j < m
        · have hfz := hrow.frozen j
          have hold := hrow.cell hlt
          have HR := Lib.hid hrow
          clear hrow
          have hst := Lib.hid (upto_step (rwL q m) j)
          have hat := Lib.hid (rwL_at q hlt)
          have hbit := Lib.hid (ring_bits q j (by omega))
          go_wp2
          go_roundw
          case rel =>
            refine ⟨j + 1, by omega, by go_num, (HR.out.set j _).congr (fun i _ => ?_), HB.out.setCell (by simp) _⟩
            have := hst.out i
            rw [hat.out] at this
            rw [hbit.out]
            exact this
          case measure => simp [intOf]; omega
        · obtain rfl : j = m := by omega
          have HR := Lib.hid hrow
          clear hrow
          have hrow' : Row wr w.heap.size 2 (rwL q j) := by
            unfold Row
            rw [rwL_len]
            exact HR.out.congr (fun i hi => by simp [upto, hi])
          have hown := hrow'.own (B := w.heap.size) (Nat.le_refl _) (by rw [rwL_len]; omega)
          rw [rwL_len] at hown
          have HO := Lib.hid hown
          clear hown hrow'
          go_wp2
          go_ret2
          obtain ⟨q1, q2⟩ := H.out
          rw [q1, q2, rwL_len]
          exact ⟨_, _, rfl, HO.out, HB.out⟩
    · have H := Lib.hid (ro_no2 (n := m) (r := r) (by rw [← hN.out]; exact hr))
      by_cases h0 : r < 0
      · go_enter Try.func12, Try.ntmps12
        go_wp2_with fail
        refine (numberOfWords_yes m N _ hm16 hN).mono ?_
        rintro e w' ⟨rfl, rfl⟩
        go_wp2
        go_ret2
        obtain ⟨q1, q2⟩ := H.out
        rw [q1, q2]
        exact retInts_zero rfl (Below.refl _ _)
      · have h1 : (N : Int) ≤ r := by omega
        clear hr
        go_enter Try.func12, Try.ntmps12
        go_wp2_with fail
        refine (numberOfWords_yes m N _ hm16 hN).mono ?_
        rintro e w' ⟨rfl, rfl⟩
        go_wp2
        go_ret2
        obtain ⟨q1, q2⟩ := H.out
        rw [q1, q2]
        exact retInts_zero rfl (Below.refl _ _)
  · have H := Lib.hid (ro_no1 (r := r) hn)
    go_enter Try.func12, Try.ntmps12
    go_wp2_with fail
    refine (numberOfWords_no n _ hn).mono ?_
    rintro e w' ⟨rfl, rfl⟩
    go_wp2
    go_ret2
    obtain ⟨q1, q2⟩ := H.out
    rw [q1, q2]
    exact retInts_zero rfl (Below.refl _ _)

end Go.Proofs.Ytfdjlgpdbgmdkab
