/- Contracts: words of rings of ranks. -/
import Derived.Test.YtdgmlgdijdehjaaRk
import Derived.Test.YtdgmlgdijdehjaaMark
import Derived.Test.YtdgmlgdijdehjaaOwnG
import Derived.Test.YtdgmlgdijdehjaaPerfect
import Derived.Laws.BitsLemmas
namespace Go.Proofs.Ytdgmlgdijdehjaa
open Go.RowKit
set_option linter.unusedVariables false

/-- The number of the ring i of the word with the rank r. -/
def rwB (r i : Nat) : Int := (((r / 2 ^ i + r / 2 ^ (i + 1)) % 2 : Nat) : Int)
def rwL (r : Nat) (k : Nat) : List Int := (List.range k).map (rwB r)
theorem rwL_len (r k : Nat) : (rwL r k).length = k := by simp [rwL]
theorem rwL_succ (r k : Nat) : rwL r (k + 1) = rwL r k ++ [rwB r k] := by simp [rwL, List.range_succ]
theorem rwL_at (r : Nat) {k i : Nat} (h : i < k) : (rwL r k)[i]?.getD 0 = rwB r i := by simp [rwL, h]
theorem pow2n16 {n : Nat} (h : n ≤ 16) : 1 ≤ 2 ^ n ∧ 2 ^ n ≤ 65536 :=
  ⟨Nat.one_le_two_pow, Nat.le_trans (Nat.pow_le_pow_right (by omega) h) (by decide)⟩

theorem wrap_pow {n : Nat} (h : n ≤ 16) : wrap64 ((2 : Int) ^ n) = ((2 ^ n : Nat) : Int) := by
  have h0 := pow2n16 h
  have h1 : ((2 ^ n : Nat) : Int) = (2 : Int) ^ n := by simp
  rw [← h1]
  exact IntWalk.wrap64_in _ (by omega)
/-- What RingsOfRank answers. -/
def roB (n r : Int) : Bool := inB n 0 16 && inB r 0 (((2 ^ n.toNat : Nat) : Int) - 1)
def roL (n r : Int) : List Int := if roB n r = true then rwL r.toNat n.toNat else []
def roE (n r : Int) : Int := if roB n r = true then 0 else 2
theorem ro_yes {n r : Nat} (h : n ≤ 16) (h2 : r < 2 ^ n) : roL n r = rwL r n ∧ roE n r = 0 := by
  have : roB n r = true := by
    unfold roB
    rw [Bool.and_eq_true]
    exact ⟨inB_yes (by omega) (by omega), inB_yes (by omega) (by rw [Int.toNat_natCast]; omega)⟩
  unfold roL roE
  rw [if_pos this, if_pos this]
  exact ⟨rfl, rfl⟩
theorem ro_no {n r : Int} (h : roB n r = false) : roL n r = [] ∧ roE n r = 2 := by unfold roL roE; rw [h]; exact ⟨rfl, rfl⟩
theorem ro_no1 {n r : Int} (h : ¬ (0 ≤ n ∧ n ≤ 16)) : roL n r = [] ∧ roE n r = 2 := ro_no (by unfold roB; rw [inB_no h]; rfl)
theorem ro_no2 {n : Nat} {r : Int} (h : ¬ (0 ≤ r ∧ r < ((2 ^ n : Nat) : Int))) : roL n r = [] ∧ roE n r = 2 := ro_no (by unfold roB; rw [Bool.and_eq_false_iff]; right; exact inB_no (by rw [Int.toNat_natCast]; omega))
theorem roL_len (n r : Int) : (roL n r).length ≤ 1048576 := by
  unfold roL
  by_cases h : roB n r = true
  · rw [if_pos h, rwL_len]
    unfold roB at h
    rw [Bool.and_eq_true] at h
    have := inB_of h.1
    omega
  · rw [if_neg h]; simp

set_option maxHeartbeats 400000 in
theorem l01Size_two (n N : Nat) (w : World) (hn : n ≤ 16) (hN : Hid (N = 2 ^ n)) :
    Calls Try.prog 38 #[.int .i64 2, .int .i64 n] w fun e w' => e = .returned (.int .i64 N) ∧ w = w' := by
  go_enter Try.func38, Try.ntmps38
  go_wp2
  go_loop [1, 5] (fun m o => ∃ j x : Nat, j ≤ n ∧ m = .int .i64 ((n : Int) - j) ∧ o = .int .i64 x ∧ Hid (x = 2 ^ j)) (fun m _ => (intOf m).toNat)
  case atStart => exact ⟨0, 1, Nat.zero_le _, by simp, rfl, rfl⟩
  case round =>
    obtain ⟨j, x, hj, rfl, rfl, hx⟩ := hrel
    have hb : x ≤ 65536 := by rw [hx.out]; exact (pow2n16 (by omega)).2
    by_cases hlt : j < n
    · go_wp2
      go_round
      case rel => exact ⟨j + 1, x * 2, by omega, by go_num, by go_num, by unfold Hid; rw [hx.out, Nat.pow_succ]⟩
      case measure => simp [intOf]; omega
    · obtain rfl : j = n := by omega
      go_wp2
      go_ret
      exact ⟨ret_int (by rw [hx.out, hN.out]), rfl⟩

set_option maxHeartbeats 1000000 in
theorem l05Word_calls (n r : Nat) (w : World) (hn : n ≤ 16) (hr : r ≤ 65536) :
    Calls Try.prog 37 #[.int .i64 n, .int .i64 r] w fun e w' => ∃ A c, e = .returned (.slice A n c) ∧ Own w.heap.size w' A n c (rwL r n) ∧ Below w.heap.size w w' := by
  obtain ⟨i0, hi, hz0, hz1, hz2⟩ := info_parts Try.infoI
  go_enter Try.func37, Try.ntmps37
  go_wp2
  go_loopw [5, 6] (fun v i wr => ∃ k : Nat, k ≤ n ∧ i = .int .i64 k ∧ (∃ A c, v = .slice A k c ∧ OwnG 2 1 w.heap.size wr A k c ((rwL r k).map (Value.int .i64))) ∧ Below w.heap.size w wr) (fun _ i _ => n - (intOf i).toNat)
  case atStart =>
    have e2 := Box.new w 2 #[]
    exact ⟨0, Nat.zero_le _, rfl, ⟨_, _, rfl, OwnG.emptyAt e2 (Nat.le_refl _)⟩, (Below.refl _ _).alloc (Nat.le_refl _) _⟩
  case round =>
    obtain ⟨k, hk, rfl, ⟨A, c, rfl, hown⟩, hb⟩ := hrel
    have HB := Lib.hid hb
    have hsz := hb.size
    clear hb
    by_cases hlt : k < n
    · obtain ⟨X, hX⟩ : ∃ X : Nat, X = r / 2 ^ k := ⟨_, rfl⟩
      obtain ⟨Y, hY⟩ : ∃ Y : Nat, Y = r / 2 ^ (k + 1) := ⟨_, rfl⟩
      have hx : (r : Int) / 2 ^ k = (X : Int) := by rw [hX]; simp
      have hy : (r : Int) / 2 ^ (k + 1) = (Y : Int) := by rw [hY]; simp
      have hXb : X ≤ 65536 := by rw [hX]; exact Nat.le_trans (Nat.div_le_self _ _) hr
      have hYb : Y ≤ 65536 := by rw [hY]; exact Nat.le_trans (Nat.div_le_self _ _) hr
      have hst : Hid (rwL r (k + 1) = rwL r k ++ [((X : Int) + Y) % 2]) := by
        unfold Hid
        rw [rwL_succ, hX, hY]
        unfold rwB
        simp
      have hdl : Hid ((rwL r k).length = k) := rwL_len r k
      clear hX hY
      generalize rwL r k = D at *
      go_wp2_with (at_builtin; refine wpList_append_own _ rfl _ _ 22 rfl w.heap.size 2 i0 (.int .i64 0) 1 8 Try.underlying22 hi hz0 hz1 hz2 rfl (by decide) _ _ _ rfl (hown.alloc _) ⟨wr.heap.size, 0, none⟩ 1 1 [.int .i64 (((X : Int) + Y) % 2)] rfl rfl (cell_one_new _ _ _) (by simp [Value.oneCell']) (by unfold maxLen; omega) (by omega) (by simp; omega) ?_; intro v' w4 hown' hgrow _; obtain ⟨A4, c4, rfl⟩ := ownG_shape hown'; have HO4 := Lib.hid hown'; have HB4 := Lib.hid (HB.out.trans (OwnG.grown_below hown hgrow (Nat.le_refl _) hsz)); clear hown' hgrow)
      go_roundw
      case rel =>
        refine ⟨k + 1, by omega, by go_num, ⟨A4, c4, rfl, ?_⟩, HB4.out⟩
        rw [hst.out, List.map_append]
        exact HO4.out
      case measure => simp [intOf]; omega
    · obtain rfl : k = n := by omega
      go_wp2
      go_ret
      exact ⟨A, c, rfl, hown, HB.out⟩

theorem ret_nb {a b : Int} {x : Bool} (h : a = b) : Ending.returned (.tuple #[.int .i64 a, .bool x]) = .returned (.tuple #[.int .i64 b, .bool x]) := by rw [h]

theorem xor_mod2 (x y : Nat) : (x ^^^ y) % 2 = (x + y) % 2 := by
  have h := Nat.xor_mod_two_eq_one (a := x) (b := y)
  rcases Nat.mod_two_eq_zero_or_one x with hx | hx <;> rcases Nat.mod_two_eq_zero_or_one y with hy | hy <;> rcases Nat.mod_two_eq_zero_or_one (x ^^^ y) with hz | hz <;> simp [hx, hy, hz] at h <;> omega
theorem xorbit (q i : Nat) : (q ^^^ q / 2) / 2 ^ i % 2 = (q / 2 ^ i + q / 2 ^ (i + 1)) % 2 := by
  have h1 : q / 2 ^ (i + 1) = q / 2 / 2 ^ i := by rw [Nat.pow_succ, Nat.mul_comm, Nat.div_div_eq_div_mul]
  rw [h1, ← Nat.shiftRight_eq_div_pow, ← Nat.shiftRight_eq_div_pow, ← Nat.shiftRight_eq_div_pow, Nat.shiftRight_xor_distrib, xor_mod2]
theorem bits_xor (a b : Nat) (ha : a < 2 ^ 63) (hb : b < 2 ^ 63) : bits .xor .i64 (a : Int) (b : Int) = ((a ^^^ b : Nat) : Int) := by
  have hx : a ^^^ b < 2 ^ 63 := Nat.xor_lt_two_pow ha hb
  have ha' : a % 2 ^ 64 = a := Nat.mod_eq_of_lt (by omega)
  have hb' : b % 2 ^ 64 = b := Nat.mod_eq_of_lt (by omega)
  show IntKind.i64.wrap ((BitVec.ofInt 64 (a : Int) ^^^ BitVec.ofInt 64 (b : Int)).toNat : Int) = _
  rw [BitVec.toNat_xor, BitVec.ofInt_natCast, BitVec.ofInt_natCast, BitVec.toNat_ofNat, BitVec.toNat_ofNat, ha', hb', IntKind.wrap_i64]
  omega
theorem wraps_i63 (n : Int) (h₀ : 0 ≤ n) (h₁ : n < 2 ^ 63) : IntKind.i64.wrap n = n := by rw [IntKind.wrap_i64]; omega
/-- What the program reckons for a ring. -/
theorem ring_bits (q j : Nat) (hq : q ≤ 65536) : bits .and .i64 (bits .xor .i64 (q : Int) ((q : Int) / 2) / 2 ^ j) 1 = rwB q j := by
  have e1 : (q : Int) / 2 = ((q / 2 : Nat) : Int) := by simp
  rw [e1, bits_xor q (q / 2) (by omega) (by omega)]
  have e2 : (((q ^^^ q / 2 : Nat) : Int)) / 2 ^ j = (((q ^^^ q / 2) / 2 ^ j : Nat) : Int) := by simp
  have hb : (q ^^^ q / 2) / 2 ^ j < 2 ^ 63 := Nat.lt_of_le_of_lt (Nat.div_le_self _ _) (Nat.xor_lt_two_pow (by omega) (by omega))
  rw [e2]
  have e3 := bits_mask .i64 63 (by decide) wraps_i63 1 (by decide) (((q ^^^ q / 2) / 2 ^ j : Nat) : Int) (Int.natCast_nonneg _) (by omega)
  simp only [Int.pow_succ, Int.pow_zero, Int.one_mul] at e3
  rw [show (2 : Int) - 1 = 1 from rfl] at e3
  rw [e3]
  unfold rwB
  rw [← xorbit]
  omega

end Go.Proofs.Ytdgmlgdijdehjaa
