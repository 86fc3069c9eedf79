/- Contracts: a text is split at a byte; the number of a text. -/
import Derived.Test.YteokldpodaknpaaParse
import Derived.Test.YteokldpodaknpaaOwnG
namespace Go.Proofs.Yteokldpodaknpaa
open Go.RowKit
set_option linter.unusedVariables false

theorem Try.infoS : (Try.prog.info? 9).map (fun i => (i.zero, i.size, i.bytes)) = some (some (.string ⟨#[]⟩), 1, 16) := by kernel_rfl

/-- The byte at a place. -/
def btN (s : ByteArray) (i : Nat) : Nat := (s.data.toList.getD i 0).toNat
theorem btN_at (s : ByteArray) {i : Nat} (h : i < s.size) : btN s i = (s[i]'h).toNat := by
  have h' : i < s.data.toList.length := by simpa using h
  unfold btN
  rw [List.getD_eq_getElem?_getD, List.getElem?_eq_getElem h', Option.getD_some]
  rfl
theorem btN_lt (s : ByteArray) (i : Nat) : btN s i < 256 := UInt8.toNat_lt _
theorem btN_dgt (s : ByteArray) (i : Nat) : dgt s i = (btN s i : Int) - 48 := rfl

/-- The parts of the first i bytes, and where the next one begins. -/
def rngT (s : ByteArray) (b : Nat) : Nat → List (Nat × Nat) × Nat
  | 0 => ([], 0)
  | i + 1 => if btN s i = b then ((rngT s b i).1 ++ [((rngT s b i).2, i)], i + 1) else rngT s b i
def splT (s : ByteArray) (b : Nat) : List (Nat × Nat) := (rngT s b s.size).1 ++ [((rngT s b s.size).2, s.size)]
def prtV (s : ByteArray) (x : Nat × Nat) : Value := .string (s.extract x.1 x.2)
theorem rngT_yes {s : ByteArray} {b i : Nat} (h : btN s i = b) : rngT s b (i + 1) = ((rngT s b i).1 ++ [((rngT s b i).2, i)], i + 1) := by rw [rngT, if_pos h]
theorem rngT_no {s : ByteArray} {b i : Nat} (h : ¬ btN s i = b) : rngT s b (i + 1) = rngT s b i := by rw [rngT, if_neg h]
theorem rngT_bd (s : ByteArray) (b : Nat) : ∀ i, (rngT s b i).2 ≤ i ∧ (rngT s b i).1.length ≤ i
  | 0 => by simp [rngT]
  | i + 1 => by
    have ih := rngT_bd s b i
    unfold rngT
    split
    · simp; omega
    · omega
/-- No part, one, or more. -/
theorem rngT_cases (s : ByteArray) (b : Nat) : ∀ i,
    ((rngT s b i).1 = [] ∧ (rngT s b i).2 = 0 ∧ ∀ k, k < i → btN s k ≠ b) ∨
    (∃ p, p < i ∧ btN s p = b ∧ (rngT s b i).1 = [(0, p)] ∧ (rngT s b i).2 = p + 1 ∧ ∀ k, k < i → k ≠ p → btN s k ≠ b) ∨
    (2 ≤ (rngT s b i).1.length ∧ ∃ p q, p < q ∧ q < i ∧ btN s p = b ∧ btN s q = b)
  | 0 => .inl ⟨rfl, rfl, fun k hk => absurd hk (by omega)⟩
  | i + 1 => by
    by_cases h : btN s i = b
    · rw [rngT_yes h]
      rcases rngT_cases s b i with ⟨h1, h2, h3⟩ | ⟨p, hp, hb, h1, h2, h3⟩ | ⟨h1, p, q, hpq, hq, h2, h3⟩
      · refine .inr (.inl ⟨i, by omega, h, by rw [h1, h2]; rfl, rfl, fun k hk hne => h3 k (by omega)⟩)
      · exact .inr (.inr ⟨by rw [h1]; simp, p, i, hp, by omega, hb, h⟩)
      · exact .inr (.inr ⟨by simp; omega, p, q, hpq, by omega, h2, h3⟩)
    · rw [rngT_no h]
      rcases rngT_cases s b i with ⟨h1, h2, h3⟩ | ⟨p, hp, hb, h1, h2, h3⟩ | ⟨h1, p, q, hpq, hq, h2, h3⟩
      · exact .inl ⟨h1, h2, fun k hk => by by_cases e : k = i; (subst e; exact h); exact h3 k (by omega)⟩
      · exact .inr (.inl ⟨p, by omega, hb, h1, h2, fun k hk hne => by by_cases e : k = i; (subst e; exact h); exact h3 k (by omega) hne⟩)
      · exact .inr (.inr ⟨h1, p, q, hpq, by omega, h2, h3⟩)

set_option maxHeartbeats 4000000 in
theorem l01Split_calls (s : ByteArray) (b : Nat) (w : World) (hb : b < 256) (hs : s.size ≤ 1048576) :
    Calls Try.prog 40 #[.string s, .int .u8 b] w fun e w' => ∃ A c, e = .returned (.slice A (splT s b).length c) ∧ OwnG 9 1 w.heap.size w' A (splT s b).length c ((splT s b).map (prtV s)) ∧ Below w.heap.size w w' := by
  obtain ⟨i0, hi, hz0, hz1, hz2⟩ := info_parts Try.infoS
  go_enter Try.func40, Try.ntmps40
  go_wp2
  go_loopw [5, 6, 7] (fun o at_ i wr => ∃ k : Nat, k ≤ s.size ∧ i = .int .i64 k ∧ at_ = .int .i64 ((rngT s b k).2 : Nat) ∧ (∃ A c, o = .slice A (rngT s b k).1.length c ∧ OwnG 9 1 w.heap.size wr A (rngT s b k).1.length c ((rngT s b k).1.map (prtV s))) ∧ Below w.heap.size w wr) (fun _ _ i _ => s.size - (intOf i).toNat)
  case atStart => exact ⟨0, Nat.zero_le _, rfl, rfl, ⟨_, _, rfl, OwnG.emptyAt (Box.new w _ _) (Nat.le_refl _)⟩, (Below.refl _ _).alloc (Nat.le_refl _) _⟩
  case round =>
    obtain ⟨k, hk, rfl, rfl, ⟨A0, c0, rfl, hO⟩, hbl⟩ := hrel
    have HO := Lib.hid hO
    have HB := Lib.hid hbl
    have hsz := hbl.size
    have hbd := rngT_bd s b k
    have HSP := Lib.hid (show splT s b = (rngT s b s.size).1 ++ [((rngT s b s.size).2, s.size)] from rfl)
    clear hO hbl
    by_cases hlt : k < s.size
    · have hk1 : (k : Int) < (s.size : Int) := by omega
      have hk0 : (0 : Int) ≤ (k : Int) := by omega
      by_cases hq : btN s k = b
      · have HR := Lib.hid (rngT_yes hq)
        have hbe : (s[k]'hlt).toNat = b := by rw [← btN_at s hlt]; exact hq
        obtain ⟨a1, ha1⟩ : ∃ a1, (rngT s b k).2 = a1 := ⟨_, rfl⟩
        rw [ha1] at hbd HR
        have hsl := fun wx => run_slice_string (P := Try.prog) wx 9 s .i64 .i64 (a1 : Int) (k : Int) Try.underlying9 (by omega) (by omega) (by omega)
        simp only [Int.toNat_natCast] at hsl
        rw [ha1]
        clear hq
        generalize (rngT s b k).1 = R at *
        go_wp2_with (at_builtin; refine wpList_append_own _ rfl _ _ 62 rfl w.heap.size 9 i0 (.string ⟨#[]⟩) 1 16 Try.underlying62 hi hz0 hz1 hz2 rfl (by decide) _ _ _ rfl (HO.out.alloc _) ⟨wr.heap.size, 0, none⟩ 1 1 [prtV s (a1, k)] rfl rfl (cell_one_new _ _ _) (by simp [Value.oneCell', prtV]) (by unfold maxLen; omega) (by omega) (by simp; omega) ?_; intro v' w4 hown' hgrow _; obtain ⟨A4, c4, rfl⟩ := ownG_shape hown'; have HO4 := Lib.hid hown'; have HB4 := Lib.hid (HB.out.trans (HO.out.grown_below hgrow (Nat.le_refl _) hsz)); clear hown' hgrow)
        go_roundw
        case rel =>
          refine ⟨k + 1, by omega, by go_num, by rw [HR.out]; go_num, ⟨A4, c4, by rw [HR.out, List.length_append]; rfl, ?_⟩, HB4.out⟩
          rw [HR.out, List.length_append, List.map_append]
          exact HO4.out
        case measure => simp [intOf]; omega
      · have HR := Lib.hid (rngT_no hq)
        have hbe : ¬ ((s[k]'hlt).toNat : Int) = (b : Int) := by rw [← btN_at s hlt]; omega
        have hbq : (((s[k]'hlt).toNat : Int) == (b : Int)) = false := by simpa using hbe
        clear hq
        go_wp2
        go_roundw
        case rel => exact ⟨k + 1, by omega, by go_num, by rw [HR.out], ⟨A0, c0, by rw [HR.out], by rw [HR.out]; exact HO.out⟩, HB.out⟩
        case measure => simp [intOf]; omega
    · obtain rfl : k = s.size := by omega
      obtain ⟨a1, ha1⟩ : ∃ a1, (rngT s b s.size).2 = a1 := ⟨_, rfl⟩
      rw [ha1] at hbd HSP
      have HLEN := Lib.hid (show (splT s b).length = (rngT s b s.size).1.length + 1 by rw [HSP.out, List.length_append]; rfl)
      rw [ha1]
      generalize hR : (rngT s b s.size).1 = R at *
      have HRR := Lib.hid hR
      clear hR
      have hlo : (a1 : Int) ≤ (s.size : Int) := by omega
      go_wp2_with (at_builtin; refine wpList_append_own _ rfl _ _ 62 rfl w.heap.size 9 i0 (.string ⟨#[]⟩) 1 16 Try.underlying62 hi hz0 hz1 hz2 rfl (by decide) _ _ _ rfl (HO.out.alloc _) ⟨wr.heap.size, 0, none⟩ 1 1 [prtV s (a1, s.size)] rfl rfl (cell_one_new _ _ _) (by simp [Value.oneCell', prtV]) (by unfold maxLen; omega) (by omega) (by simp; omega) ?_; intro v' w4 hown' hgrow _; obtain ⟨A4, c4, rfl⟩ := ownG_shape hown'; have HO4 := Lib.hid hown'; have HB4 := Lib.hid (HB.out.trans (HO.out.grown_below hgrow (Nat.le_refl _) hsz)); clear hown' hgrow)
      go_ret
      refine ⟨A4, c4, by rw [HLEN.out]; rfl, ?_, HB4.out⟩
      rw [HLEN.out, HSP.out, List.map_append]
      exact HO4.out

/-- The number of the first i bytes, below nought if one is no digit. -/
def numTo (t : ByteArray) : Nat → Int
  | 0 => 0
  | i + 1 => if numTo t i < 0 then numTo t i else if 48 ≤ btN t i ∧ btN t i ≤ 57 then numTo t i * 10 + ((btN t i : Int) - 48) else -1
def numT (t : ByteArray) : Int := if t.size = 0 ∨ 9 < t.size ∨ (1 < t.size ∧ btN t 0 = 48) then -1 else numTo t t.size
theorem numTo_good {t : ByteArray} {i : Nat} (h0 : 0 ≤ numTo t i) (h : 48 ≤ btN t i ∧ btN t i ≤ 57) : numTo t (i + 1) = numTo t i * 10 + ((btN t i : Int) - 48) := by rw [numTo, if_neg (by omega), if_pos h]
theorem numTo_bad {t : ByteArray} {i : Nat} (h0 : 0 ≤ numTo t i) (h : ¬ (48 ≤ btN t i ∧ btN t i ≤ 57)) : numTo t (i + 1) = -1 := by rw [numTo, if_neg (by omega), if_neg h]
theorem numTo_stay {t : ByteArray} : ∀ m i, i ≤ m → numTo t i = -1 → numTo t m = -1
  | 0, i, h, h' => by obtain rfl : i = 0 := by omega
                      exact h'
  | m + 1, i, h, h' => by
    by_cases e : i = m + 1
    · subst e; exact h'
    · have := numTo_stay m i (by omega) h'
      rw [numTo, if_pos (by omega)]
      exact this
theorem numTo_bd (t : ByteArray) : ∀ i, -1 ≤ numTo t i ∧ numTo t i + 1 ≤ 10 ^ i
  | 0 => by simp [numTo]
  | i + 1 => by
    have ih := numTo_bd t i
    have hp : (10 : Int) ^ (i + 1) = 10 ^ i * 10 := Int.pow_succ _ _
    have hq : (0 : Int) < 10 ^ i := Int.pow_pos (by omega)
    unfold numTo
    split
    · omega
    · split <;> omega
theorem numTo_1 (t : ByteArray) : (48 ≤ btN t 0 ∧ btN t 0 ≤ 57 → numTo t 1 = (btN t 0 : Int) - 48) ∧ (¬ (48 ≤ btN t 0 ∧ btN t 0 ≤ 57) → numTo t 1 = -1) := by
  have h0 : numTo t 0 = 0 := rfl
  refine ⟨fun h => ?_, fun h => numTo_bad (by omega) h⟩
  rw [numTo_good (by omega) h, h0]
  omega
/-- A number of two digits or more that does not begin with a nought is 10 or more. -/
theorem numTo_ten {t : ByteArray} (h : ¬ btN t 0 = 48) : ∀ i, 2 ≤ i → numTo t i = -1 ∨ 10 ≤ numTo t i
  | 0, h2 => absurd h2 (by omega)
  | 1, h2 => absurd h2 (by omega)
  | i + 2, _ => by
    have h1 : numTo t (i + 1) = -1 ∨ 1 ≤ numTo t (i + 1) := by
      cases i with
      | zero =>
        show numTo t 1 = -1 ∨ 1 ≤ numTo t 1
        obtain ⟨a, b⟩ := numTo_1 t
        by_cases hd : 48 ≤ btN t 0 ∧ btN t 0 ≤ 57
        · have := a hd; omega
        · exact .inl (b hd)
      | succ j =>
        rcases numTo_ten h (j + 2) (by omega) with h | h
        · exact .inl h
        · right; show 1 ≤ numTo t (j + 2); omega
    rcases h1 with h1 | h1
    · left; exact numTo_stay _ (i + 1) (by omega) h1
    · rw [numTo, if_neg (by omega)]
      split
      · right; omega
      · left; rfl
theorem numT_one {t : ByteArray} (h : t.size = 1) : numT t = numTo t 1 := by unfold numT; rw [if_neg (by omega), h]
theorem numT_small {t : ByteArray} (h : 0 ≤ numT t ∧ numT t ≤ 9) : t.size = 1 ∧ dgt t 0 = numT t := by
  by_cases hc : t.size = 0 ∨ 9 < t.size ∨ (1 < t.size ∧ btN t 0 = 48)
  · unfold numT at h; rw [if_pos hc] at h; omega
  · have e : numT t = numTo t t.size := by unfold numT; rw [if_neg hc]
    by_cases h1 : t.size = 1
    · refine ⟨h1, ?_⟩
      rw [numT_one h1] at h ⊢
      rw [btN_dgt]
      obtain ⟨a, b⟩ := numTo_1 t
      by_cases hd : 48 ≤ btN t 0 ∧ btN t 0 ≤ 57
      · exact (a hd).symm
      · have := b hd; omega
    · rcases numTo_ten (t := t) (by omega) t.size (by omega) with h2 | h2 <;> omega
theorem numT_digit {t : ByteArray} (h1 : t.size = 1) (h : 0 ≤ dgt t 0 ∧ dgt t 0 ≤ 9) : numT t = dgt t 0 := by
  rw [btN_dgt] at h
  rw [numT_one h1, btN_dgt]
  exact (numTo_1 t).1 (by omega)

theorem pow10_le {j : Nat} (h : j ≤ 8) : (10 : Int) ^ j ≤ 100000000 := by
  have : j = 0 ∨ j = 1 ∨ j = 2 ∨ j = 3 ∨ j = 4 ∨ j = 5 ∨ j = 6 ∨ j = 7 ∨ j = 8 := by omega
  rcases this with rfl | rfl | rfl | rfl | rfl | rfl | rfl | rfl | rfl <;> decide

set_option maxHeartbeats 4000000 in
theorem l01Number_calls (t : ByteArray) (w : World) (hs : t.size ≤ 1048576) :
    Calls Try.prog 41 #[.string t] w fun e w' => e = .returned (.int .i64 (numT t)) ∧ w = w' := by
  by_cases h0 : t.size = 0
  · have H := Lib.hid (show numT t = -1 by unfold numT; rw [if_pos (Or.inl h0)])
    have h0' : (t.size : Int) = 0 := by omega
    go_enter Try.func41, Try.ntmps41
    go_wp2
    go_ret
    exact ⟨ret_int H.out.symm, rfl⟩
  by_cases h9 : 9 < t.size
  · have H := Lib.hid (show numT t = -1 by unfold numT; rw [if_pos (Or.inr (Or.inl h9))])
    have h0' : ((t.size : Int) == 0) = false := by rw [beq_eq_false_iff_ne]; omega
    have h9' : decide (9 < (t.size : Int)) = true := decide_eq_true (by omega)
    go_enter Try.func41, Try.ntmps41
    go_wp2
    go_ret
    exact ⟨ret_int H.out.symm, rfl⟩
  obtain ⟨b0, hb0⟩ : ∃ b : Nat, (t[0]'(show 0 < t.size by omega)).toNat = b := ⟨_, rfl⟩
  have hbt0 : btN t 0 = b0 := by rw [btN_at t (show 0 < t.size by omega), hb0]
  have h0' : ((t.size : Int) == 0) = false := by rw [beq_eq_false_iff_ne]; omega
  have h9' : decide (9 < (t.size : Int)) = false := decide_eq_false (by omega)
  by_cases hz : 1 < t.size ∧ btN t 0 = 48
  · have H := Lib.hid (show numT t = -1 by unfold numT; rw [if_pos (Or.inr (Or.inr hz))])
    have h1' : decide (1 < (t.size : Int)) = true := decide_eq_true (by omega)
    have hb48 : b0 = 48 := by omega
    subst hb48
    have h00 : (0 : Int) < (t.size : Int) := by omega
    clear hz hbt0
    go_enter Try.func41, Try.ntmps41
    go_wp2
    go_ret
    exact ⟨ret_int H.out.symm, rfl⟩
  · have H := Lib.hid (show numT t = numTo t t.size by unfold numT; rw [if_neg (by omega)])
    have h00 : (0 : Int) < (t.size : Int) := by omega
    have HZ := Lib.hid hz
    have HS : Hid (t.size ≤ 9) := by unfold Hid; omega
    by_cases h1 : 1 < t.size
    · have h1' : decide (1 < (t.size : Int)) = true := decide_eq_true (by omega)
      have hb48 : ((b0 : Int) == 48) = false := by simp; omega
      clear hz hbt0
      go_enter Try.func41, Try.ntmps41
      go_wp2
      clear hb0
      go_loop [3, 4] (fun v i => ∃ j : Nat, j ≤ t.size ∧ i = .int .i64 j ∧ v = .int .i64 (numTo t j) ∧ 0 ≤ numTo t j) (fun _ i => t.size - (intOf i).toNat)
      case atStart => exact ⟨0, Nat.zero_le _, rfl, rfl, Int.le_refl _⟩
      case round =>
        obtain ⟨j, hj, rfl, rfl, hge⟩ := hrel
        by_cases hlt : j < t.size
        · obtain ⟨b, hb⟩ : ∃ b : Nat, (t[j]'hlt).toNat = b := ⟨_, rfl⟩
          have hbj : btN t j = b := by rw [btN_at t hlt, hb]
          have hb256 : b < 256 := by rw [← hbj]; exact btN_lt t j
          have hj0 : (0 : Int) ≤ (j : Int) := by omega
          have hj1 : (j : Int) < (t.size : Int) := by omega
          have hbd := numTo_bd t j
          have hpow := pow10_le (j := j) (by have := HS.out; omega)
          by_cases hlo : b < 48
          · have HN := Lib.hid (H.out.trans (numTo_stay t.size (j + 1) (by omega) (numTo_bad hge (by omega))))
            have hd1 : decide ((b : Int) < 48) = true := decide_eq_true (by omega)
            go_wp2
            go_ret
            exact ⟨ret_int HN.out.symm, rfl⟩
          · by_cases hhi : 57 < b
            · have HN := Lib.hid (H.out.trans (numTo_stay t.size (j + 1) (by omega) (numTo_bad hge (by omega))))
              have hd1 : decide ((b : Int) < 48) = false := decide_eq_false (by omega)
              have hd2 : decide (57 < (b : Int)) = true := decide_eq_true (by omega)
              go_wp2
              go_ret
              exact ⟨ret_int HN.out.symm, rfl⟩
            · have HG := Lib.hid (numTo_good hge (by omega))
              rw [hbj] at HG
              have hd1 : decide ((b : Int) < 48) = false := decide_eq_false (by omega)
              have hd2 : decide (57 < (b : Int)) = false := decide_eq_false (by omega)
              have hle : numTo t j ≤ 100000000 := by omega
              clear hpow hbd
              generalize numTo t j = v at *
              go_wp2
              go_round
              case rel => exact ⟨j + 1, by omega, by go_num, by rw [HG.out], by rw [HG.out]; omega⟩
              case measure => simp [intOf]; omega
        · obtain rfl : j = t.size := by omega
          go_wp2
          go_ret
          exact ⟨ret_int H.out.symm, rfl⟩
    · have h1' : decide (1 < (t.size : Int)) = false := decide_eq_false (by omega)
      go_enter Try.func41, Try.ntmps41
      go_wp2
      clear hb0
      go_loop [3, 4] (fun v i => ∃ j : Nat, j ≤ t.size ∧ i = .int .i64 j ∧ v = .int .i64 (numTo t j) ∧ 0 ≤ numTo t j) (fun _ i => t.size - (intOf i).toNat)
      case atStart => exact ⟨0, Nat.zero_le _, rfl, rfl, Int.le_refl _⟩
      case round =>
        obtain ⟨j, hj, rfl, rfl, hge⟩ := hrel
        by_cases hlt : j < t.size
        · obtain ⟨b, hb⟩ : ∃ b : Nat, (t[j]'hlt).toNat = b := ⟨_, rfl⟩
          have hbj : btN t j = b := by rw [btN_at t hlt, hb]
          have hb256 : b < 256 := by rw [← hbj]; exact btN_lt t j
          have hj0 : (0 : Int) ≤ (j : Int) := by omega
          have hj1 : (j : Int) < (t.size : Int) := by omega
          have hbd := numTo_bd t j
          have hpow := pow10_le (j := j) (by have := HS.out; omega)
          by_cases hlo : b < 48
          · have HN := Lib.hid (H.out.trans (numTo_stay t.size (j + 1) (by omega) (numTo_bad hge (by omega))))
            have hd1 : decide ((b : Int) < 48) = true := decide_eq_true (by omega)
            go_wp2
            go_ret
            exact ⟨ret_int HN.out.symm, rfl⟩
          · by_cases hhi : 57 < b
            · have HN := Lib.hid (H.out.trans (numTo_stay t.size (j + 1) (by omega) (numTo_bad hge (by omega))))
              have hd1 : decide ((b : Int) < 48) = false := decide_eq_false (by omega)
              have hd2 : decide (57 < (b : Int)) = true := decide_eq_true (by omega)
              go_wp2
              go_ret
              exact ⟨ret_int HN.out.symm, rfl⟩
            · have HG := Lib.hid (numTo_good hge (by omega))
              rw [hbj] at HG
              have hd1 : decide ((b : Int) < 48) = false := decide_eq_false (by omega)
              have hd2 : decide (57 < (b : Int)) = false := decide_eq_false (by omega)
              have hle : numTo t j ≤ 100000000 := by omega
              clear hpow hbd
              generalize numTo t j = v at *
              go_wp2
              go_round
              case rel => exact ⟨j + 1, by omega, by go_num, by rw [HG.out], by rw [HG.out]; omega⟩
              case measure => simp [intOf]; omega
        · obtain rfl : j = t.size := by omega
          go_wp2
          go_ret
          exact ⟨ret_int H.out.symm, rfl⟩


end Go.Proofs.Yteokldpodaknpaa
