/- Contracts: a list of ones, by slices.Repeat. -/
import Derived.Test.YtbfajhjlnllamaaDone
import Derived.StillTailTactics
namespace Go.Proofs.Ytbfajhjlnllamaa
open Go.RowKit
set_option linter.unusedVariables false

theorem and_mask32 (m : Nat) (hm : m ≤ 16) : bits .and .u64 (m : Int) 4294967295 = m := by
  have e3 := bits_mask .u64 64 (by decide) (fun n h0 h1 => by rw [show IntKind.u64.wrap n = n % 18446744073709551616 by simp [IntKind.wrap, IntKind.bits, IntKind.signed]]; omega) 32 (by decide) (m : Int) (Int.natCast_nonneg _) (by omega)
  have : (2 : Int) ^ 32 - 1 = 4294967295 := by decide
  rw [this] at e3
  rw [e3]
  omega
theorem mul64_one (m : Nat) (w : World) (hm : m ≤ 16) :
    Calls Try.prog 36 #[.int .u64 1, .int .u64 m] w fun e w' => e = .returned (.tuple #[.int .u64 0, .int .u64 m]) ∧ w = w' := by
  have h1 := and_mask32 m hm
  have h2 : bits .and .u64 1 4294967295 = 1 := by decide
  have h3 : bits .and .u64 0 4294967295 = 0 := by decide
  have h4 : (m : Int) / 4294967296 = 0 := by omega
  go_enter Try.func36, Try.ntmps36
  go_wp2
  go_ret2
  exact ⟨rfl, rfl⟩

theorem mul_one' (m : Nat) (w : World) (hm : m ≤ 16) :
    Calls Try.prog 33 #[.int .u64 1, .int .u64 m] w fun e w' => e = .returned (.tuple #[.int .u64 0, .int .u64 m]) ∧ w = w' := by
  go_enter Try.func33, Try.ntmps33
  go_wp2_with (go_at_call 36; refine (mul64_one m _ hm).mono ?_; rintro e w' ⟨rfl, rfl⟩)
  go_ret2
  exact ⟨rfl, rfl⟩

/-- Ones, and noughts behind them. -/
def onesL (n m : Nat) : List Value := List.replicate n (.int .i64 1) ++ List.replicate (m - n) (.int .i64 0)
theorem onesL_len {n m : Nat} (h : n ≤ m) : (onesL n m).length = m := by simp [onesL]; omega
theorem onesL_splice {n m c : Nat} (h : n + c ≤ m) : splice (onesL n m) n (List.replicate c (.int .i64 1)) = onesL (n + c) m := by
  unfold splice onesL
  rw [List.take_append_of_le_length (by simp), List.take_of_length_le (by simp), List.length_replicate, List.drop_append, List.drop_of_length_le (by simp)]
  simp
  rw [← List.append_assoc, List.replicate_append_replicate, Nat.sub_sub]

theorem onesL_cell {w : World} {R n m d j t : Nat} {v : Value} (hg : w.heap[R]? = some (.cells (onesL n m).toArray t (0, 0))) (hv : (List.replicate d (Value.int .i64 1))[j]? = some v) (hd : d ≤ n) : w.cell? ((⟨R, 0, none⟩ : Addr).add j) = some v := by
  have hj : j < d := by have h1 := (List.getElem?_eq_some_iff.1 hv).1; simpa using h1
  have hv1 : v = .int .i64 1 := List.eq_of_mem_replicate (List.mem_of_getElem? hv)
  have e : (⟨R, 0, none⟩ : Addr).add j = ⟨R, j, none⟩ := by
    unfold Addr.add
    split
    · next h0 => rw [h0]
    · simp
  rw [e, hv1]
  have hb : Box w R t (onesL n m).toArray := hg
  rw [hb.cell j]
  unfold onesL
  rw [List.getElem?_toArray, List.getElem?_append_left (by rw [List.length_replicate]; omega), List.getElem?_replicate, if_pos (by omega)]

set_option maxHeartbeats 1000000 in
theorem repeat_calls (x m c : Nat) (w : World) (hm : m ≤ 16) (hx : w.cell? ⟨x, 0, none⟩ = some (.int .i64 1)) (hxs : x < w.heap.size) :
    Calls Try.prog 31 #[.slice (some ⟨x, 0, none⟩) 1 c, .int .i64 m] w fun e w' => ∃ A c', e = .returned (.slice A m c') ∧ Own w.heap.size w' A m c' (List.replicate m 1) ∧ Below w.heap.size w w' := by
  have hmk := run_make_row' (P := Try.prog) 22 2 (.int .i64 0) 8 Try.underlying22 Try.infoI rfl .i64 .i64 m (by omega) (by omega)
  obtain ⟨Z, HZ⟩ : ∃ Z : List Value, Hid (Z = onesL 0 m) := ⟨_, rfl⟩
  have hmc : madeCells #[Value.int .i64 0] m = Z.toArray := by
    apply Array.ext'
    rw [toList_madeCells_one, HZ.out]
    simp [onesL]
  rw [hmc] at hmk
  have HG : Hid ((w.alloc (.cells Z.toArray 2)).heap[w.heap.size]? = some (.cells Z.toArray 2 (0, 0))) := Box.new _ _ _
  have HB := Lib.hid ((Below.refl w.heap.size w).alloc (Nat.le_refl _) (.cells Z.toArray 2))
  have hzl : Hid (Z.length = m) := by unfold Hid; rw [HZ.out]; exact onesL_len (Nat.zero_le _)
  obtain ⟨X, HX⟩ : ∃ X : List Value, Hid (X = List.replicate (min 1 m) (Value.int .i64 1)) := ⟨_, rfl⟩
  have HXL : Hid (X.length = min 1 m) := by unfold Hid; rw [HX.out]; simp
  have HS : Hid (X.length = Nat.min 1 m) := HXL
  have H1 : Hid (∀ v ∈ X, v.oneCell' = true) := by
    unfold Hid; rw [HX.out]; intro v hv; rw [List.eq_of_mem_replicate hv]; rfl
  have HPOS : Hid (0 < X.length → ∃ ad, (some (⟨x, 0, none⟩ : Addr)) = some ad ∧ ∀ j v, X[j]? = some v → (w.alloc (.cells Z.toArray 2)).cell? (ad.add j) = some v) := by
    intro _
    refine ⟨_, rfl, fun j v hv => ?_⟩
    have hj : j = 0 := by
      have h1 := (List.getElem?_eq_some_iff.1 hv).1
      rw [HXL.out] at h1
      omega
    subst hj
    rw [HX.out] at hv
    have hv1 : v = .int .i64 1 := List.eq_of_mem_replicate (List.mem_of_getElem? hv)
    subst hv1
    exact (HB.out.cell (p := ⟨x, 0, none⟩) hxs).trans hx
  have HF : Hid (0 + X.length ≤ Z.length) := by unfold Hid; rw [hzl.out, HXL.out]; omega
  have HSP : Hid (splice Z 0 X = onesL (min 1 m) m) := by
    unfold Hid
    rw [HX.out, HZ.out, onesL_splice (by omega), Nat.zero_add]
  obtain ⟨n0, hn0⟩ : ∃ n0 : Nat, min 1 m = n0 := ⟨_, rfl⟩
  have hn1 : n0 ≤ m := by omega
  have hn2 : n0 = 0 → m = 0 := by omega
  rw [hn0] at HX HXL HSP
  have HXG : Hid ((goInt X.length) = .int .i64 n0) := by unfold Hid; rw [HXL.out]; rfl
  clear hn0
  clear hmc hx
  go_enter Try.func31, Try.ntmps31
  go_wp2_with (first | (go_at_call 33; refine (mul_one' m _ hm).mono ?_; rintro e w' ⟨rfl, rfl⟩) | (with_reducible refine wpList_copy_splice (o := ⟨some 33, _, _, _, _, _⟩) rfl (.tmp 31) (.tmp 32) 22 22 rfl 2 Try.underlying22 Try.sizeI (some ⟨w.heap.size, 0, none⟩) (some ⟨x, 0, none⟩) m m 1 c rfl rfl w.heap.size 0 Z 2 HG.out X HS.out (fun hp => ⟨rfl, HPOS.out hp⟩) HF.out H1.out w.heap.size _ HB.out (Nat.le_refl _) ?_; intro w1 hg1 hb1; have HB1 := Lib.hid hb1; clear hb1))
  go_loopw [8] (fun v wr => ∃ n : Nat, n ≤ m ∧ (n = 0 → m = 0) ∧ v = .int .i64 n ∧ Hid (wr.heap[w.heap.size]? = some (.cells (onesL n m).toArray 2 (0, 0))) ∧ Below w.heap.size w wr) (fun v _ => m - (intOf v).toNat)
  case atStart => exact ⟨n0, hn1, hn2, HXG.out, by rw [HSP.out] at hg1; exact hg1, HB1.out⟩
  case round =>
    obtain ⟨n, hn, hn0, rfl, hg, hb⟩ := hrel
    have HBr := Lib.hid hb
    clear hb
    by_cases hlt : n < m
    · obtain ⟨d, hd⟩ : ∃ d : Nat, min n (m - n) = d := ⟨_, rfl⟩
      have hd1 : d ≤ n := by omega
      have hd2 : n + d ≤ m := by omega
      have hd3 : 0 < d := by omega
      have HD : Hid ((List.replicate d (Value.int .i64 1)).length = Nat.min n (m - n)) := by unfold Hid; rw [List.length_replicate]; exact hd.symm
      have HP : Hid (∀ j v, (List.replicate d (Value.int .i64 1))[j]? = some v → wr.drew.cell? ((⟨w.heap.size, 0, none⟩ : Addr).add j) = some v) := fun j v hv => onesL_cell (w := wr.drew) hg.out hv hd1
      have HF2 : Hid (n + (List.replicate d (Value.int .i64 1)).length ≤ (onesL n m).length) := by unfold Hid; rw [List.length_replicate, onesL_len hn]; exact hd2
      have HS2 := Lib.hid (onesL_splice (n := n) (m := m) (c := d) hd2)
      have HL2 : Hid (goInt (List.replicate d (Value.int .i64 1)).length = .int .i64 d) := by unfold Hid; rw [List.length_replicate]; rfl
      have HO2 : Hid (∀ v ∈ List.replicate d (Value.int .i64 1), v.oneCell' = true) := by intro v hv; rw [List.eq_of_mem_replicate hv]; rfl
      have hi0 : (0 : Int) ≤ (n : Int) := by omega
      have hi1 : (n : Int) ≤ (m : Int) := by omega
      have hmn : ¬ m = n := by omega
      have HW : Hid (Value.int .i64 (IntKind.i64.wrap ((n : Int) + ((List.replicate d (Value.int .i64 1)).length : Int))) = .int .i64 ((n + d : Nat) : Int)) := by
        unfold Hid
        rw [List.length_replicate, IntWalk.i64_in _ (by omega)]
        simp
      clear hd hn0
      generalize List.replicate d (Value.int .i64 1) = D at *
      have HBd : Hid (Below w.heap.size w wr.drew) := HBr.out.drew
      go_wp2_with fail
      have tt : True := trivial
      go_region_held3 (fun w' => True) (exact trivial)
        ((refine step_copy_splice (o := ⟨some 45, _, _, _, _, _⟩) rfl (.tmp 41) (.tmp 44) 22 22 rfl 2 Try.underlying22 Try.sizeI (some ⟨w.heap.size, n, none⟩) (some ⟨w.heap.size, 0, none⟩) (m - n) (m - n) n m (by first | rfl | (show Value.slice (if m = n then _ else _) _ _ = _; rw [if_neg hmn])) (by rfl) w.heap.size n (onesL n m) 2 hg.out D HD.out (fun hp => ⟨rfl, _, rfl, HP.out⟩) HF2.out HO2.out w.heap.size _ HBd.out (Nat.le_refl _) ?_; intro w2 hg2 hb2; have HB2 := Lib.hid hb2; clear hb2))
      go_wp2
      go_roundw
      case rel => exact ⟨n + d, hd2, by omega, HW.out, by rw [HS2.out] at hg2; exact hg2, HB2.out⟩
      case measure => rw [HW.out]; simp [intOf]; omega
    · obtain rfl : n = m := by omega
      go_wp2
      go_ret
      have hgo : Box wr w.heap.size 2 ((List.replicate n (1 : Int)).map (Value.int .i64)).toArray := by
        have := hg.out
        unfold onesL at this
        unfold Box
        simpa using this
      exact ⟨_, _, rfl, ⟨by simp, .inr ⟨_, n, _, rfl, Nat.le_refl _, hgo, Nat.le_refl _, by unfold maxLen; omega, by simp, by rw [List.take_of_length_le (by simp)]⟩⟩, HBr.out⟩

end Go.Proofs.Ytbfajhjlnllamaa
