/- Contracts: the functions of chapter 8, by the program. -/
import Derived.Test.YtfllbdpdfgkkaaaPnB
import Derived.Deep.RegionLaw
import Derived.Deep.AppendLies
namespace Go.Proofs.Ytfllbdpdfgkkaaa
open Go.RowKit
set_option linter.unusedVariables false

theorem size_bd {q m N M : Nat} (hN : N = (q + 1) * (m + 1)) (hM : M = q * (m + 1)) (hq : q < 8) (hm : m ≤ 60) : N = M + (m + 1) ∧ N ≤ 488 := by
  have h1 : N = M + (m + 1) := by rw [hN, hM, Nat.succ_mul]
  refine ⟨h1, ?_⟩
  rw [hN]
  exact Nat.le_trans (Nat.mul_le_mul (show q + 1 ≤ 8 by omega) (show m + 1 ≤ 61 by omega)) (by decide)
theorem full_cell {w : World} {g e N n q M j : Nat} (h : w.rowIs g e N (upP n N)) (hN : N = (q + 1) * (n + 1)) (hM : M = q * (n + 1)) (hj : j ≤ n) : w.cell? { block := g, off := M + j } = some (.int .i64 (pnF q j)) := by
  have h1 : N = M + (n + 1) := by rw [hN, hM, Nat.succ_mul]
  refine (h.cell (i := M + j) (by omega)).trans ?_
  rw [hM, upP_at hj (by omega)]
theorem full_rows {w : World} {g e N n q r nn M0 M1 : Nat} (h : w.rowIs g e N (upP n N)) (hN : N = (q + 1) * (n + 1)) (hr : r + 1 ≤ q) (hM0 : M0 = r * (n + 1)) (hM1 : M1 = (r + 1) * (n + 1)) (hnn : nn ≤ n + 1) : Rows w g r nn M0 M1 := by
  have h1 : M1 = M0 + (n + 1) := by rw [hM0, hM1, Nat.succ_mul]
  have h2 : M1 + (n + 1) ≤ N := by
    rw [hM1, hN, ← Nat.succ_mul]
    exact Nat.mul_le_mul_right _ (by omega)
  refine ⟨h.lt, fun j hj => ⟨?_, ?_⟩⟩
  · refine (h.cell (i := M1 + j) (by omega)).trans ?_
    rw [hM1, upP_at (by omega) (by omega)]
  · refine (h.cell (i := M0 + j) (by omega)).trans ?_
    rw [hM0, upP_at (by omega) (by omega)]

set_option maxHeartbeats 1000000 in
theorem implPresumedNumber_calls (p n : Int) (w : World) :
    Calls Try.prog 9 #[.int .i64 p, .int .i64 n] w fun e w' => e = .returned (.tuple #[.int .i64 (pnV p n), .int .i64 (prC 10 p 60 n)]) ∧ Below w.heap.size w w' := by
  obtain ⟨i0, hi, hz0, hz1, hz2⟩ := info_parts Try.infoI
  by_cases hB : prB 10 p 60 n = true
  · obtain ⟨q, m, rfl, rfl, hq, hm⟩ := len_le hB
    have HC := Lib.hid (prC_yes hB)
    have HV := Lib.hid (pnV_yes hB)
    clear hB
    obtain ⟨N, hN⟩ : ∃ N, Hid (N = (q + 1) * (m + 1)) := ⟨_, rfl⟩
    obtain ⟨M, hM⟩ : ∃ M, Hid (M = q * (m + 1)) := ⟨_, rfl⟩
    obtain ⟨hMN', hNb⟩ := size_bd hN.out hM.out hq hm
    have hMN := Lib.hid hMN'
    clear hMN'
    go_enter Try.func9, Try.ntmps9
    go_wp2_with fail
    refine (codeOfPresumed_calls _ _ _ _ _).mono ?_
    rw [HC.out]
    rintro e w' ⟨rfl, rfl⟩
    go_wp2_with fail
    refine (presumedTo_calls q m N _ hN hq hm).mono ?_
    rintro e w1 ⟨g, rfl, hg, hrow, hb⟩
    have HR := Lib.hid hrow
    have HB := Lib.hid hb
    have hs1 := hb.size
    clear hrow hb
    go_wp2_with fail
    refine (row_calls g N m q M _ hM (by have := hMN.out; omega) (by omega) hq hm).mono ?_
    rintro e w2 ⟨rfl, hb2⟩
    have HR2 := Lib.hid (HR.out.of_block (hb2.block _ HR.out.lt))
    have HB2 := Lib.hid (HB.out.trans (hb2.mono hs1))
    have hs2 := HB2.out.size
    clear hb2
    have hc := full_cell HR2.out hN.out hM.out (Nat.le_refl m)
    go_wp2
    go_ret2
    exact ⟨ret_two' HV.out.symm HC.out.symm, HB2.out⟩
  · have hB' : prB 10 p 60 n = false := by simpa using hB
    have HC := Lib.hid (prC_no hB')
    have HV := Lib.hid (pnV_no hB')
    clear hB hB'
    go_enter Try.func9, Try.ntmps9
    go_wp2_with fail
    refine (codeOfPresumed_calls _ _ _ _ _).mono ?_
    rw [HC.out]
    rintro e w' ⟨rfl, rfl⟩
    go_wp2
    go_ret2
    exact ⟨ret_two' HV.out.symm HC.out.symm, Below.refl _ _⟩

theorem splits_at (p : Int) (g N n q M0 M1 nn : Nat) (w : World) (hp : p = (q : Int) + 4) (hM0 : Hid (M0 = q * (n + 1))) (hM1 : Hid (M1 = (q + 1) * (n + 1))) (hN : M1 + (n + 1) ≤ N) (hNb : N ≤ 1000) (hq : q < 7) (hn : n ≤ 60) (h2 : 2 ≤ nn) (hnn : nn ≤ n) (hR : Rows w g q nn M0 M1) :
    Calls Try.prog 40 #[.agg #[.slice (some ⟨g, 0, none⟩) N N, .int .i64 n], .int .i64 p, .int .i64 nn] w fun e w' => ∃ A c, e = .returned (.slice A (spF q nn).length c) ∧ Own w.heap.size w' A (spF q nn).length c (spF q nn) ∧ Below w.heap.size w w' := by
  subst hp
  exact splits_calls g N n q M0 M1 nn w hM0 hM1 hN hNb hq hn h2 hnn hR
theorem presumedTo_at (p : Int) (q n N : Nat) (w : World) (hp : p = (q : Int) + 3) (hN : Hid (N = (q + 1) * (n + 1))) (hq : q < 8) (hn : n ≤ 60) :
    Calls Try.prog 17 #[.int .i64 p, .int .i64 n] w fun e w' => ∃ g, e = .returned (.agg #[.slice (some ⟨g, 0, none⟩) N N, .int .i64 n]) ∧ w.heap.size ≤ g ∧ w'.rowIs g 2 N (upP n N) ∧ Below w.heap.size w w' := by
  subst hp
  exact presumedTo_calls q n N w hN hq hn

theorem gr_down {f : Nat → Int} {m : Int} {j : Nat} (h : f j ≤ m) : grF f m j = j := by
  cases j with
  | zero => rfl
  | succ k => rw [grF, if_pos h]

end Go.Proofs.Ytfllbdpdfgkkaaa
