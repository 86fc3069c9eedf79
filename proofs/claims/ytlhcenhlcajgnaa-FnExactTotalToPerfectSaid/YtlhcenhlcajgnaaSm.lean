/- Contracts: sums of distances, by the program. -/
import Derived.Test.YtlhcenhlcajgnaaState1
import Derived.Test.YtlhcenhlcajgnaaBase
namespace Go.Proofs.Ytlhcenhlcajgnaa
open Go.RowKit
open Go.RowKit (wrap64)
set_option linter.unusedVariables false

/-- The sums of the first k levels: states, distances, squares. -/
def sm0 (L : List Int) : Nat → Int
  | 0 => 0
  | k + 1 => sm0 L k + L[k]?.getD 0
def sm1 (L : List Int) : Nat → Int
  | 0 => 0
  | k + 1 => sm1 L k + L[k]?.getD 0 * k
def sm2 (L : List Int) : Nat → Int
  | 0 => 0
  | k + 1 => sm2 L k + L[k]?.getD 0 * k * k
def lvOk (L : List Int) : Prop := ∀ j : Nat, 0 ≤ L[j]?.getD 0 ∧ L[j]?.getD 0 ≤ 6561
theorem lv_prod {x : Int} {k : Nat} (hx : 0 ≤ x ∧ x ≤ 6561) (hk : k ≤ 6561) : (0 ≤ x * k ∧ x * k ≤ 43046721) ∧ (0 ≤ x * k * k ∧ x * k * k ≤ 282429536481) := by
  have h1 : 0 ≤ x * k := Int.mul_nonneg hx.1 (by omega)
  have h2 : x * k ≤ 43046721 := Int.le_trans (Int.mul_le_mul hx.2 (show (k : Int) ≤ 6561 by omega) (by omega) (by omega)) (by decide)
  have h3 : 0 ≤ x * k * k := Int.mul_nonneg h1 (by omega)
  have h4 : x * k * k ≤ 282429536481 := Int.le_trans (Int.mul_le_mul h2 (show (k : Int) ≤ 6561 by omega) (by omega) (by omega)) (by decide)
  exact ⟨⟨h1, h2⟩, ⟨h3, h4⟩⟩
theorem sm_bd {L : List Int} (h : lvOk L) : ∀ k : Nat, k ≤ 6562 → (0 ≤ sm0 L k ∧ sm0 L k ≤ 6561 * k) ∧ (0 ≤ sm1 L k ∧ sm1 L k ≤ 43046721 * k) ∧ (0 ≤ sm2 L k ∧ sm2 L k ≤ 282429536481 * k)
  | 0, _ => by simp [sm0, sm1, sm2]
  | k + 1, hk => by
    have ih := sm_bd h k (by omega)
    have h1 := h k
    obtain ⟨h2, h3⟩ := lv_prod (k := k) h1 (by omega)
    unfold sm0 sm1 sm2
    generalize L[k]?.getD 0 * k * k = a at *
    generalize L[k]?.getD 0 * k = b at *
    omega

set_option maxHeartbeats 2000000 in
theorem sumsOf_calls (A : Option Addr) (n c : Nat) (L : List Int) (w : World) (hL : L.length = n) (hn : n ≤ 6561) (hI : Ints w A L) (hv : lvOk L) :
    Calls Try.prog 19 #[.slice A n c] w fun e w' => e = .returned (.agg #[.int .i64 (sm0 L n), .int .i64 (sm1 L n), .int .i64 (sm2 L n)]) ∧ Below w.heap.size w w' := by
  have HL := Lib.hid hL
  have HI := Lib.hid hI
  have HV := Lib.hid hv
  clear hL hI hv
  go_enter Try.func19, Try.ntmps19
  go_wp2
  go_loopw [9] (fun i wr => ∃ k : Nat, k ≤ n ∧ i = .int .i64 k ∧ Box wr (w.heap.size + 1) 31 #[.int .i64 (sm0 L k), .int .i64 (sm1 L k), .int .i64 (sm2 L k)] ∧ Box wr w.heap.size 31 #[.int .i64 0, .int .i64 0, .int .i64 0] ∧ Below w.heap.size w wr) (fun i _ => n - (intOf i).toNat)
  case atStart =>
    have b0 := Box.new w 31 #[.int .i64 0, .int .i64 0, .int .i64 0]
    have b1 := Box.new (w.alloc (.cells #[.int .i64 0, .int .i64 0, .int .i64 0] 31)) 31 #[.int .i64 0, .int .i64 0, .int .i64 0]
    exact ⟨0, Nat.zero_le _, rfl, by simpa [sm0, sm1, sm2] using b1, b0.alloc _, ((Below.refl _ _).alloc (Nat.le_refl _) _).alloc (by simp) _⟩
  case round =>
    obtain ⟨k, hk, rfl, hbx, hbr, hb⟩ := hrel
    have HBX := Lib.hid hbx
    have HBR := Lib.hid hbr
    have HB := Lib.hid hb
    by_cases hlt : k < n
    · have hx := HV.out k
      have hbd := sm_bd HV.out k (by omega)
      have hpr := lv_prod (k := k) hx (by omega)
      have s0 : Hid (sm0 L (k + 1) = sm0 L k + L[k]?.getD 0) := rfl
      have s1 : Hid (sm1 L (k + 1) = sm1 L k + L[k]?.getD 0 * k) := rfl
      have s2 : Hid (sm2 L (k + 1) = sm2 L k + L[k]?.getD 0 * k * k) := rfl
      obtain ⟨ad, rfl, had, hc0⟩ := HI.out k (by rw [HL.out]; exact hlt)
      rw [List.getD_eq_getElem?_getD] at hc0
      have hc := (hb.cell (p := ad.add k) (by rw [add_block]; exact had)).trans hc0
      obtain ⟨c0, c1, c2⟩ := hbx.three
      have f0 := hbx.frozen 0
      have f1 := hbx.frozen 1
      have f2 := hbx.frozen 2
      clear hbx hbr hb hc0
      generalize sm0 L k = S0 at *
      generalize sm1 L k = S1 at *
      generalize sm2 L k = S2 at *
      generalize L[k]?.getD 0 = x at *
      obtain ⟨⟨q0, q1⟩, ⟨q2, q3⟩⟩ := hpr
      obtain ⟨⟨r0, r1⟩, ⟨r2, r3⟩, ⟨r4, r5⟩⟩ := hbd
      go_wp2
      go_roundw
      case rel =>
        refine ⟨k + 1, by omega, by go_num, ?_, ?_, ?_⟩
        · rw [s0.out, s1.out, s2.out]
          exact ((HBX.out.set 0 _).set 1 _).set 2 _
        · exact ((HBR.out.other (by simp) _).other (by simp) _).other (by simp) _
        · exact ((HB.out.setCell (by simp) _).setCell (by simp) _).setCell (by simp) _
      case measure => simp [intOf]; omega
    · obtain rfl : k = n := by omega
      obtain ⟨c0, c1, c2⟩ := hbx.three
      obtain ⟨d0, d1, d2⟩ := hbr.three
      have f0 := hbr.frozen 0
      have f1 := hbr.frozen 1
      have f2 := hbr.frozen 2
      clear hbx hbr hb
      have HF := Lib.hid (((HBR.out.set 0 (.int .i64 (sm0 L k))).set 1 (.int .i64 (sm1 L k))).set 2 (.int .i64 (sm2 L k)))
      go_wp2
      obtain ⟨g0, g1, g2⟩ := Box.three (show Box _ w.heap.size 31 #[.int .i64 (sm0 L k), .int .i64 (sm1 L k), .int .i64 (sm2 L k)] from HF.out)
      refine bodyPost_ret (v := .agg #[.int .i64 (sm0 L k), .int .i64 (sm1 L k), .int .i64 (sm2 L k)]) (by simp [results, Try.results19, go_sem, g0, g1, g2]) rfl ⟨rfl, ?_⟩
      exact ((HB.out.setCell (by simp) _).setCell (by simp) _).setCell (by simp) _

end Go.Proofs.Ytlhcenhlcajgnaa
