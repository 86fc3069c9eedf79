/- Contracts: rows of the table of presumed numbers, and the number of a split, by the program. -/
import Derived.Test.YtfllbdpdfgkkaaaPnV
import Derived.Test.YtfllbdpdfgkkaaaOwnG
import Derived.Deep.RegionHeld3
namespace Go.Proofs.Ytfllbdpdfgkkaaa
open Go.RowKit
set_option linter.unusedVariables false

theorem row_mul {q n M : Nat} (h : M = q * (n + 1)) : (q : Int) * ((n : Int) + 1) = M := by rw [h]; push_cast; rfl

set_option maxHeartbeats 1000000 in
theorem row_calls (g N n q M : Nat) (w : World) (hM : Hid (M = q * (n + 1))) (hN : M + (n + 1) ≤ N) (hNb : N ≤ 1000) (hq : q < 8) (hn : n ≤ 60) :
    Calls Try.prog 22 #[.agg #[.slice (some ⟨g, 0, none⟩) N N, .int .i64 n], .int .i64 ((q : Int) + 3)] w fun e w' => e = .returned (.slice (some ⟨g, M, none⟩) (n + 1) (n + 1)) ∧ Below w.heap.size w w' := by
  have X0 := Lib.hid (Box.new w 44 #[.slice (some ⟨g, 0, none⟩) N N, .int .i64 n])
  have HB := Lib.hid ((Below.refl w.heap.size w).alloc (Nat.le_refl _) (.cells #[.slice (some ⟨g, 0, none⟩) N N, .int .i64 n] 44))
  obtain ⟨x0, x1, _⟩ := X0.out.two
  have hmul := row_mul hM.out
  go_enter Try.func22, Try.ntmps22
  go_wp2
  go_ret
  exact ⟨by rw [show M + n + 1 - M = n + 1 by omega]; rfl, HB.out⟩
theorem row_at (p : Int) (g N n q M : Nat) (w : World) (hp : p = (q : Int) + 3) (hM : Hid (M = q * (n + 1))) (hN : M + (n + 1) ≤ N) (hNb : N ≤ 1000) (hq : q < 8) (hn : n ≤ 60) :
    Calls Try.prog 22 #[.agg #[.slice (some ⟨g, 0, none⟩) N N, .int .i64 n], .int .i64 p] w fun e w' => e = .returned (.slice (some ⟨g, M, none⟩) (n + 1) (n + 1)) ∧ Below w.heap.size w w' := by
  subst hp
  exact row_calls g N n q M w hM hN hNb hq hn
theorem keep4 {B b g i j : Nat} {W W' : World} {u v x y : Value} (hb : Below B W W') (hB : b < B) (hg : g < B) (h : W.cell? ⟨b, 0, none⟩ = some u ∧ W.cell? ⟨b, 1, none⟩ = some v ∧ W.cell? ⟨g, i, none⟩ = some x ∧ W.cell? ⟨g, j, none⟩ = some y) :
    W'.cell? ⟨b, 0, none⟩ = some u ∧ W'.cell? ⟨b, 1, none⟩ = some v ∧ W'.cell? ⟨g, i, none⟩ = some x ∧ W'.cell? ⟨g, j, none⟩ = some y :=
  ⟨(hb.cell (p := ⟨b, 0, none⟩) hB).trans h.1, (hb.cell (p := ⟨b, 1, none⟩) hB).trans h.2.1, (hb.cell (p := ⟨g, i, none⟩) hg).trans h.2.2.1, (hb.cell (p := ⟨g, j, none⟩) hg).trans h.2.2.2⟩

set_option maxHeartbeats 2000000 in
theorem splitNumber_calls (g N n q M0 M1 k d nn : Nat) (a b : Int) (w : World) (hM0 : Hid (M0 = q * (n + 1))) (hM1 : Hid (M1 = (q + 1) * (n + 1))) (hN : M1 + (n + 1) ≤ N) (hNb : N ≤ 1000) (hq : q < 7) (hn : n ≤ 60)
    (hk : k ≤ n) (hnn : Hid (nn = k + d)) (hd : d ≤ n) (ha : 0 ≤ a ∧ a ≤ 1152921504606846975) (hb : 0 ≤ b ∧ b ≤ 1152921504606846975)
    (hca : w.cell? ⟨g, M1 + k, none⟩ = some (.int .i64 a)) (hcb : w.cell? ⟨g, M0 + d, none⟩ = some (.int .i64 b)) :
    Calls Try.prog 39 #[.agg #[.slice (some ⟨g, 0, none⟩) N N, .int .i64 n], .int .i64 ((q : Int) + 4), .int .i64 nn, .int .i64 k] w fun e w' => e = .returned (.int .i64 (2 * a + b)) ∧ Below w.heap.size w w' := by
  have hg : g < w.heap.size := block_of_cell hca
  have hle : M0 + (n + 1) ≤ N := by have h0 := hM0.out; have h1 := hM1.out; rw [Nat.add_mul] at h1; omega
  have X0 := Lib.hid (Box.new w 44 #[.slice (some ⟨g, 0, none⟩) N N, .int .i64 n])
  have hb0 := (Below.refl w.heap.size w).alloc (Nat.le_refl _) (.cells #[.slice (some ⟨g, 0, none⟩) N N, .int .i64 n] 44)
  have HB := Lib.hid hb0
  have hCA := Lib.hid ((hb0.cell (p := ⟨g, M1 + k, none⟩) hg).trans hca)
  have hCB := Lib.hid ((hb0.cell (p := ⟨g, M0 + d, none⟩) hg).trans hcb)
  have hkk : (k : Int) < (n : Int) + 1 := by omega
  have hdd : (d : Int) < (n : Int) + 1 := by omega
  have hsub : IntKind.i64.wrap ((nn : Int) - (k : Int)) = (d : Int) := by rw [hnn.out]; exact (IntWalk.i64_in _ (by omega)).trans (by omega)
  have hmul : IntKind.i64.wrap (2 * a) = 2 * a := IntWalk.i64_in _ (by omega)
  have hsum : IntKind.i64.wrap (2 * a + b) = 2 * a + b := IntWalk.i64_in _ (by omega)
  have hp1 : IntKind.i64.wrap ((q : Int) + 4 - 1) = (q : Int) + 3 := (IntWalk.i64_in _ (by omega)).trans (by omega)
  have hG : g < (w.alloc (.cells #[.slice (some ⟨g, 0, none⟩) N N, .int .i64 n] 44)).heap.size := by simp; omega
  have hX := X0.out.lt
  clear hca hcb hb0
  generalize hW : w.alloc (.cells #[.slice (some ⟨g, 0, none⟩) N N, .int .i64 n] 44) = W at *
  have HW := Lib.hid hW
  clear hW
  obtain ⟨x0, x1, _⟩ := X0.out.two
  have e1 := hCA.out
  have e2 := hCB.out
  go_enter Try.func39, Try.ntmps39
  go_wp2_with fail
  rw [HW.out]
  go_region_held3 (fun w' => w'.cell? ⟨w.heap.size, 0, none⟩ = some (.slice (some ⟨g, 0, none⟩) N N) ∧ w'.cell? ⟨w.heap.size, 1, none⟩ = some (.int .i64 n) ∧ w'.cell? ⟨g, M1 + k, none⟩ = some (.int .i64 a) ∧ w'.cell? ⟨g, M0 + d, none⟩ = some (.int .i64 b))
    (first | exact ⟨x0, x1, e1, e2⟩ | exact C1.out | exact C2.out | go_keep)
    (first
    | (go_at_call 22; (with_reducible refine (row_at _ g N n (q + 1) M1 _ ?_ hM1 hN hNb (by omega) hn).mono ?_); (omega); rintro e w2 ⟨rfl, hb2⟩; have hb2' : Below W.heap.size W w2 := (by first | exact undrewN (undrew hb2) | exact undrew hb2 | exact undrewN hb2 | exact hb2); have C1 := Lib.hid (keep4 hb2' hX hG ⟨x0, x1, e1, e2⟩))
    | (go_at_call 22; (with_reducible refine (row_at _ g N n q M0 _ ?_ hM0 hle hNb (by omega) hn).mono ?_); (omega); rintro e w3 ⟨rfl, hb3⟩; have hb3' : Below w2.heap.size w2 w3 := (by first | exact hb3 | exact undrew hb3 | exact undrewN (undrew hb3) | exact undrewN hb3); have C2 := Lib.hid (keep4 hb3' (Nat.lt_of_lt_of_le hX hb2'.size) (Nat.lt_of_lt_of_le hG hb2'.size) C1.out)))
  have HB3 := Lib.hid ((HB.out.trans (hb2'.mono HB.out.size)).trans (hb3'.mono (Nat.le_trans HB.out.size hb2'.size)))
  clear hb2 hb3 hb2' hb3' e1 e2 x0 x1
  go_wp2
  go_ret
  exact ⟨rfl, HB3.out⟩

end Go.Proofs.Ytfllbdpdfgkkaaa
