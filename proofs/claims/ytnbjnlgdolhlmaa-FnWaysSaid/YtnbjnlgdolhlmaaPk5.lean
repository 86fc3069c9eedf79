/- Contracts: the carry of two states and both numbers, by the program. · Contracts: the one-move and the two-move number, the distance and the number of ways, by the specification's model and by the program. · Contracts: DistanceToPeg, by the specification's model and by the program. · Contracts: the perfect state. · Ways to pegs: what the answers have to do with each other, in the words of their contracts. · Contracts: GoalsOf, by the specification's model and by the program. · Contracts: the way to a perfect state, by the specification's model. · A scope with one label, inside a fence: the run may jump back to the label. No program. · Contracts: slices.Clone of a list of integers. · A range over a function whose elements lie in memory: the iterator tells the round what is known of the element in the world at hand. A law over the library's base law; no program. -/
import Derived.Test.YtnbjnlgdolhlmaaPk4
import Derived.Test.YtnbjnlgdolhlmaaPk1
import Derived.Maps.AppendAt
import Derived.Test.YtnbjnlgdolhlmaaPk2
import Derived.Test.YtnbjnlgdolhlmaaPk3
import Derived.BigQuiet
import Derived.Deep.AppendLies
import Derived.Deep.RegionLaw
import Derived.ScopeJumps
import Derived.ControlIn
import Derived.WalkMore
import Derived.Laws.Cover3
namespace Go.Proofs.Ytnbjnlgdolhlmaa
open Go.RowKit
open Go.RowKit (wrap64)
set_option linter.unusedVariables false

/-- The carry of two states: zeros, if they are equal. -/
def carryV (L M : List Int) (n : Nat) : Value :=
  if grt L M n = -1 then .agg #[.int .i64 0, .int .i64 0, .int .i64 0, .int .i64 0]
  else .agg #[.int .i64 (grt L M n), .int .i64 (L[(grt L M n).toNat]?.getD 0), .int .i64 (M[(grt L M n).toNat]?.getD 0), .int .i64 (3 - L[(grt L M n).toNat]?.getD 0 - M[(grt L M n).toNat]?.getD 0)]
theorem carryV_none {L M : List Int} {n : Nat} (h : grt L M n = -1) : carryV L M n = .agg #[.int .i64 0, .int .i64 0, .int .i64 0, .int .i64 0] := by unfold carryV; rw [if_pos h]
theorem carryV_some {L M : List Int} {n D : Nat} (h : grt L M n = D) : carryV L M n = .agg #[.int .i64 D, .int .i64 (L[D]?.getD 0), .int .i64 (M[D]?.getD 0), .int .i64 (3 - L[D]?.getD 0 - M[D]?.getD 0)] := by
  unfold carryV
  rw [if_neg (by omega), h, Int.toNat_natCast]

theorem shl_plain {k : Nat} (hk : k < 9) : IntKind.i64.wrap ((2 : Int) ^ k) = pow2 k := by
  have e3 : (2 : Int) ^ k = pow2 k := by unfold pow2; simp
  have hb := pow2_bd (k := k) (by omega)
  rw [e3]
  exact IntWalk.i64_in _ (by omega)

set_option maxHeartbeats 1000000 in
theorem carryBetween_calls (A : Option Addr) (n c : Nat) (p : Int) (L : List Int) (B : Option Addr) (d : Nat) (q : Int) (M : List Int) (w : World) (hL : L.length = n) (hM : M.length = n) (hn : n ≤ 8) (hI : Ints w A L) (hJ : Ints w B M) (hpL : pegsOk L) (hpM : pegsOk M) :
    Calls Try.prog 59 #[.agg #[.int .i64 p, .slice A n c], .agg #[.int .i64 q, .slice B n d]] w fun e w' => e = .returned (.tuple #[carryV L M n, .bool (decide (grt L M n ≠ -1))]) ∧ Below w.heap.size w w' := by
  have HL := Lib.hid hL
  have HM := Lib.hid hM
  have HPL := Lib.hid hpL
  have HPM := Lib.hid hpM
  obtain ⟨b1, b2, b3⟩ := twoBoxes w p q A B n c n d 26
  have hW : ∃ W, W = (((w.alloc (.cells #[.int .i64 p, .slice A n c] 26)).alloc (.cells #[.int .i64 q, .slice B n d] 26)).alloc (.cells #[.int .i64 0, .int .i64 0, .int .i64 0, .int .i64 0] 92)) := ⟨_, rfl⟩
  obtain ⟨W, hW⟩ := hW
  have X0 : Hid (Box W w.heap.size 26 #[.int .i64 p, .slice A n c]) := by unfold Hid; rw [hW]; exact b1.alloc _
  have Y0 : Hid (Box W (w.heap.size + 1) 26 #[.int .i64 q, .slice B n d]) := by unfold Hid; rw [hW]; exact b2.alloc _
  have R0 : Hid (Box W (w.heap.size + 1 + 1) 92 #[.int .i64 0, .int .i64 0, .int .i64 0, .int .i64 0]) := by
    unfold Hid; rw [hW]
    have := Box.new ((w.alloc (.cells #[.int .i64 p, .slice A n c] 26)).alloc (.cells #[.int .i64 q, .slice B n d] 26)) 92 #[.int .i64 0, .int .i64 0, .int .i64 0, .int .i64 0]
    simp only [World.size_alloc] at this
    exact this
  have HB0 : Hid (Below w.heap.size w W) := by unfold Hid; rw [hW]; exact b3.alloc (by simp; omega) _
  have HI0 := Lib.hid (hI.below HB0.out)
  have HJ0 := Lib.hid (hJ.below HB0.out)
  have HW := Lib.hid hW
  clear hL hM b1 b2 b3 hI hJ hW hpL hpM
  go_enter Try.func59, Try.ntmps59
  go_wp2
  rw [← HW.out]
  go_loopw [6] (fun i wr => ∃ m : Nat, m ≤ n ∧ i = .int .i64 ((m : Int) - 1) ∧ Hid (grt L M n = grt L M m) ∧ ∃ k, wr = W.drewN k) (fun i _ => (intOf i + 1).toNat)
  case atStart => exact ⟨n, Nat.le_refl _, rfl, Lib.hid rfl, 0, rfl⟩
  case round =>
    obtain ⟨m, hm, rfl, HG, k0, rfl⟩ := hrel
    obtain ⟨x0, x1, y0, y1⟩ := cells22 X0.out Y0.out
    obtain ⟨r0, r1, r2, r3⟩ := R0.out.four
    have f0 := R0.out.frozen 0
    have f1 := R0.out.frozen 1
    have f2 := R0.out.frozen 2
    have f3 := R0.out.frozen 3
    cases m with
    | zero =>
      have HZ : Hid (grt L M n = -1) := HG
      go_wp2
      refine bodyPost_ret (v := .tuple #[.agg #[.int .i64 0, .int .i64 0, .int .i64 0, .int .i64 0], .bool false]) (by simp [results, Try.results59, go_sem, r0, r1, r2, r3]) rfl ⟨?_, ?_⟩
      · rw [carryV_none HZ.out, HZ.out]; rfl
      · first | exact HB0.out | exact belowDraws HB0.out _ | exact belowDraws ((((HB0.out.setCell (by simp; omega) _).setCell (by simp; omega) _).setCell (by simp; omega) _).setCell (by simp; omega) _) _ | exact (((((belowDraws HB0.out _).setCell (by simp; omega) _).setCell (by simp; omega) _).setCell (by simp; omega) _).setCell (by simp; omega) _)
    | succ k =>
      have hk : k < n := by omega
      obtain ⟨ad, rfl, had, hc⟩ := HI0.out k (by rw [HL.out]; exact hk)
      obtain ⟨ad', rfl, had', hc'⟩ := HJ0.out k (by rw [HM.out]; exact hk)
      have hx := pegsOk_at HPL.out (d := k) (by rw [HL.out]; exact hk)
      have hy := pegsOk_at HPM.out (d := k) (by rw [HM.out]; exact hk)
      have hi0 : (0 : Int) ≤ (k : Int) := by omega
      have hi1 : (k : Int) < (n : Int) := by omega
      have hi2 : ((k + 1 : Nat) : Int) - 1 = (k : Int) := by omega
      rw [hi2]
      clear hi2
      by_cases he : L[k]?.getD 0 = M[k]?.getD 0
      · have ht : (L[k]?.getD 0 != M[k]?.getD 0) = false := by simpa using he
        have HST := Lib.hid (grt_step_eq he)
        clear he
        go_wp2_with fail
        go_quiet (fail)
        go_wp2
        go_roundw
        case rel => exact ⟨k, by omega, rfl, Lib.hid (HG.out.trans HST.out), by first | exact ⟨_, rfl⟩ | exact ⟨_, World.drewN_drewN _ _ _⟩⟩
        case measure => simp [intOf] <;> omega
      · have ht : (L[k]?.getD 0 != M[k]?.getD 0) = true := by simpa using he
        have HST := Lib.hid (grt_step_ne he)
        have HZ : Hid (grt L M n = k) := Lib.hid (HG.out.trans HST.out)
        clear he
        go_wp2_with fail
        go_quiet (fail)
        go_wp2_with fail
        refine (thirdPeg_calls (L[k]?.getD 0) (M[k]?.getD 0) _ hx hy).mono ?_
        rintro e w' ⟨rfl, rfl⟩
        go_wp2
        refine bodyPost_ret (v := .tuple #[.agg #[.int .i64 k, .int .i64 (L[k]?.getD 0), .int .i64 (M[k]?.getD 0), .int .i64 (3 - L[k]?.getD 0 - M[k]?.getD 0)], .bool true]) (by simp [results, Try.results59, go_sem, r0, r1, r2, r3]) rfl ⟨?_, ?_⟩
        · rw [carryV_some HZ.out, HZ.out]; first | (simp; done) | (simp; omega)
        · first | exact belowDraws ((((HB0.out.setCell (by simp; omega) _).setCell (by simp; omega) _).setCell (by simp; omega) _).setCell (by simp; omega) _) _ | exact (((((belowDraws HB0.out _).setCell (by simp; omega) _).setCell (by simp; omega) _).setCell (by simp; omega) _).setCell (by simp; omega) _)

set_option maxHeartbeats 2000000 in
theorem numbersOf_calls (A : Option Addr) (n c : Nat) (p : Int) (L : List Int) (B : Option Addr) (d : Nat) (q : Int) (M : List Int) (D : Nat) (w : World) (hL : L.length = n) (hM : M.length = n) (hn : n ≤ 8) (hI : Ints w A L) (hJ : Ints w B M)
    (hcap : n ≤ c) (hc : c ≤ 9223372036854775807) (hdap : n ≤ d) (hd : d ≤ 9223372036854775807) (hpL : pegsOk L) (hpM : pegsOk M) (hg : grt L M n = D) :
    Calls Try.prog 60 #[.agg #[.int .i64 p, .slice A n c], .agg #[.int .i64 q, .slice B n d], .agg #[.int .i64 D, .int .i64 (L[D]?.getD 0), .int .i64 (M[D]?.getD 0), .int .i64 (3 - L[D]?.getD 0 - M[D]?.getD 0)]] w fun e w' => e = .returned (.tuple #[.int .i64 (oneN L M D), .int .i64 (twoN L M D)]) ∧ Below w.heap.size w w' := by
  obtain ⟨hD, hP0, hP1, hQ0, hQ1, hne⟩ := carry_facts hpL hpM hL hM hg
  have HL := Lib.hid hL
  have HM := Lib.hid hM
  have HG := Lib.hid hg
  obtain ⟨b1, b2, b3⟩ := twoBoxes w p q A B n c n d 26
  have HI00 := Lib.hid (hI.below b3)
  have HJ00 := Lib.hid (hJ.below b3)
  have hd1 := distP_bd (L.take D) (3 - L[D]?.getD 0 - M[D]?.getD 0) (by simp; omega)
  have hd2 := distP_bd (M.take D) (3 - L[D]?.getD 0 - M[D]?.getD 0) (by simp; omega)
  have hd3 := distP_bd (L.take D) (M[D]?.getD 0) (by simp; omega)
  have hd4 := distP_bd (M.take D) (L[D]?.getD 0) (by simp; omega)
  have hpw := pow2_bd (k := D) (by omega)
  have hsh := shl_pow (k := D) (by omega)
  have HLT : Hid ((L.take D).length = D) := by unfold Hid; simp; omega
  have HMT : Hid ((M.take D).length = D) := by unfold Hid; simp; omega
  have HPL := Lib.hid (pegsOk_take hpL D)
  have HPM := Lib.hid (pegsOk_take hpM D)
  obtain ⟨ad, rfl, had, hcx⟩ := HI00.out D (by rw [HL.out]; exact hD)
  obtain ⟨ad', rfl, had', hcy⟩ := HJ00.out D (by rw [HM.out]; exact hD)
  rw [List.getD_eq_getElem?_getD] at hcx hcy
  show Calls _ _ #[.agg #[.int .i64 p, .slice (some ad) n c], .agg #[.int .i64 q, .slice (some ad') n d], .agg #[.int .i64 D, .int .i64 (L[D]?.getD 0), .int .i64 (M[D]?.getD 0), .int .i64 (3 - L[D]?.getD 0 - M[D]?.getD 0)]] _ fun e w' => e = .returned (.tuple #[.int .i64 (distP (L.take D) (3 - L[D]?.getD 0 - M[D]?.getD 0) + distP (M.take D) (3 - L[D]?.getD 0 - M[D]?.getD 0) + 1), .int .i64 (distP (L.take D) (M[D]?.getD 0) + distP (M.take D) (L[D]?.getD 0) + pow2 D + 1)]) ∧ Below w.heap.size w w'
  generalize L[D]?.getD 0 = P at *
  generalize M[D]?.getD 0 = Q at *
  generalize hu1 : distP (L.take D) (3 - P - Q) = u1 at *
  generalize hu2 : distP (M.take D) (3 - P - Q) = u2 at *
  generalize hu3 : distP (L.take D) Q = u3 at *
  generalize hu4 : distP (M.take D) P = u4 at *
  have U1 := Lib.hid hu1
  have U2 := Lib.hid hu2
  have U3 := Lib.hid hu3
  have U4 := Lib.hid hu4
  have hi0 : (0 : Int) ≤ (D : Int) := by omega
  have hi1 : (D : Int) < (n : Int) := by omega
  have hi2 : (D : Int) ≤ (c : Int) := by omega
  have hi3 : (D : Int) ≤ (d : Int) := by omega
  have hr : 0 ≤ 3 - P - Q ∧ 3 - P - Q ≤ 2 := by omega
  have hbal := (Below.refl _ ((w.alloc (.cells #[.int .i64 p, .slice (some ad) n c] 26)).alloc (.cells #[.int .i64 q, .slice (some ad') n d] 26))).alloc (Nat.le_refl _) (.cells #[.int .i64 D, .int .i64 P, .int .i64 Q, .int .i64 (3 - P - Q)] 92)
  have X1 := Lib.hid (b1.below hbal b1.lt)
  have Y1 := Lib.hid (b2.below hbal b2.lt)
  have hc0 := Box.new ((w.alloc (.cells #[.int .i64 p, .slice (some ad) n c] 26)).alloc (.cells #[.int .i64 q, .slice (some ad') n d] 26)) 92 #[.int .i64 D, .int .i64 P, .int .i64 Q, .int .i64 (3 - P - Q)]
  simp only [World.size_alloc] at hc0
  have C1 := Lib.hid hc0
  have HI1 := Lib.hid (HI00.out.below hbal)
  have HJ1 := Lib.hid (HJ00.out.below hbal)
  have HB1 := Lib.hid (b3.trans (hbal.mono b3.size))
  clear hL hM b1 b2 b3 hI hJ hg hu1 hu2 hu3 hu4 hpL hpM hcx hcy had had' hbal hc0 HI00 HJ00
  generalize hW : ((w.alloc (.cells #[.int .i64 p, .slice (some ad) n c] 26)).alloc (.cells #[.int .i64 q, .slice (some ad') n d] 26)).alloc (.cells #[.int .i64 D, .int .i64 P, .int .i64 Q, .int .i64 (3 - P - Q)] 92) = W at *
  have HW := Lib.hid hW
  clear hW
  obtain ⟨x0, x1, y0, y1⟩ := cells22 X1.out Y1.out
  obtain ⟨k0, k1, k2, k3⟩ := C1.out.four
  go_enter Try.func60, Try.ntmps60
  go_wp2_with fail
  rw [HW.out]
  go_quiet (fail)
  go_wp2_with fail
  clear x0 x1 y0 y1 k0 k1 k2 k3 X1 Y1
  obtain ⟨k0, k1, k2, k3⟩ := C1.out.four
  have hs1 : IntKind.i64.wrap (u1 + u2) = u1 + u2 := IntWalk.i64_in _ (by omega)
  have hs2 : IntKind.i64.wrap (u1 + u2 + 1) = u1 + u2 + 1 := IntWalk.i64_in _ (by omega)
  go_region_held3 (fun w' => w'.cell? ⟨w.heap.size + 1 + 1, 0, none⟩ = some (.int .i64 D) ∧ w'.cell? ⟨w.heap.size + 1 + 1, 1, none⟩ = some (.int .i64 P) ∧ w'.cell? ⟨w.heap.size + 1 + 1, 2, none⟩ = some (.int .i64 Q) ∧ w'.cell? ⟨w.heap.size + 1 + 1, 3, none⟩ = some (.int .i64 (3 - P - Q)))
    (first | exact ⟨k0, k1, k2, k3⟩ | exact C2.out.four | exact C3.out.four | go_keep)
    (first
    | (go_at_call 32; (with_reducible refine (distanceToPeg_calls (some ad) D c (L.take D) (3 - P - Q) _ HLT.out (by omega) ?_ HPL.out hr).mono ?_); (exact HI1.out.take D); rintro e w2 ⟨rfl, hb2⟩; rw [U1.out]; have C2 := Lib.hid (Box.below C1.out (undrewN (undrew hb2)) (Box.lt C1.out)))
    | (go_at_call 32; (with_reducible refine (distanceToPeg_calls (some ad') D d (M.take D) (3 - P - Q) _ HMT.out (by omega) ?_ HPM.out hr).mono ?_); (exact (HJ1.out.below (undrewN (undrew hb2))).take D); rintro e w3 ⟨rfl, hb3⟩; rw [U2.out]; have C3 := Lib.hid (Box.below C2.out hb3 (Box.lt C2.out))))
  have q2 := Below.size (undrewN (undrew hb2))
  have HB3 := Lib.hid ((HB1.out.trans ((undrewN (undrew hb2)).mono HB1.out.size)).trans (hb3.mono (Nat.le_trans HB1.out.size q2)))
  have HI3 := Lib.hid ((HI1.out.below (undrewN (undrew hb2))).below hb3)
  have HJ3 := Lib.hid ((HJ1.out.below (undrewN (undrew hb2))).below hb3)
  clear q2 hb2 hb3 k0 k1 k2 k3 C1 HI1 HJ1 HB1 C2 hs1 hs2
  go_wp2_with fail
  have hs6 := shl_plain (k := D) (by omega)
  obtain ⟨k0, k1, k2, k3⟩ := C3.out.four
  have hs3 : IntKind.i64.wrap (u3 + u4) = u3 + u4 := IntWalk.i64_in _ (by omega)
  have hs4 : IntKind.i64.wrap (u3 + u4 + pow2 D) = u3 + u4 + pow2 D := IntWalk.i64_in _ (by omega)
  have hs5 : IntKind.i64.wrap (u3 + u4 + pow2 D + 1) = u3 + u4 + pow2 D + 1 := IntWalk.i64_in _ (by omega)
  go_region_held3 (fun w' => w'.cell? ⟨w.heap.size + 1 + 1, 0, none⟩ = some (.int .i64 D) ∧ w'.cell? ⟨w.heap.size + 1 + 1, 1, none⟩ = some (.int .i64 P) ∧ w'.cell? ⟨w.heap.size + 1 + 1, 2, none⟩ = some (.int .i64 Q) ∧ w'.cell? ⟨w.heap.size + 1 + 1, 3, none⟩ = some (.int .i64 (3 - P - Q)))
    (first | exact ⟨k0, k1, k2, k3⟩ | exact C4.out.four | exact C5.out.four | go_keep)
    (first
    | (go_at_call 32; (with_reducible refine (distanceToPeg_calls (some ad) D c (L.take D) Q _ HLT.out (by omega) ?_ HPL.out ⟨hQ0, hQ1⟩).mono ?_); (exact HI3.out.take D); rintro e w4 ⟨rfl, hb4⟩; rw [U3.out]; have C4 := Lib.hid (Box.below C3.out (undrew hb4) (Box.lt C3.out)))
    | (go_at_call 32; (with_reducible refine (distanceToPeg_calls (some ad') D d (M.take D) P _ HMT.out (by omega) ?_ HPM.out ⟨hP0, hP1⟩).mono ?_); (exact (HJ3.out.below (undrew hb4)).take D); rintro e w5 ⟨rfl, hb5⟩; rw [U4.out]; have C5 := Lib.hid (Box.below C4.out hb5 (Box.lt C4.out))))
  have q4 := Below.size (undrew hb4)
  have HB5 := Lib.hid ((HB3.out.trans ((undrew hb4).mono HB3.out.size)).trans (hb5.mono (Nat.le_trans HB3.out.size q4)))
  have HI5 := Lib.hid ((HI3.out.below (undrew hb4)).below hb5)
  have HJ5 := Lib.hid ((HJ3.out.below (undrew hb4)).below hb5)
  clear q4 hb4 hb5 k0 k1 k2 k3 C3 HI3 HJ3 HB3 C4 hs3 hs4 hs5
  clear hs6
  go_wp2
  go_ret2
  exact ⟨rfl, HB5.out⟩

end Go.Proofs.Ytnbjnlgdolhlmaa

namespace Go.Proofs.Ytnbjnlgdolhlmaa
open Go.RowKit
set_option linter.unusedVariables false

theorem ret_two' {a b c d : Int} (h : c = a) (h' : d = b) : Ending.returned (.tuple #[.int .i64 a, .int .i64 b]) = .returned (.tuple #[.int .i64 c, .int .i64 d]) := by rw [h, h']
theorem ret_three' {a b c d e f : Int} (h : d = a) (h' : e = b) (h'' : f = c) : Ending.returned (.tuple #[.int .i64 a, .int .i64 b, .int .i64 c]) = .returned (.tuple #[.int .i64 d, .int .i64 e, .int .i64 f]) := by rw [h, h', h'']

/-- What is answered of two states: beside a code; for equal ones; of both numbers. -/
def nwV (v : Int) (f : Int → Int → Int) (p : Int) (L : List Int) (q : Int) (M : List Int) : Int :=
  if code2 p L q M = 0 then (if grt L M L.length = -1 then v else f (oneN L M (grt L M L.length).toNat) (twoN L M (grt L M L.length).toNat)) else 0
def nbC (v : Int) (p : Int) (L : List Int) (q : Int) (M : List Int) : Int :=
  if code2 p L q M = 0 then (if grt L M L.length = -1 then v else 0) else code2 p L q M
theorem nwV_code {v p q : Int} {f : Int → Int → Int} {L M : List Int} (h : ¬ code2 p L q M = 0) : nwV v f p L q M = 0 := by unfold nwV; rw [if_neg h]
theorem nbC_code {v p q : Int} {L M : List Int} (h : ¬ code2 p L q M = 0) : nbC v p L q M = code2 p L q M := by unfold nbC; rw [if_neg h]
theorem nwV_eq {v p q : Int} {f : Int → Int → Int} {L M : List Int} {n : Nat} (h : code2 p L q M = 0) (hL : L.length = n) (hg : grt L M n = -1) : nwV v f p L q M = v := by unfold nwV; rw [if_pos h, hL, if_pos hg]
theorem nbC_eq {v p q : Int} {L M : List Int} {n : Nat} (h : code2 p L q M = 0) (hL : L.length = n) (hg : grt L M n = -1) : nbC v p L q M = v := by unfold nbC; rw [if_pos h, hL, if_pos hg]
theorem nwV_ne {v p q : Int} {f : Int → Int → Int} {L M : List Int} {n D : Nat} (h : code2 p L q M = 0) (hL : L.length = n) (hg : grt L M n = D) : nwV v f p L q M = f (oneN L M D) (twoN L M D) := by
  unfold nwV
  rw [if_pos h, hL, if_neg (by omega), hg, Int.toNat_natCast]
theorem nbC_ne {v p q : Int} {L M : List Int} {n D : Nat} (h : code2 p L q M = 0) (hL : L.length = n) (hg : grt L M n = D) : nbC v p L q M = 0 := by
  unfold nbC
  rw [if_pos h, hL, if_neg (by omega)]
def fstI (a _b : Int) : Int := a
def sndI (_a b : Int) : Int := b
def waysI (a b : Int) : Int := if a = b then 2 else 1
theorem grt_cases (L M : List Int) (n : Nat) : grt L M n = -1 ∨ ∃ D : Nat, grt L M n = D := by
  have := (grt_bd L M n).1
  by_cases h : grt L M n = -1
  · exact .inl h
  · exact .inr ⟨(grt L M n).toNat, by omega⟩

set_option maxHeartbeats 1000000 in
theorem numbersBetween_calls (A : Option Addr) (n c : Nat) (p : Int) (L : List Int) (B : Option Addr) (m d : Nat) (q : Int) (M : List Int) (w : World) (hL : L.length = n) (hn : n ≤ 1048576) (hI : Ints w A L) (hcap : n ≤ c) (hc : c ≤ 9223372036854775807) (hM : M.length = m) (hm : m ≤ 1048576) (hJ : Ints w B M) (hdap : m ≤ d) (hd : d ≤ 9223372036854775807) :
    Calls Try.prog 42 #[.agg #[.int .i64 p, .slice A n c], .agg #[.int .i64 q, .slice B m d]] w fun e w' => e = .returned (.tuple #[.int .i64 (nwV 0 fstI p L q M), .int .i64 (nwV 0 sndI p L q M), .int .i64 (nbC 5 p L q M)]) ∧ Below w.heap.size w w' := by
  have HL := Lib.hid hL
  have HM := Lib.hid hM
  obtain ⟨b1, b2, b3⟩ := twoBoxes w p q A B n c m d 26
  have hbal := (Below.refl _ ((w.alloc (.cells #[.int .i64 p, .slice A n c] 26)).alloc (.cells #[.int .i64 q, .slice B m d] 26))).alloc (Nat.le_refl _) (.cells #[.int .i64 p, .slice A n c, .int .i64 q, .slice B m d] 26)
  have X0 := Lib.hid (b1.below hbal b1.lt)
  have Y0 := Lib.hid (b2.below hbal b2.lt)
  have hc0 := Box.new ((w.alloc (.cells #[.int .i64 p, .slice A n c] 26)).alloc (.cells #[.int .i64 q, .slice B m d] 26)) 26 #[.int .i64 p, .slice A n c, .int .i64 q, .slice B m d]
  simp only [World.size_alloc] at hc0
  have Z0 := Lib.hid hc0
  have HB0 := Lib.hid (b3.trans (hbal.mono b3.size))
  have HI0 := Lib.hid (hI.below HB0.out)
  have HJ0 := Lib.hid (hJ.below HB0.out)
  clear hL hM b1 b2 b3 hbal hc0 hI hJ
  by_cases hz : code2 p L q M = 0
  · obtain ⟨hs, ht, rfl, rfl, hlen⟩ := code2_zero hz
    rw [HL.out, HM.out] at hlen
    subst hlen
    have HZ := Lib.hid hz
    have hz' : (code2 3 L 3 M != 0) = false := by simpa using hz
    have h8 := (state_facts hs HL.out).2.2.1
    have HPL := Lib.hid (state_pegsOk hs)
    have HPM := Lib.hid (state_pegsOk ht)
    clear hz hs ht
    rcases grt_cases L M n with hg | ⟨D, hg⟩
    · have HG := Lib.hid hg
      have HC := Lib.hid (carryV_none hg)
      have HD : Hid (decide (grt L M n ≠ -1) = false) := by unfold Hid; rw [hg]; rfl
      clear hg
      go_enter Try.func42, Try.ntmps42
      go_wp2_with fail
      refine (codeOfStates_two (w.heap.size + 1 + 1) A n c 3 L B n d 3 M _ Z0.out HL.out hn HI0.out HM.out hm HJ0.out).mono ?_
      rintro e w1 ⟨rfl, hb⟩
      have X1 := Lib.hid (X0.out.below hb X0.out.lt)
      have Y1 := Lib.hid (Y0.out.below hb Y0.out.lt)
      have HI1 := Lib.hid (HI0.out.below hb)
      have HJ1 := Lib.hid (HJ0.out.below hb)
      have HB1 := Lib.hid (HB0.out.trans (hb.mono HB0.out.size))
      clear hb X0 Y0 HI0 HJ0 HB0
      obtain ⟨x0, x1, y0, y1⟩ := cells22 X1.out Y1.out
      go_wp2_with fail
      refine (carryBetween_calls A n c 3 L B d 3 M _ HL.out HM.out h8 HI1.out HJ1.out HPL.out HPM.out).mono ?_
      rintro e w2 ⟨rfl, hb⟩
      have X2 := Lib.hid (X1.out.below hb X1.out.lt)
      have Y2 := Lib.hid (Y1.out.below hb Y1.out.lt)
      have HI2 := Lib.hid (HI1.out.below hb)
      have HJ2 := Lib.hid (HJ1.out.below hb)
      have HB2 := Lib.hid (HB1.out.trans (hb.mono HB1.out.size))
      clear hb X1 Y1 HI1 HJ1 HB1
      rw [HC.out, HD.out]
      go_wp2
      go_ret3
      exact ⟨ret_three' (nwV_eq HZ.out HL.out HG.out) (nwV_eq HZ.out HL.out HG.out) (nbC_eq HZ.out HL.out HG.out), HB2.out.alloc HB2.out.size _⟩
    · have HG := Lib.hid hg
      have HC := Lib.hid (carryV_some hg)
      have HD : Hid (decide (grt L M n ≠ -1) = true) := by unfold Hid; rw [hg]; simp; try omega
      clear hg
      go_enter Try.func42, Try.ntmps42
      go_wp2_with fail
      refine (codeOfStates_two (w.heap.size + 1 + 1) A n c 3 L B n d 3 M _ Z0.out HL.out hn HI0.out HM.out hm HJ0.out).mono ?_
      rintro e w1 ⟨rfl, hb⟩
      have X1 := Lib.hid (X0.out.below hb X0.out.lt)
      have Y1 := Lib.hid (Y0.out.below hb Y0.out.lt)
      have HI1 := Lib.hid (HI0.out.below hb)
      have HJ1 := Lib.hid (HJ0.out.below hb)
      have HB1 := Lib.hid (HB0.out.trans (hb.mono HB0.out.size))
      clear hb X0 Y0 HI0 HJ0 HB0
      obtain ⟨x0, x1, y0, y1⟩ := cells22 X1.out Y1.out
      go_wp2_with fail
      refine (carryBetween_calls A n c 3 L B d 3 M _ HL.out HM.out h8 HI1.out HJ1.out HPL.out HPM.out).mono ?_
      rintro e w2 ⟨rfl, hb⟩
      have X2 := Lib.hid (X1.out.below hb X1.out.lt)
      have Y2 := Lib.hid (Y1.out.below hb Y1.out.lt)
      have HI2 := Lib.hid (HI1.out.below hb)
      have HJ2 := Lib.hid (HJ1.out.below hb)
      have HB2 := Lib.hid (HB1.out.trans (hb.mono HB1.out.size))
      clear hb X1 Y1 HI1 HJ1 HB1
      rw [HC.out, HD.out]
      clear x0 x1 y0 y1
      obtain ⟨x0, x1, y0, y1⟩ := cells22 (X2.out.below ((Below.refl _ w2).alloc (Nat.le_refl _) (.cells #[.int .i64 D, .int .i64 (L[D]?.getD 0), .int .i64 (M[D]?.getD 0), .int .i64 (3 - L[D]?.getD 0 - M[D]?.getD 0)] 92)) X2.out.lt) (Y2.out.below ((Below.refl _ w2).alloc (Nat.le_refl _) (.cells #[.int .i64 D, .int .i64 (L[D]?.getD 0), .int .i64 (M[D]?.getD 0), .int .i64 (3 - L[D]?.getD 0 - M[D]?.getD 0)] 92)) Y2.out.lt)
      go_wp2_with fail
      refine (numbersOf_calls A n c 3 L B d 3 M D _ HL.out HM.out h8 (HI2.out.below ((Below.refl _ w2).alloc (Nat.le_refl _) (.cells #[.int .i64 D, .int .i64 (L[D]?.getD 0), .int .i64 (M[D]?.getD 0), .int .i64 (3 - L[D]?.getD 0 - M[D]?.getD 0)] 92))) (HJ2.out.below ((Below.refl _ w2).alloc (Nat.le_refl _) (.cells #[.int .i64 D, .int .i64 (L[D]?.getD 0), .int .i64 (M[D]?.getD 0), .int .i64 (3 - L[D]?.getD 0 - M[D]?.getD 0)] 92))) hcap hc hdap hd HPL.out HPM.out HG.out).mono ?_
      rintro e w3 ⟨rfl, hb⟩
      have HB3 := Lib.hid ((HB2.out.alloc HB2.out.size (.cells #[.int .i64 D, .int .i64 (L[D]?.getD 0), .int .i64 (M[D]?.getD 0), .int .i64 (3 - L[D]?.getD 0 - M[D]?.getD 0)] 92)).trans (hb.mono (by have := HB2.out.size; simp; omega)))
      clear hb
      go_wp2
      go_ret3
      exact ⟨ret_three' (nwV_ne HZ.out HL.out HG.out) (nwV_ne HZ.out HL.out HG.out) (nbC_ne HZ.out HL.out HG.out), HB3.out⟩
  · have hz' : (code2 p L q M != 0) = true := by simpa using hz
    have HZ := Lib.hid hz
    clear hz
    go_enter Try.func42, Try.ntmps42
    go_wp2_with fail
    refine (codeOfStates_two (w.heap.size + 1 + 1) A n c p L B m d q M _ Z0.out HL.out hn HI0.out HM.out hm HJ0.out).mono ?_
    rintro e w1 ⟨rfl, hb⟩
    have X1 := Lib.hid (X0.out.below hb X0.out.lt)
    have Y1 := Lib.hid (Y0.out.below hb Y0.out.lt)
    have HI1 := Lib.hid (HI0.out.below hb)
    have HJ1 := Lib.hid (HJ0.out.below hb)
    have HB1 := Lib.hid (HB0.out.trans (hb.mono HB0.out.size))
    clear hb X0 Y0 HI0 HJ0 HB0
    go_wp2
    go_ret3
    exact ⟨ret_three' (nwV_code HZ.out) (nwV_code HZ.out) (nbC_code HZ.out), HB1.out⟩

theorem nb_five {p q : Int} {L M : List Int} (h : nbC 5 p L q M = 5) : (∀ v f, nwV v f p L q M = v) ∧ (∀ v, nbC v p L q M = v) := by
  by_cases hz : code2 p L q M = 0
  · by_cases hg : grt L M L.length = -1
    · exact ⟨fun v f => nwV_eq hz rfl hg, fun v => nbC_eq hz rfl hg⟩
    · exfalso
      unfold nbC at h
      rw [if_pos hz, if_neg hg] at h
      omega
  · exfalso
    have := code2_bd p q L M
    unfold nbC at h
    rw [if_neg hz] at h
    omega
theorem nb_notfive {p q : Int} {L M : List Int} (h : ¬ nbC 5 p L q M = 5) : (∀ v f, f 0 0 = 0 → nwV v f p L q M = f (nwV 0 fstI p L q M) (nwV 0 sndI p L q M)) ∧ (∀ v, nbC v p L q M = nbC 5 p L q M) := by
  by_cases hz : code2 p L q M = 0
  · by_cases hg : grt L M L.length = -1
    · exact absurd (nbC_eq hz rfl hg) h
    · constructor
      · intro v f hf
        unfold nwV
        simp only [if_pos hz, if_neg hg, fstI, sndI]
      · intro v
        unfold nbC
        simp only [if_pos hz, if_neg hg]
  · constructor
    · intro v f hf
      simp only [nwV_code hz, hf]
    · intro v
      simp only [nbC_code hz]
theorem nb_zero {p q : Int} {L M : List Int} (h : nbC 5 p L q M = 0) : ∀ v f, nwV v f p L q M = f (nwV 0 fstI p L q M) (nwV 0 sndI p L q M) := by
  by_cases hz : code2 p L q M = 0
  · by_cases hg : grt L M L.length = -1
    · have := nbC_eq (v := 5) hz rfl hg
      omega
    · intro v f
      unfold nwV
      simp only [if_pos hz, if_neg hg, fstI, sndI]
  · exact absurd ((nbC_code (v := 5) hz).symm.trans h) hz
theorem nb_notzero {p q : Int} {L M : List Int} (h : ¬ nbC 5 p L q M = 0) (h5 : ¬ nbC 5 p L q M = 5) : ∀ v f, nwV v f p L q M = 0 := by
  by_cases hz : code2 p L q M = 0
  · exfalso
    by_cases hg : grt L M L.length = -1
    · exact h5 (nbC_eq hz rfl hg)
    · apply h
      unfold nbC
      rw [if_pos hz, if_neg hg]
  · exact fun v f => nwV_code hz
theorem nbC_zero2 {p q : Int} {L M : List Int} (h : nbC 5 p L q M = 0) : nbC 0 p L q M = 0 := by
  by_cases hz : code2 p L q M = 0
  · by_cases hg : grt L M L.length = -1
    · exact nbC_eq hz rfl hg
    · unfold nbC
      rw [if_pos hz, if_neg hg]
  · rw [nbC_code hz] at h ⊢
    exact h
theorem fstI_bd (a b : Int) (h : 0 ≤ a ∧ a ≤ 1000) (h' : 0 ≤ b ∧ b ≤ 1000) : 0 ≤ fstI a b ∧ fstI a b ≤ 1000 := h
theorem sndI_bd (a b : Int) (h : 0 ≤ a ∧ a ≤ 1000) (h' : 0 ≤ b ∧ b ≤ 1000) : 0 ≤ sndI a b ∧ sndI a b ≤ 1000 := h'
theorem nwV_bd (f : Int → Int → Int) (hf : ∀ a b, 0 ≤ a ∧ a ≤ 1000 → 0 ≤ b ∧ b ≤ 1000 → 0 ≤ f a b ∧ f a b ≤ 1000) (p q : Int) (L M : List Int) : 0 ≤ nwV 0 f p L q M ∧ nwV 0 f p L q M ≤ 1000 := by
  unfold nwV
  split
  · next hz =>
    split
    · omega
    · have hs := (code2_zero hz).1
      have h8 := (state_facts hs rfl).2.2.1
      have := (grt_bd L M L.length).2
      exact hf _ _ (oneN_bd L M (by omega)) (twoN_bd L M (by omega))
  · omega

set_option maxHeartbeats 1000000 in
theorem implDistanceByRule_calls (A : Option Addr) (n c : Nat) (p : Int) (L : List Int) (B : Option Addr) (m d : Nat) (q : Int) (M : List Int) (w : World) (hL : L.length = n) (hn : n ≤ 1048576) (hI : Ints w A L) (hcap : n ≤ c) (hc : c ≤ 9223372036854775807) (hM : M.length = m) (hm : m ≤ 1048576) (hJ : Ints w B M) (hdap : m ≤ d) (hd : d ≤ 9223372036854775807) :
    Calls Try.prog 21 #[.agg #[.int .i64 p, .slice A n c], .agg #[.int .i64 q, .slice B m d]] w fun e w' => e = .returned (.tuple #[.int .i64 (nwV 0 min p L q M), .int .i64 (nbC 0 p L q M)]) ∧ Below w.heap.size w w' := by
  have HL := Lib.hid hL
  have HM := Lib.hid hM
  obtain ⟨b1, b2, b3⟩ := twoBoxes w p q A B n c m d 26
  have HB0 := Lib.hid b3
  have HI0 := Lib.hid (hI.below b3)
  have HJ0 := Lib.hid (hJ.below b3)
  obtain ⟨x0, x1, y0, y1⟩ := cells22 b1 b2
  clear hL hM b1 b2 b3 hI hJ
  by_cases h5 : nbC 5 p L q M = 5
  · have ht : (nbC 5 p L q M == 5) = true := by simpa using h5
    have HV := Lib.hid (nb_five h5)
    clear h5
    go_enter Try.func21, Try.ntmps21
    go_wp2_with fail
    refine (numbersBetween_calls A n c p L B m d q M _ HL.out hn HI0.out hcap hc HM.out hm HJ0.out hdap hd).mono ?_
    rintro e w1 ⟨rfl, hb⟩
    have HB1 := Lib.hid (HB0.out.trans (hb.mono HB0.out.size))
    clear hb
    go_wp2
    go_ret2
    exact ⟨ret_two' (HV.out.1 _ _) (HV.out.2 _), HB1.out⟩
  · have ht : (nbC 5 p L q M == 5) = false := by simpa using h5
    have HV := Lib.hid (nb_notfive h5)
    have hbo := nwV_bd fstI fstI_bd p q L M
    have hbt := nwV_bd sndI sndI_bd p q L M
    clear h5
    go_enter Try.func21, Try.ntmps21
    go_wp2_with fail
    refine (numbersBetween_calls A n c p L B m d q M _ HL.out hn HI0.out hcap hc HM.out hm HJ0.out hdap hd).mono ?_
    rintro e w1 ⟨rfl, hb⟩
    have HB1 := Lib.hid (HB0.out.trans (hb.mono HB0.out.size))
    clear hb
    have hw := Lib.hid (HV.out.1 0 min (by simp))
    have hw2 := Lib.hid (HV.out.2 0)
    clear HV
    generalize nwV 0 fstI p L q M = a at *
    generalize nwV 0 sndI p L q M = b at *
    go_wp2
    all_goals
      go_ret2
      exact ⟨ret_two' (by rw [hw.out]; omega) hw2.out, HB1.out⟩

end Go.Proofs.Ytnbjnlgdolhlmaa

namespace Go.Proofs.Ytnbjnlgdolhlmaa
open Go.RowKit
set_option linter.unusedVariables false

def dpV (p : Int) (L : List Int) (a : Int) : Int := if codeW p L a = 0 then distP L a else 0

theorem ret_two'Z45 {a b c d : Int} (h : c = a) (h' : d = b) : Ending.returned (.tuple #[.int .i64 a, .int .i64 b]) = .returned (.tuple #[.int .i64 c, .int .i64 d]) := by rw [h, h']

set_option maxHeartbeats 1000000 in
theorem specDistTo_calls (A : Option Addr) (n c : Nat) (p : Int) (L : List Int) (a : Int) (w : World) (hL : L.length = n) (hn : n ≤ 1048576) (hI : Ints w A L) :
    Calls Try.prog 11 #[.agg #[.int .i64 p, .slice A n c], .int .i64 a] w fun e w' => e = .returned (.tuple #[.int .i64 (dpV p L a), .int .i64 (codeW p L a)]) ∧ Below w.heap.size w w' := by
  have HL := Lib.hid hL
  have X0 := Lib.hid (Box.new w 26 #[.int .i64 p, .slice A n c])
  have HB0 := Lib.hid ((Below.refl _ w).alloc (Nat.le_refl _) (.cells #[.int .i64 p, .slice A n c] 26))
  have HI0 := Lib.hid (hI.below HB0.out)
  clear hL hI
  by_cases hz : codeW p L a = 0
  · obtain ⟨hs, hp, ha⟩ := codeW_zero hz
    have e1 : Hid (dpV p L a = distP L a) := by unfold Hid dpV; rw [if_pos hz]
    have HZ := Lib.hid hz
    have hz' : (codeW p L a != 0) = false := by simpa using hz
    subst hp
    have h8 := (state_facts hs HL.out).2.2.1
    have HP := Lib.hid (state_pegsOk hs)
    clear hz hs
    go_enter Try.func11, Try.ntmps11
    go_wp2_with fail
    refine (l02With_calls A n c 3 L a _ HL.out hn HI0.out).mono ?_
    rintro e w1 ⟨rfl, hb1⟩
    have X1 := Lib.hid (X0.out.below hb1 X0.out.lt)
    have HB1 := Lib.hid (HB0.out.trans (hb1.mono HB0.out.size))
    have HI1 := Lib.hid (HI0.out.below hb1)
    clear hb1
    obtain ⟨x0, x1, _, _⟩ := X1.out.two
    go_wp2_with fail
    refine (l02To_calls A n c L a _ HL.out h8 HI1.out HP.out ha).mono ?_
    rintro e w2 ⟨rfl, hb2⟩
    have HB2 := Lib.hid (HB1.out.trans (hb2.mono HB1.out.size))
    clear hb2
    go_wp2
    go_ret2
    exact ⟨ret_two'Z45 e1.out HZ.out, HB2.out⟩
  · have hz' : (codeW p L a != 0) = true := by simpa using hz
    have e1 : Hid (dpV p L a = 0) := by unfold Hid dpV; rw [if_neg hz]
    go_enter Try.func11, Try.ntmps11
    go_wp2_with fail
    refine (l02With_calls A n c p L a _ HL.out hn HI0.out).mono ?_
    rintro e w1 ⟨rfl, hb1⟩
    have HB1 := Lib.hid (HB0.out.trans (hb1.mono HB0.out.size))
    clear hb1
    go_wp2
    go_ret2
    exact ⟨ret_two'Z45 e1.out rfl, HB1.out⟩

set_option maxHeartbeats 1000000 in
theorem implDistTo_calls (A : Option Addr) (n c : Nat) (p : Int) (L : List Int) (a : Int) (w : World) (hL : L.length = n) (hn : n ≤ 1048576) (hI : Ints w A L) :
    Calls Try.prog 10 #[.agg #[.int .i64 p, .slice A n c], .int .i64 a] w fun e w' => e = .returned (.tuple #[.int .i64 (dpV p L a), .int .i64 (codeW p L a)]) ∧ Below w.heap.size w w' := by
  have HL := Lib.hid hL
  have X0 := Lib.hid ((Box.new w 26 #[.int .i64 p, .slice A n c]).alloc (.cells #[.int .i64 p, .slice A n c] 26))
  have hX : Box ((w.alloc (.cells #[.int .i64 p, .slice A n c] 26)).alloc (.cells #[.int .i64 p, .slice A n c] 26)) (w.heap.size + 1) 26 #[.int .i64 p, .slice A n c] := by
    have := Box.new (w.alloc (.cells #[.int .i64 p, .slice A n c] 26)) 26 #[.int .i64 p, .slice A n c]
    rwa [World.size_alloc] at this
  have Y0 := Lib.hid hX
  have HB0 := Lib.hid (((Below.refl _ w).alloc (Nat.le_refl _) (.cells #[.int .i64 p, .slice A n c] 26)).alloc (by simp) (.cells #[.int .i64 p, .slice A n c] 26))
  have HI0 := Lib.hid (hI.below HB0.out)
  clear hL hI hX
  by_cases hz : codeW p L a = 0
  · obtain ⟨hs, hp, ha⟩ := codeW_zero hz
    have e1 : Hid (dpV p L a = distP L a) := by unfold Hid dpV; rw [if_pos hz]
    have HZ := Lib.hid hz
    have hz' : (codeW p L a != 0) = false := by simpa using hz
    subst hp
    have h8 := (state_facts hs HL.out).2.2.1
    have HP := Lib.hid (state_pegsOk hs)
    clear hz hs
    go_enter Try.func10, Try.ntmps10
    go_wp2_with fail
    refine (codeOfPeg_one (w.heap.size + 1) A n c 3 L a _ Y0.out HL.out hn HI0.out).mono ?_
    rintro e w1 ⟨rfl, hb1⟩
    have X1 := Lib.hid (X0.out.below hb1 X0.out.lt)
    have HB1 := Lib.hid (HB0.out.trans (hb1.mono HB0.out.size))
    have HI1 := Lib.hid (HI0.out.below hb1)
    clear hb1
    obtain ⟨x0, x1, _, _⟩ := X1.out.two
    go_wp2_with fail
    refine (distanceToPeg_calls A n c L a _ HL.out h8 HI1.out HP.out ha).mono ?_
    rintro e w2 ⟨rfl, hb2⟩
    have HB2 := Lib.hid (HB1.out.trans (hb2.mono HB1.out.size))
    clear hb2
    go_wp2
    go_ret2
    exact ⟨ret_two'Z45 e1.out HZ.out, HB2.out⟩
  · have hz' : (codeW p L a != 0) = true := by simpa using hz
    have e1 : Hid (dpV p L a = 0) := by unfold Hid dpV; rw [if_neg hz]
    go_enter Try.func10, Try.ntmps10
    go_wp2_with fail
    refine (codeOfPeg_one (w.heap.size + 1) A n c p L a _ Y0.out HL.out hn HI0.out).mono ?_
    rintro e w1 ⟨rfl, hb1⟩
    have HB1 := Lib.hid (HB0.out.trans (hb1.mono HB0.out.size))
    clear hb1
    go_wp2
    go_ret2
    exact ⟨ret_two'Z45 e1.out rfl, HB1.out⟩

end Go.Proofs.Ytnbjnlgdolhlmaa

namespace Go.Proofs.Ytnbjnlgdolhlmaa
open Go.RowKit
set_option linter.unusedVariables false

set_option maxHeartbeats 400000 in
theorem perfectState_calls (k a : Int) (n : Nat) (w : World) (hn : n ≤ 8) :
    Calls Try.prog 49 #[.int .i64 k, .int .i64 n, .int .i64 a] w fun e w' => ∃ A c, e = .returned (.agg #[.int .i64 k, .slice A n c]) ∧ Own w.heap.size w' A n c (List.replicate n a) ∧ Below w.heap.size w w' := by
  have hmk := run_make_row' (P := Try.prog) 24 2 (.int .i64 0) 8 Try.underlying24 Try.infoI rfl .i64 .i64 n (by omega) (by omega)
  go_enter Try.func49, Try.ntmps49
  go_wp2
  go_loopw [8, 13] (fun _ i wr => ∃ j : Nat, j ≤ n ∧ i = .int .i64 j ∧ wr.rowIs (w.heap.size + 1) 2 n (upto (List.replicate n a) j) ∧ Box wr w.heap.size 26 #[.int .i64 0, .slice none 0 0] ∧ Below w.heap.size w wr) (fun _ i _ => n - (intOf i).toNat)
  case atStart =>
    have e1 : Box (w.alloc (.cells #[.int .i64 0, .slice none 0 0] 26)) w.heap.size 26 #[.int .i64 0, .slice none 0 0] := Box.new _ _ _
    have e2 := World.rowIs_made (w.alloc (.cells #[.int .i64 0, .slice none 0 0] 26)) (.int .i64 0) n 2
    rw [World.size_alloc] at e2
    exact ⟨0, Nat.zero_le _, rfl, e2.congr (fun i _ => by simp [upto]), e1.alloc _, ((Below.refl _ _).alloc (Nat.le_refl _) _).alloc (by simp) _⟩
  case round =>
    obtain ⟨j, hj, rfl, hrow, hbx, hb⟩ := hrel
    have HBX := Lib.hid hbx
    have HB := Lib.hid hb
    clear hbx hb
    by_cases hlt : j < n
    · have hfz := hrow.frozen j
      have hold := hrow.cell hlt
      have HR := Lib.hid hrow
      clear hrow
      have hst := Lib.hid (upto_step (List.replicate n a) j)
      have hat : Hid ((List.replicate n a)[j]?.getD 0 = a) := by unfold Hid; simp [hlt]
      go_wp2
      go_roundw
      case rel =>
        refine ⟨j + 1, by omega, by go_num, (HR.out.set j _).congr (fun i _ => ?_), HBX.out.other (by simp) _, HB.out.setCell (by simp) _⟩
        have := hst.out i
        rw [hat.out] at this
        exact this
      case measure => simp [intOf]; omega
    · obtain rfl : j = n := by omega
      have HR := Lib.hid hrow
      clear hrow
      obtain ⟨r0, r1, g0, g1⟩ := HBX.out.two
      go_wp2
      have hrow' : Row wr (w.heap.size + 1) 2 (List.replicate j a) := by
        unfold Row
        rw [List.length_replicate]
        exact HR.out.congr (fun i hi => by simp [upto, hi])
      have hown := hrow'.own (B := w.heap.size) (by omega) (by simp; omega)
      rw [List.length_replicate] at hown
      refine bodyPost_ret (v := .agg #[.int .i64 k, .slice (some ⟨w.heap.size + 1, 0, none⟩) j j]) (by simp [results, Try.results49, go_sem, r0, r1]) rfl ⟨_, _, rfl, ?_, ?_⟩
      · exact (hown.setBoxed HBX.out (by decide) _ _).setBoxed (HBX.out.set _ _) (by decide) _ _
      · exact (HB.out.setCell (Nat.le_refl _) _).setCell (Nat.le_refl _) _

/-- What PerfectState answers. -/
def perfB (k n a : Int) : Bool := fitsB k n && inB a 0 (k - 1)
def perfP (k n a : Int) : Int := if perfB k n a = true then k else 0
def perfL (k n a : Int) : List Int := if perfB k n a = true then List.replicate n.toNat a else []
def perfE (k n a : Int) : Int := if perfB k n a = true then 0 else 2
theorem perfL_len (k n a : Int) : (perfL k n a).length ≤ 1048576 := by
  unfold perfL
  by_cases h : perfB k n a = true
  · rw [if_pos h, List.length_replicate]
    unfold perfB at h
    simp only [Bool.and_eq_true] at h
    have := fitsB_bd h.1
    omega
  · rw [if_neg h]; simp
theorem perf_yes {k n a : Int} (h : perfB k n a = true) : perfP k n a = k ∧ perfL k n a = List.replicate n.toNat a ∧ perfE k n a = 0 := by unfold perfP perfL perfE; simp [h]
theorem perf_no {k n a : Int} (h : perfB k n a = false) : perfP k n a = 0 ∧ perfL k n a = [] ∧ perfE k n a = 2 := by unfold perfP perfL perfE; simp [h]

/-- The answer where there is none: no state, and a code. -/
theorem retState_zero {w w' : World} {e : Ending} {E : Int} (he : e = .returned (.tuple #[.agg #[.int .i64 0, .slice none 0 0], .int .i64 E])) (hb : Below w.heap.size w w') : RetState w 0 ([] : List Int).length [] E e w' :=
  ⟨none, 0, he, Own.nilS _ _, hb⟩

set_option maxHeartbeats 400000 in
theorem implPerfectState_ret (k n a : Int) (w : World) :
    Calls Try.prog 24 #[.int .i64 k, .int .i64 n, .int .i64 a] w (RetState w (perfP k n a) (perfL k n a).length (perfL k n a) (perfE k n a)) := by
  have hbx : Box (w.alloc (.cells #[.int .i64 0, .slice none 0 0] 26)) w.heap.size 26 #[.int .i64 0, .slice none 0 0] := Box.new _ _ _
  have hb0 : Below w.heap.size w (w.alloc (.cells #[.int .i64 0, .slice none 0 0] 26)) := (Below.refl _ _).alloc (Nat.le_refl _) _
  have HBX := Lib.hid hbx
  have HB0 := Lib.hid hb0
  clear hbx hb0
  by_cases hf : fitsB k n = true
  · have hbd := fitsB_bd hf
    by_cases hp : inB a 0 (k - 1) = true
    · obtain ⟨q1, q2, q3⟩ := perf_yes (k := k) (n := n) (a := a) (by unfold perfB; rw [hf, hp]; rfl)
      obtain ⟨m, rfl⟩ := Int.eq_ofNat_of_zero_le hbd.2.2.1
      rw [q1, q2, q3, Int.toNat_natCast, List.length_replicate]
      have hpg : pegB k a = true := by rw [pegB_in]; exact hp
      clear q1 q2 q3 hp
      go_enter Try.func24, Try.ntmps24
      go_wp2_with fail
      refine (numberOfStates_calls k m _).mono ?_
      rintro e w' ⟨rfl, rfl⟩
      go_wp2_with fail
      refine (isPeg_calls k a _).mono ?_
      rintro e w' ⟨rfl, rfl⟩
      go_wp2_with fail
      refine (perfectState_calls k a m _ (by omega)).mono ?_
      rintro e w1 ⟨A, c, rfl, hO, hb⟩
      have HBX1 := Lib.hid (HBX.out.below hb (by simp))
      have HO := Lib.hid hO
      have HB := Lib.hid (HB0.out.trans (hb.mono (by simp)))
      obtain ⟨r0, r1, g0, g1⟩ := HBX1.out.two
      clear hO hb
      go_wp2
      refine bodyPost_ret (v := .tuple #[.agg #[.int .i64 k, .slice A m c], .int .i64 0]) (by simp [results, Try.results24, go_sem, r0, r1]) rfl ⟨A, c, rfl, ?_, ?_⟩
      · have h2 := HO.out.mono (B' := w.heap.size) (by simp)
        exact (h2.setBoxed HBX1.out (by decide) _ _).setBoxed (HBX1.out.set _ _) (by decide) _ _
      · exact (HB.out.setCell (Nat.le_refl _) _).setCell (Nat.le_refl _) _
    · have hp' : inB a 0 (k - 1) = false := by simpa using hp
      obtain ⟨q1, q2, q3⟩ := perf_no (k := k) (n := n) (a := a) (by unfold perfB; rw [hf, hp']; rfl)
      rw [q1, q2, q3]
      have hpg : pegB k a = false := by rw [pegB_in]; exact hp'
      clear q1 q2 q3 hp hp'
      go_enter Try.func24, Try.ntmps24
      go_wp2_with fail
      refine (numberOfStates_calls k n _).mono ?_
      rintro e w' ⟨rfl, rfl⟩
      go_wp2_with fail
      refine (isPeg_calls k a _).mono ?_
      rintro e w' ⟨rfl, rfl⟩
      go_wp2
      refine bodyPost_ret (v := .tuple #[.agg #[.int .i64 0, .slice none 0 0], .int .i64 2]) (by simp [results, Try.results24, go_sem]) rfl (retState_zero rfl ?_)
      first | exact HB0.out | exact (HB0.out.setCell (Nat.le_refl _) _).setCell (Nat.le_refl _) _
  · have hf' : fitsB k n = false := by simpa using hf
    obtain ⟨q1, q2, q3⟩ := perf_no (k := k) (n := n) (a := a) (by unfold perfB; rw [hf']; rfl)
    rw [q1, q2, q3]
    clear q1 q2 q3 hf
    go_enter Try.func24, Try.ntmps24
    go_wp2_with fail
    refine (numberOfStates_calls k n _).mono ?_
    rintro e w' ⟨rfl, rfl⟩
    go_wp2
    refine bodyPost_ret (v := .tuple #[.agg #[.int .i64 0, .slice none 0 0], .int .i64 2]) (by simp [results, Try.results24, go_sem]) rfl (retState_zero rfl ?_)
    first | exact HB0.out | exact (HB0.out.setCell (Nat.le_refl _) _).setCell (Nat.le_refl _) _

end Go.Proofs.Ytnbjnlgdolhlmaa

namespace Go.Proofs.Ytnbjnlgdolhlmaa
open Go.RowKit
set_option linter.unusedVariables false

theorem nb_dR {p q : Int} {L M : List Int} (h : code2 p L q M = 0) : nwV 0 min p L q M = dR L M := by unfold nwV dR; rw [if_pos h]
theorem dp_is {p a : Int} {L : List Int} (h : codeW p L a = 0) : dpV p L a = distP L a := by unfold dpV; rw [if_pos h]
/-- Where IsOnWay has an answer, both distances to the peg have one, and it is yes if, and only if, they add up. -/
theorem fw_on {p q a : Int} {L M : List Int} (h : owE p L a q M = 0) : code2 p L q M = 0 ∧ codeW p L a = 0 ∧ codeW q M a = 0 ∧ (owV p L a q M = true ↔ nwV 0 min p L q M + dpV q M a = dpV p L a) := by
  have h2 : code2 p L q M = 0 := by
    by_cases e : code2 p L q M = 0
    · exact e
    · unfold owE at h; rw [if_neg e] at h; exact absurd h e
  have ha : inB a 0 2 = true := by
    unfold owE at h
    rw [if_pos h2] at h
    split at h
    · assumption
    · omega
  obtain ⟨hs, ht, rfl, rfl, hl⟩ := code2_zero h2
  have ha2 : 0 ≤ a ∧ a ≤ 2 := by unfold inB at ha; simpa using ha
  have c1 : codeW 3 L a = 0 := by unfold codeW code1; rw [if_pos hs, if_pos rfl, if_pos rfl, if_pos ha]
  have c2 : codeW 3 M a = 0 := by unfold codeW code1; rw [if_pos ht, if_pos rfl, if_pos rfl, if_pos ha]
  refine ⟨h2, c1, c2, ?_⟩
  rw [nb_dR h2, dp_is c1, dp_is c2]
  unfold owV
  rw [if_pos ⟨h2, ha⟩]
  exact on_dist L.length L M rfl hl.symm (state_pegsOk hs) (state_pegsOk ht) a ha2
/-- Where WayToPeg has an answer, it has as many moves as the distance, is legal, and leads to the perfect state. -/
theorem fw_way {p a : Int} {L : List Int} (h : codeW p L a = 0) : p = 3 ∧ stateB 3 L = true ∧ ((wayL L a).length : Int) = dpV p L a ∧ okA 3 L (wayL L a) (wayL L a).length = true ∧ stA L (wayL L a) (wayL L a).length = List.replicate L.length a ∧
    perfP 3 L.length a = 3 ∧ perfL 3 L.length a = List.replicate L.length a ∧ perfE 3 L.length a = 0 := by
  obtain ⟨hs, rfl, ha⟩ := codeW_zero h
  have hp := state_pegsOk hs
  obtain ⟨r1, r2⟩ := way_run a ha _ L rfl hp
  have h0 := distP_nonneg L a
  have hB : perfB 3 L.length a = true := by
    have hf := stateB_fits hs
    unfold perfB inB
    rw [hf]
    simp
    omega
  refine ⟨rfl, hs, ?_, r1, r2, by unfold perfP; rw [if_pos hB], ?_, by unfold perfE; rw [if_pos hB]⟩
  · rw [wayL_len, dp_is h]; omega
  · unfold perfL; rw [if_pos hB, Int.toNat_natCast]

end Go.Proofs.Ytnbjnlgdolhlmaa

namespace Go.Proofs.Ytnbjnlgdolhlmaa
open Go.RowKit
set_option linter.unusedVariables false

def goE (p : Int) (L : List Int) (a : Int) : Int := codeW p L a
def goL (p : Int) (L : List Int) (a : Int) : List Int := if codeW p L a = 0 then goalsL L a else []
theorem goL_len (p : Int) (L : List Int) (a : Int) (h : L.length ≤ 1048576) : (goL p L a).length ≤ 1048576 := by
  unfold goL
  split
  · rw [goalsL_len]; exact h
  · simp

set_option maxHeartbeats 1000000 in
theorem specGoalsOf_ret (A : Option Addr) (n c : Nat) (p : Int) (L : List Int) (a : Int) (w : World) (hL : L.length = n) (hn : n ≤ 1048576) (hI : Ints w A L) :
    Calls Try.prog 13 #[.agg #[.int .i64 p, .slice A n c], .int .i64 a] w (RetInts w (goL p L a).length (goL p L a) (goE p L a)) := by
  have HL := Lib.hid hL
  have X0 := Lib.hid (Box.new w 26 #[.int .i64 p, .slice A n c])
  have HB0 := Lib.hid ((Below.refl _ w).alloc (Nat.le_refl _) (.cells #[.int .i64 p, .slice A n c] 26))
  have HI0 := Lib.hid (hI.below HB0.out)
  clear hL hI
  by_cases hz : codeW p L a = 0
  · obtain ⟨hs, hp, ha⟩ := codeW_zero hz
    have e1 : goL p L a = goalsL L a := by unfold goL; rw [if_pos hz]
    have e2 : goE p L a = 0 := hz
    rw [e1, e2, goalsL_len, HL.out]
    have hz' : (codeW p L a != 0) = false := by simpa using hz
    subst hp
    have h8 := (state_facts hs HL.out).2.2.1
    have HP := Lib.hid (state_pegsOk hs)
    clear e1 e2 hz hs
    go_enter Try.func13, Try.ntmps13
    go_wp2_with fail
    refine (l02With_calls A n c 3 L a _ HL.out hn HI0.out).mono ?_
    rintro e w1 ⟨rfl, hb1⟩
    have X1 := Lib.hid (X0.out.below hb1 X0.out.lt)
    have HB1 := Lib.hid (HB0.out.trans (hb1.mono HB0.out.size))
    have HI1 := Lib.hid (HI0.out.below hb1)
    clear hb1
    obtain ⟨x0, x1, _, _⟩ := X1.out.two
    go_wp2_with fail
    refine (l02Goals_calls A n c L a _ HL.out h8 HI1.out HP.out ha).mono ?_
    rintro e w2 ⟨g, rfl, hg, hrow, hb2⟩
    have HB2 := Lib.hid (HB1.out.trans (hb2.mono HB1.out.size))
    have hrow' := hrow.own (B := w.heap.size) (Nat.le_trans HB1.out.size hg) (by rw [goalsL_len, HL.out]; exact hn)
    rw [goalsL_len, HL.out] at hrow'
    have HR := Lib.hid hrow'
    clear hb2 hrow hrow' hg
    go_wp2
    go_ret2
    exact ⟨_, _, rfl, HR.out, HB2.out⟩
  · have hz' : (codeW p L a != 0) = true := by simpa using hz
    have e1 : goL p L a = [] := by unfold goL; rw [if_neg hz]
    rw [e1]
    clear e1
    show Calls _ _ _ _ (RetInts w ([] : List Int).length [] (codeW p L a))
    go_enter Try.func13, Try.ntmps13
    go_wp2_with fail
    refine (l02With_calls A n c p L a _ HL.out hn HI0.out).mono ?_
    rintro e w1 ⟨rfl, hb1⟩
    have HB1 := Lib.hid (HB0.out.trans (hb1.mono HB0.out.size))
    clear hb1
    go_wp2
    go_ret2
    exact retInts_zero rfl HB1.out

set_option maxHeartbeats 1000000 in
theorem implGoalsOf_ret (A : Option Addr) (n c : Nat) (p : Int) (L : List Int) (a : Int) (w : World) (hL : L.length = n) (hn : n ≤ 1048576) (hI : Ints w A L) :
    Calls Try.prog 12 #[.agg #[.int .i64 p, .slice A n c], .int .i64 a] w (RetInts w (goL p L a).length (goL p L a) (goE p L a)) := by
  have HL := Lib.hid hL
  have X0 := Lib.hid ((Box.new w 26 #[.int .i64 p, .slice A n c]).alloc (.cells #[.int .i64 p, .slice A n c] 26))
  have hX : Box ((w.alloc (.cells #[.int .i64 p, .slice A n c] 26)).alloc (.cells #[.int .i64 p, .slice A n c] 26)) (w.heap.size + 1) 26 #[.int .i64 p, .slice A n c] := by
    have := Box.new (w.alloc (.cells #[.int .i64 p, .slice A n c] 26)) 26 #[.int .i64 p, .slice A n c]
    rwa [World.size_alloc] at this
  have Y0 := Lib.hid hX
  have HB0 := Lib.hid (((Below.refl _ w).alloc (Nat.le_refl _) (.cells #[.int .i64 p, .slice A n c] 26)).alloc (by simp) (.cells #[.int .i64 p, .slice A n c] 26))
  have HI0 := Lib.hid (hI.below HB0.out)
  clear hL hI hX
  by_cases hz : codeW p L a = 0
  · obtain ⟨hs, hp, ha⟩ := codeW_zero hz
    have e1 : goL p L a = goalsL L a := by unfold goL; rw [if_pos hz]
    have e2 : goE p L a = 0 := hz
    rw [e1, e2, goalsL_len, HL.out]
    have hz' : (codeW p L a != 0) = false := by simpa using hz
    subst hp
    have h8 := (state_facts hs HL.out).2.2.1
    have HP := Lib.hid (state_pegsOk hs)
    clear e1 e2 hz hs
    go_enter Try.func12, Try.ntmps12
    go_wp2_with fail
    refine (codeOfPeg_one (w.heap.size + 1) A n c 3 L a _ Y0.out HL.out hn HI0.out).mono ?_
    rintro e w1 ⟨rfl, hb1⟩
    have X1 := Lib.hid (X0.out.below hb1 X0.out.lt)
    have HB1 := Lib.hid (HB0.out.trans (hb1.mono HB0.out.size))
    have HI1 := Lib.hid (HI0.out.below hb1)
    clear hb1
    obtain ⟨x0, x1, _, _⟩ := X1.out.two
    go_wp2_with fail
    refine (goalsOf_calls A n c L a _ HL.out h8 HI1.out HP.out ha).mono ?_
    rintro e w2 ⟨g, rfl, hg, hrow, hb2⟩
    have HB2 := Lib.hid (HB1.out.trans (hb2.mono HB1.out.size))
    have hrow' := hrow.own (B := w.heap.size) (Nat.le_trans HB1.out.size hg) (by rw [goalsL_len, HL.out]; exact hn)
    rw [goalsL_len, HL.out] at hrow'
    have HR := Lib.hid hrow'
    clear hb2 hrow hrow' hg
    go_wp2
    go_ret2
    exact ⟨_, _, rfl, HR.out, HB2.out⟩
  · have hz' : (codeW p L a != 0) = true := by simpa using hz
    have e1 : goL p L a = [] := by unfold goL; rw [if_neg hz]
    rw [e1]
    clear e1
    show Calls _ _ _ _ (RetInts w ([] : List Int).length [] (codeW p L a))
    go_enter Try.func12, Try.ntmps12
    go_wp2_with fail
    refine (codeOfPeg_one (w.heap.size + 1) A n c p L a _ Y0.out HL.out hn HI0.out).mono ?_
    rintro e w1 ⟨rfl, hb1⟩
    have HB1 := Lib.hid (HB0.out.trans (hb1.mono HB0.out.size))
    clear hb1
    go_wp2
    go_ret2
    exact retInts_zero rfl HB1.out

end Go.Proofs.Ytnbjnlgdolhlmaa

namespace Go.Proofs.Ytnbjnlgdolhlmaa
open Go.RowKit
set_option linter.unusedVariables false
set_option maxRecDepth 100000

/-- The length that a slice names. -/
def lnW : Value → Nat
  | .slice _ n _ => n
  | _ => 0
theorem OwnG.drewW {e size B n c : Nat} {w : World} {A : Option Addr} {xs : List Value} (h : OwnG e size B w A n c xs) : OwnG e size B w.drew A n c xs := h
theorem OwnG.otherW {e e' size size' B B' : Nat} {w w1 : World} {o : Obj} {A A' : Option Addr} {n c n' c' : Nat} {xs xs' : List Value} (h : OwnG e size B w A n c xs) (h' : OwnG e' size' B' w A' n' c' xs') (hg : (w.alloc o).grownBy w1 (Value.slice A' n' c').ownBlock) (ht : e ≠ e') : OwnG e size B w1 A n c xs := by
  refine (h.alloc o).kept hg ?_
  rintro g rfl hr
  rcases h'.form with ⟨rfl, rfl, rfl⟩ | ⟨g', rfl, _, _⟩
  · simp [Value.ownBlock] at hr
  · simp only [Value.ownBlock, Option.some.injEq] at hr
    subst hr
    rcases h.2 with ⟨hv, _⟩ | ⟨g1, cap, cur, hv, _, hh, _⟩
    · simp at hv
    · injection hv with h1
      injection h1 with h1
      injection h1 with h1
      subst h1
      rcases h'.2 with ⟨hv2, _⟩ | ⟨g2, cap2, cur2, hv2, _, hh2, _⟩
      · simp at hv2
      · injection hv2 with h1
        injection h1 with h1
        injection h1 with h1
        subst h1
        rw [hh] at hh2
        injection hh2 with hh2
        injection hh2 with _ h3
        exact ht h3
theorem grown_undrewW {w w' : World} {r : Option Nat} (h : w.drew.grownBy w' r) : w.grownBy w' r := ⟨h.os, h.tape, h.output, h.size, h.block⟩
theorem own_of_row {w : World} {g : Nat} {L : List Int} {B n : Nat} (h : Row w g 2 L) (hB : B ≤ g) (hL : L.length = n) (hn : n ≤ 8) : OwnG 2 1 B w (some ⟨g, 0, none⟩) n n (L.map (Value.int .i64)) := by
  subst hL
  exact Row.own h hB (by omega)
theorem intsW {B : Nat} {w : World} {A : Option Addr} {n c : Nat} {L : List Int} (h : OwnG 2 1 B w A n c (L.map (Value.int .i64))) : Ints w A L := Own.ints (B := B) (n := n) (c := c) h

theorem neW {e e' size size' B B' n c n' c' g g' : Nat} {w : World} {xs xs' : List Value} (h : OwnG e size B w (some ⟨g, 0, none⟩) n c xs) (h' : OwnG e' size' B' w (some ⟨g', 0, none⟩) n' c' xs') (ht : e ≠ e') : g ≠ g' := by
  rintro rfl
  rcases h.2 with ⟨hv, _⟩ | ⟨g1, cap, cur, hv, _, hh, _⟩
  · simp at hv
  · injection hv with h1
    injection h1 with h1
    injection h1 with h1
    subst h1
    rcases h'.2 with ⟨hv2, _⟩ | ⟨g2, cap2, cur2, hv2, _, hh2, _⟩
    · simp at hv2
    · injection hv2 with h1
      injection h1 with h1
      injection h1 with h1
      subst h1
      rw [hh] at hh2
      injection hh2 with hh2
      injection hh2 with _ h3
      exact ht h3

theorem ownAtW {B : Nat} {w : World} {A : Option Addr} {n c : Nat} {L : List Int} (h : OwnG 2 1 B w A n c (L.map (Value.int .i64))) (hL : L.length = n) {k : Nat} (hk : k < n) : ∃ g, A = some ⟨g, 0, none⟩ ∧ B ≤ g ∧ g < w.heap.size ∧ w.cell? ⟨g, k, none⟩ = some (.int .i64 (L[k]?.getD 0)) := by
  obtain ⟨g, h1, h2, h3, h4⟩ := OwnG.cell h k (by omega)
  refine ⟨g, h1, h2, h3, ?_⟩
  rw [h4, List.getElem?_map, List.getElem?_eq_getElem (by omega)]
  rfl

set_option maxHeartbeats 4000000 in
theorem l02Way_calls (A : Option Addr) (n c : Nat) (L : List Int) (a : Int) (w : World) (hL : L.length = n) (hn : n ≤ 8) (hA : A = none → c = 0) (hI : Ints w A L) (hp : pegsOk L) (ha : 0 ≤ a ∧ a ≤ 2) :
    Calls Try.prog 31 #[.slice A n c, .int .i64 a] w fun e w' => ∃ A' c', e = .returned (.slice A' (wayL L a).length c') ∧ OwnM w.heap.size w' A' (wayL L a).length c' (wayL L a) ∧ Below w.heap.size w w' := by
  obtain ⟨i0, hi, hz0, hz1, hz2⟩ := info_parts Try.infoM
  have HL := Lib.hid hL
  have HP := Lib.hid hp
  have HWL := Lib.hid (show (wayL L a).length ≤ 255 from wayL_bd (by omega))
  clear hL hp
  go_enter Try.func31, Try.ntmps31
  go_wp2_with fail
  refine (l01Own_calls A n c L _ HL.out (by omega) hA hI).mono ?_
  rintro e w1 ⟨An, cn, rfl, hO, hb⟩
  have HO0 := Lib.hid (show OwnG 2 1 w.heap.size w1 An n cn (L.map (Value.int .i64)) from hO)
  have HB0 := Lib.hid hb
  have hs1 := hb.size
  clear hO hb hI
  go_wp2_with fail
  go_loopw [6, 7, 8] (fun o _ _ wr => ∃ (Lc : List Int) (M : List Mv) (A' : Option Addr) (q c' : Nat), o = .slice A' q c' ∧ Hid (wayL L a = M ++ wayL Lc a) ∧ Hid (Lc.length = n) ∧ Hid (pegsOk Lc) ∧ OwnM w.heap.size wr A' q c' M ∧ OwnG 2 1 w.heap.size wr An n cn (Lc.map (Value.int .i64)) ∧ Below w.heap.size w wr) (fun o _ _ _ => 255 - lnW o)
  case atStart =>
    have e2 := Box.new w1 39 #[]
    exact ⟨L, [], _, _, _, rfl, Lib.hid rfl, HL, HP, OwnG.emptyAt e2 hs1, OwnG.alloc HO0.out _, HB0.out.alloc hs1 _⟩
  case round =>
    obtain ⟨Lc, M, A', q, c', rfl, HW, HLc, HPc, hM, hN, hb⟩ := hrel
    have HM := Lib.hid hM
    have HN := Lib.hid hN
    have HB := Lib.hid hb
    have hsr := hb.size
    clear hM hN hb HO0 HB0
    go_wp2_with fail
    refine (l02Goals_calls An n cn Lc a _ HLc.out hn (intsW HN.out) HPc.out ha).mono ?_
    rintro e w2 ⟨g, rfl, hg, hrow, hb2⟩
    have HG := Lib.hid (own_of_row (B := w.heap.size) hrow (by omega) (by rw [goalsL_len]; exact HLc.out) hn)
    have HM2 := Lib.hid (OwnG.below HM.out hb2)
    have HN2 := Lib.hid (OwnG.below HN.out hb2)
    have HB2 := Lib.hid (HB.out.trans (hb2.mono hsr))
    have hs2 := HB2.out.size
    have HD := Lib.hid (show ∃ G, goalsL Lc a = G ∧ True from ⟨_, rfl, trivial⟩)
    clear hg hrow hb2 HM HN HB
    go_wp2
    go_loopw [8] (fun d wr' => ∃ j : Nat, j ≤ n ∧ d = .int .i64 j ∧ Hid (∀ i, i < j → Lc[i]?.getD 0 = (goalsL Lc a)[i]?.getD 0) ∧ ∃ m, wr' = w2.drewN m) (fun d _ => n - (intOf d).toNat)
    case atStart => exact ⟨0, Nat.zero_le _, rfl, Lib.hid (fun i hi => absurd hi (by omega)), 0, rfl⟩
    case round =>
      obtain ⟨j, hj, rfl, HS, m, rfl⟩ := hrel
      by_cases hlt : j < n
      · obtain ⟨gn, rfl, hBn, hgnl, hcn⟩ := ownAtW HN2.out HLc.out hlt
        obtain ⟨_, hag, hBg, hgl, hcg⟩ := ownAtW HG.out (by rw [goalsL_len]; exact HLc.out) hlt
        injection hag with hag
        injection hag with hag
        subst hag
        have hk0 : (0 : Int) ≤ (j : Int) := by omega
        have hk1 : (j : Int) < (n : Int) := by omega
        by_cases hne : Lc[j]?.getD 0 = (goalsL Lc a)[j]?.getD 0
        · have ht : (Lc[j]?.getD 0 == (goalsL Lc a)[j]?.getD 0) = true := by simpa using hne
          have HS2 := Lib.hid (show ∀ i, i < j + 1 → Lc[i]?.getD 0 = (goalsL Lc a)[i]?.getD 0 from fun i hi => by
            by_cases h : i = j
            · rw [h]; exact hne
            · exact HS.out i (by omega))
          clear hne
          go_wp2_with fail
          go_quiet (fail)
          go_wp2
          go_roundw
          case rel => exact ⟨j + 1, by omega, by go_num, HS2, by first | exact ⟨_, rfl⟩ | exact ⟨_, World.drewN_drewN _ _ _⟩⟩
          case measure => simp [intOf]; omega
        · have ht : (Lc[j]?.getD 0 == (goalsL Lc a)[j]?.getD 0) = false := by simpa using hne
          have HF := Lib.hid (fdW_is Lc a (by rw [HLc.out]; exact hlt) HS.out hne)
          clear hne
          go_wp2_with fail
          go_quiet (fail)
          go_wp2
          generalize hWW : w2.drewN _ = W
          have HMW := Lib.hid (show OwnM w.heap.size W A' q c' M by rw [← hWW]; exact HM2.out)
          have HNW := Lib.hid (show OwnG 2 1 w.heap.size W (some ⟨gn, 0, none⟩) n cn (Lc.map (Value.int .i64)) by rw [← hWW]; exact HN2.out)
          have HGW := Lib.hid (show OwnG 2 1 w.heap.size W (some ⟨g, 0, none⟩) n n ((goalsL Lc a).map (Value.int .i64)) by rw [← hWW]; exact HG.out)
          have HBW := Lib.hid (show Below w.heap.size w W by rw [← hWW]; exact belowDraws HB2.out _)
          have hszW := HBW.out.size
          have HQ := Lib.hid (OwnM.len HM2.out)
          have hmore := wayL_more HPc.out ha (by rw [HF.out, HLc.out]; exact hlt)
          have HMV := Lib.hid (show mvW Lc a = ((j : Int), Lc[j]?.getD 0, (goalsL Lc a)[j]?.getD 0) by unfold mvW; rw [HF.out])
          have HST := Lib.hid (show stepW Lc a = Lc.set j ((goalsL Lc a)[j]?.getD 0) by unfold stepW; rw [HF.out])
          have HW' := Lib.hid (show wayL L a = (M ++ [((j : Int), Lc[j]?.getD 0, (goalsL Lc a)[j]?.getD 0)]) ++ wayL (stepW Lc a) a by rw [HW.out, hmore, HMV.out]; simp)
          have HLs := Lib.hid (show (stepW Lc a).length = n by rw [stepW_len]; exact HLc.out)
          have HPs := Lib.hid (stepW_pegs Lc a HPc.out ha)
          have hq : q < 255 := by
            have h1 := HWL.out
            rw [HW'.out] at h1
            simp only [List.length_append, List.length_cons, List.length_nil, HQ.out] at h1
            omega
          clear hcn hcg hmore hWW HM2 HN2 HG HB2 hgnl hgl HS ht
          obtain ⟨_, h0, _, hgnl, hcn⟩ := ownAtW HNW.out HLc.out hlt
          injection h0 with h0
          injection h0 with h0
          subst h0
          obtain ⟨_, h0, _, hgl, hcg⟩ := ownAtW HGW.out (by rw [goalsL_len]; exact HLc.out) hlt
          injection h0 with h0
          injection h0 with h0
          subst h0
          have HGOAL := Lib.hid (show (goalsL Lc a)[j]?.getD 0 = (goalsL Lc a)[j]?.getD 0 from rfl)
          go_region_law ((refine step_append_lies _ (by rfl) _ _ _ (by rfl) w.heap.size 39 i0 (.agg #[.int .i64 0, .int .i64 0, .int .i64 0]) 3 24 Try.underlying29 hi hz0 hz1 hz2 rfl (by decide) (.slice A' q c') q (mvCells M) (by rfl) ((OwnG.alloc HMW.out _).drewW) ⟨W.heap.size, 0, none⟩ 1 1 [.int .i64 j, .int .i64 (Lc[j]?.getD 0), .int .i64 ((goalsL Lc a)[j]?.getD 0)] (by rfl) (by rfl) (World.news_of_block (cs := #[.int .i64 j, .int .i64 (Lc[j]?.getD 0), .int .i64 ((goalsL Lc a)[j]?.getD 0)]) (t := 39) (fr := (0, 0)) (heap_alloc_new W _)) (by simp [Value.oneCell']) (by omega) (by unfold maxLen; omega) (by omega) (by simp; omega) (W.heap.size + 1) (by simp) ?_; intro gg cap w4 hown1 hgrow hat hlt2; have O4 := Lib.hid hown1; have HGR := Lib.hid (grown_undrewW hgrow); clear hown1 hgrow hat))
          all_goals
            have B4 := Lib.hid (HBW.out.trans (OwnG.grown_below HMW.out HGR.out (Nat.le_refl _) hszW))
            have N4 := Lib.hid (OwnG.otherW HNW.out HMW.out HGR.out (by decide))
            have G4 := Lib.hid (OwnG.otherW HGW.out HMW.out HGR.out (by decide))
            have O5 := Lib.hid (show OwnM w.heap.size w4 (some ⟨gg, 0, none⟩) (q + 1) cap (M ++ [((j : Int), Lc[j]?.getD 0, (goalsL Lc a)[j]?.getD 0)]) by unfold OwnM; rw [mvCells_snoc]; exact O4.out)
            clear hcn hcg
            obtain ⟨_, h0, _, hgnl4, hcn⟩ := ownAtW N4.out HLc.out hlt
            injection h0 with h0
            injection h0 with h0
            subst h0
            obtain ⟨_, h0, _, hgl4, hcg⟩ := ownAtW G4.out (by rw [goalsL_len]; exact HLc.out) hlt
            injection h0 with h0
            injection h0 with h0
            subst h0
            have hfz := OwnG.frozen N4.out rfl j
            go_wp2
            go_roundw
            case rel =>
              refine ⟨stepW Lc a, _, _, _, _, rfl, HW', HLs, HPs, OwnG.setBox O5.out (by rintro _ h; injection h with h; injection h with h; subst h; exact neW O5.out N4.out (by decide)) _, ?_, B4.out.setCell hBn _⟩
              have st := (World.ownsRow.stored N4.out j (.int .i64 ((goalsL Lc a)[j]?.getD 0))).1
              rw [HST.out]
              rw [List.map_set]
              exact st
            case measure => simp [lnW]; omega
      · obtain rfl : j = n := by omega
        have hd : decide ((j : Int) < (j : Int)) = false := by simp
        have HF := Lib.hid (fdW_all Lc a (fun i hi => HS.out i (by rw [HLc.out] at hi; exact hi)))
        have HE := Lib.hid (show M = wayL L a by rw [HW.out, wayL_end HF.out, List.append_nil])
        have hq := OwnM.len HM2.out
        rw [HE.out] at hq
        subst hq
        go_wp2_with fail
        go_quiet (fail)
        go_wp2
        go_ret
        exact ⟨A', c', rfl, by have h := HM2.out; rw [HE.out] at h; exact h, belowDraws HB2.out _⟩

end Go.Proofs.Ytnbjnlgdolhlmaa

namespace Go.Proofs.Ytnbjnlgdolhlmaa

section
variable {P : Program} {b : Frame} {a : Act} {k : List Item} {cs : List Frame} {w : World} {Q : Exit → Act → World → Prop} {F : Fence} {n : Nat}
theorem stepR_scopeS {c : Code} : step P (lone (b.atR a (.code (.scope c) :: k)) cs w) = .next (lone (b.atR a (.code c :: .inScope c :: k)) cs w) :=
  step_lone_go (by simp [stepG, stepG.exec, Frame.atR])
theorem stepR_inScopeS {c : Code} : step P (lone (b.atR a (.inScope c :: k)) cs w) = .next (lone (b.atR a k) cs w) :=
  step_lone_go (by simp [stepG, stepG.exec, Frame.atR])

/-- The fenced twin of the base's law: what holds at every jump, with a number that every pass lowers. -/
theorem wpIn_scope_ghost {c rest : Code} (l : Nat) (J : Nat → Act → World → Prop) (hf : findLabel c l = some rest)
    (first : c.wpIn F n P (Exit.jump l (fun a' w' => ∃ j, J j a' w') Q) a w)
    (pass : ∀ j a w, J j a w → rest.wpIn F n P (Exit.jump l (fun a' w' => ∃ j', J j' a' w' ∧ j' < j) Q) a w) : (Code.scope c).wpIn F n P Q a w := by
  intro b k cs hro hb hr
  have hg : gotoIn l (.inScope c :: k) = some (.code rest :: .inScope c :: k) := by simp [gotoIn, hf]
  have hx : ∀ id, exitTo id (.inScope c :: k) = exitTo id k := fun id => by simp [exitTo]
  have key : ∀ j a w, J j a w → ∃ e a' w', Q e a' w' ∧ ArrivesIn (Machine.fenced P F) P (lone (b.atR a (.code rest :: .inScope c :: k)) cs w) b k cs e a' w' := by
    intro j
    induction j using Nat.strongRecOn with
    | _ j ih =>
      intro a w hJ
      obtain ⟨e, a₁, w₁, hq, harr⟩ := pass j a w hJ b (.inScope c :: k) cs hro hb hr
      cases e with
      | normal => exact ⟨.normal, a₁, w₁, hq, StepsIn.trans harr (.one (fenced_calm hb hr rfl) stepR_inScopeS)⟩
      | exit id => exact ⟨.exit id, a₁, w₁, hq, fun k' hk => harr.1 k' (by rw [hx]; exact hk), fun hr' hk => harr.2 hr' (by rw [hx]; exact hk)⟩
      | goto l' =>
        obtain ⟨rfl, j', hJ', hlt⟩ := hq
        obtain ⟨e₂, a₂, w₂, hq₂, harr₂⟩ := ih j' hlt a₁ w₁ hJ'
        exact ⟨e₂, a₂, w₂, hq₂, .of_steps (harr.1 _ hg) harr₂⟩
      | ret => exact ⟨_, a₁, w₁, hq, harr⟩
      | panic ch => exact ⟨_, a₁, w₁, hq, harr⟩
      | outgrown => exact ⟨_, a₁, w₁, hq, harr⟩
  have h0 : (lone (b.atR a (.code (.scope c) :: k)) cs w).fenced P F := fenced_calm hb hr rfl
  obtain ⟨e, a₁, w₁, hq, harr⟩ := first b (.inScope c :: k) cs hro hb hr
  cases e with
  | normal => exact ⟨.normal, a₁, w₁, hq, .head h0 stepR_scopeS (StepsIn.trans harr (.one (fenced_calm hb hr rfl) stepR_inScopeS))⟩
  | exit id => exact ⟨.exit id, a₁, w₁, hq, fun k' hk => .head h0 stepR_scopeS (harr.1 k' (by rw [hx]; exact hk)), fun hr' hk => let ⟨k₁, h1, h2⟩ := harr.2 hr' (by rw [hx]; exact hk); ⟨k₁, h1, .head h0 stepR_scopeS h2⟩⟩
  | goto l' =>
    obtain ⟨rfl, j', hJ'⟩ := hq
    obtain ⟨e₂, a₂, w₂, hq₂, harr₂⟩ := key j' a₁ w₁ hJ'
    exact ⟨e₂, a₂, w₂, hq₂, .of_steps (.head h0 stepR_scopeS (harr.1 _ hg)) harr₂⟩
  | ret => exact ⟨_, a₁, w₁, hq, .of_steps (.one h0 stepR_scopeS) harr⟩
  | panic ch => exact ⟨_, a₁, w₁, hq, .of_steps (.one h0 stepR_scopeS) harr⟩
  | outgrown => exact ⟨_, a₁, w₁, hq, .of_steps (.one h0 stepR_scopeS) harr⟩

/-- A scope that begins with A and has its label behind it: the rest is walked once. -/
theorem wpIn_scope_once {A R : Code} (l : Nat) (J : Nat → Act → World → Prop) (hf : findLabel (A.seq ((Code.label l).seq R)) l = some (Code.skip.seq R))
    (first : A.wpIn F n P (Exit.then (fun a' w' => ∃ j, J j a' w') (fun _ _ _ => False)) a w)
    (pass : ∀ j a w, J j a w → R.wpIn F n P (Exit.jump l (fun a' w' => ∃ j', J j' a' w' ∧ j' < j) Q) a w) : (Code.scope (A.seq ((Code.label l).seq R))).wpIn F n P Q a w := by
  refine wpIn_scope_ghost l J hf (wpIn_seq (wpIn_mono first ?_)) (fun j a w h => wpIn_seq (wpIn_skip (pass j a w h)))
  rintro (_ | _ | _ | _ | _ | _) a w h <;> first | exact h.elim | skip
  obtain ⟨j, h⟩ := h
  refine wpIn_seq (wpIn_label (wpIn_mono (pass j a w h) ?_))
  rintro (_ | _ | _ | _ | _ | _) a w h <;> first | exact h | skip
  obtain ⟨h1, j', h2, _⟩ := h
  exact ⟨h1, j', h2⟩
end

end Go.Proofs.Ytnbjnlgdolhlmaa

namespace Go.Proofs.Ytnbjnlgdolhlmaa
open Go.RowKit
set_option linter.unusedVariables false
set_option maxRecDepth 100000

theorem OwnG.grown_belowC {e size B : Nat} {w w1 : World} {A : Option Addr} {n c : Nat} {xs : List Value} {B0 : Nat} (h : OwnG e size B w A n c xs) (hg : w.grownBy w1 (Value.slice A n c).ownBlock) (h1 : B0 ≤ B) (h2 : B0 ≤ w.heap.size) : Below B0 w w1 := by
  refine (Below.refl B0 w).grown hg h2 (fun k hk => ?_)
  rcases h.form with ⟨rfl, rfl, rfl⟩ | ⟨g, rfl, hB, _⟩
  · simp [Value.ownBlock] at hk
  · simp only [Value.ownBlock, Option.some.injEq] at hk
    omega

set_option maxHeartbeats 1000000 in
theorem clone_calls (ad : Addr) (n c : Nat) (L : List Int) (w : World) (hL : L.length = n) (hn : n ≤ 1000) (hI : Ints w (some ad) L) :
    Calls Try.prog 54 #[.slice (some ad) n c] w fun e w' => ∃ A c', e = .returned (.slice A n c') ∧ Own w.heap.size w' A n c' L ∧ Below w.heap.size w w' := by
  obtain ⟨i0, hi, hz0, hz1, hz2⟩ := info_parts Try.infoI
  have HL := Lib.hid hL
  have hb0 := (Below.refl w.heap.size w).alloc (Nat.le_refl _) (.cells #[] 2)
  have HI := Lib.hid (hI.below hb0)
  have HB := Lib.hid hb0
  have HO := Lib.hid (OwnG.emptyAt (e := 2) (size := 1) (Box.new w 2 #[]) (Nat.le_refl w.heap.size))
  have heq : ∀ W : World, (binOp .eql 24 (.slice (some ad) n c) (.slice none 0 0)).run Try.prog W = .ok (.bool false) W := fun W => by
    simp only [binOp]
    simp [run_equal_slice_nil W 24 2 (some ad) n c Try.underlying24]
  clear hL hI hb0
  go_enter Try.func54, Try.ntmps54
  go_wp2_with (at_builtin; refine wpList_append_own _ rfl _ _ 24 rfl w.heap.size 2 i0 (.int .i64 0) 1 8 Try.underlying24 hi hz0 hz1 hz2 rfl (by decide) _ _ _ rfl HO.out ad n c (L.map (Value.int .i64)) rfl (by simp [HL.out]) (HI.out.news) (ints_oneCell _ _) (by unfold maxLen; omega) (by omega) (by simp) ?_; intro v' w4 hown' hgrow _; obtain ⟨A4, c4, rfl⟩ := ownG_shape hown'; have HO4 := Lib.hid hown'; have HG4 := Lib.hid hgrow; clear hown' hgrow)
  go_ret
  exact ⟨A4, c4, by simp, by simpa [Own] using HO4.out, HB.out.trans (OwnG.grown_belowC HO.out HG4.out (Nat.le_refl _) (by simp))⟩

set_option maxHeartbeats 1000000 in
theorem cloneA_calls (A : Option Addr) (n c : Nat) (L : List Int) (w : World) (hL : L.length = n) (hn : n ≤ 1000) (hA : A = none → c = 0) (hI : Ints w A L) :
    Calls Try.prog 54 #[.slice A n c] w fun e w' => ∃ A' c', e = .returned (.slice A' n c') ∧ Own w.heap.size w' A' n c' L ∧ Below w.heap.size w w' := by
  rcases A with _ | ad
  · obtain rfl := hA rfl
    have hn0 : n = 0 := by
      rcases Nat.eq_zero_or_pos n with h | h
      · exact h
      · obtain ⟨_, h1, _⟩ := hI 0 (by omega)
        cases h1
    subst hn0
    obtain rfl : L = [] := List.eq_nil_of_length_eq_zero hL
    have heq : ∀ W : World, (binOp .eql 24 (.slice none 0 0) (.slice none 0 0)).run Try.prog W = .ok (.bool true) W := fun W => by
      simp only [binOp]
      simp [run_equal_slice_nil W 24 2 none 0 0 Try.underlying24]
    clear hL hI hA
    go_enter Try.func54, Try.ntmps54
    go_wp2
    go_ret
    exact ⟨none, 0, rfl, Own.nilS _ _, Below.refl _ _⟩
  · exact clone_calls ad n c L w hL hn hI

end Go.Proofs.Ytnbjnlgdolhlmaa

namespace Go.Proofs.Ytnbjnlgdolhlmaa
open Go.RowKit Go.Shelf

/-- What the iterator owes: to each round an element of which G is known there. -/
def SeqTold {α : Type} (n : Nat) (P : Program) (g : Nat) (lb : Array Value) (encs : α → Array Value) (G : List α → α → World → Prop) (Kp : World → World → Prop) (S : List α → Prop) (w : World) : Prop :=
  ∀ (l : Nat) (J : List α → World → Prop) (W : World), Below w.heap.size w W → (∀ pre A B, J pre A → Below A.heap.size A B → J pre B) →
    (∀ pre x W1, J pre W1 → G pre x W1 → YieldAt Fence.wide (n - 1) P l (encs x) W1 fun e W' => e = .returned (.bool true) ∧ J (pre ++ [x]) W' ∧ Kp W1 W') →
    J [] W → CallsIn Fence.wide n P g (#[.func (.yield l) #[] #[]] ++ lb) W fun e W' => (∃ v, e = .returned v) ∧ ∃ xs, S xs ∧ J xs W'

/-- How a round ends: it goes on. -/
def toldPost {α : Type} (B : Nat) (Kp : World → World → Prop) (I : List α → World → Prop) (xs : List α) (W : World) : Exit → Act → World → Prop
  | .normal, _, W' => KeepsFrom B W W' ∧ Kp W W' ∧ I xs W'
  | _, _, _ => False

variable {P : Program} {n : Nat}

theorem rangeFunc_told {α : Type} {g : Operand} {ps : Array Tmp} {assign body : Code} {Q : Exit → Act → World → Prop} {a : Act} {w : World} (h1 : 1 ≤ n) {gf : Nat} {lb : Array Value}
    (hg : a.eval g = .func (.func gf) #[] lb) (eg : ∀ args w, (callFunc gf args).run P w = .ok (.enter gf args) w)
    {encs : α → Array Value} {G : List α → α → World → Prop} {Kp : World → World → Prop} {S : List α → Prop} (hseq : SeqTold (n - 1) P gf lb encs G Kp S w) (hps : ∀ x, (encs x).size = ps.size)
    (hKt : ∀ {A B C : World}, Kp A B → Kp B C → Kp A C) (hKb : ∀ (W : World) (l : Nat) (o o' : Obj), w.heap.size ≤ l → W.heap[l]? = some o → o.isCells = false → o.isWalk = false → Kp W (W.putObj l o'))
    (I : List α → World → Prop) (hI : OwnFrom w.heap.size I) (h0 : I [] w) (Ax : List α → α → Act → World → Prop) (hAx : ∀ pre x a', OwnFrom w.heap.size (fun (_ : Unit) W => Ax pre x a' W))
    (hassign : ∀ (l : Nat) (pre : List α) (x : α) (W : World) (K : Act → World → Prop), I pre W → G pre x W → (∀ a' W', KeepsFrom w.heap.size W W' → Kp W W' → I pre W' → Ax pre x a' W' → K a' W') →
      assign.wpIn (Fence.wide.inRound l) (n - 1 - 1) P (Exit.then K (fun _ _ _ => False)) { tmps := (ps.zip (encs x)).foldl (fun t (p, v) => t.setIfInBounds p v) a.tmps, defers := [] } W)
    (hbody : ∀ (l : Nat) (pre : List α) (x : α) (a' : Act) (W : World), I pre W → Ax pre x a' W → body.wpIn (Fence.wide.inRound l) (n - 1 - 1) P (toldPost w.heap.size Kp I (pre ++ [x]) W) a' W)
    (hdone : ∀ (D : Nat) (xs : List α) (W : World), w.heap.size ≤ D → S xs → I xs W → W.heap[D]? = some (.deferred (some [])) → Q .normal { a with defers := { target := .collected D, args := #[] } :: a.defers } W) :
    (Code.rangeFunc g ps assign body).wpIn Fence.wide n P Q a w := by
  refine wpIn_rangeFunc fun fn hfn => ?_
  -- the record of the loop, at each of its states
  let R : LoopState → Option Code → Obj := fun st pe => .loop { state := st, pending := pe, fn, tmps := a.tmps, params := ps, assign, body, defers := w.heap.size }
  -- the two blocks of book-keeping, and the world in which the iterator is called
  let L : Nat := w.heap.size + 1
  obtain ⟨V, hV⟩ : ∃ V, (w.alloc (.deferred (some []))).alloc (R .ready none) = V := ⟨_, rfl⟩
  have bV : Below w.heap.size w V := by rw [← hV]; exact ((Below.refl _ w).alloc (Nat.le_refl _) _).alloc (by simp) _
  have kV : V.heap[w.heap.size]? = some (.deferred (some [])) := by
    rw [← hV]; exact (Below.heap_alloc _ _ _ (by simp)).trans (World.alloc_heap_new w _)
  have lV : V.heap[L]? = some (R .ready none) := by
    rw [← hV]; have := World.alloc_heap_new (w.alloc (.deferred (some []))) (R .ready none); rwa [World.size_alloc] at this
  have iV : I [] V := by rw [← hV]; exact hI.alloc _ (hI.alloc _ h0)
  -- what holds between two rounds
  let J : List α → World → Prop := fun pre W => I pre W ∧ W.heap[w.heap.size]? = some (.deferred (some [])) ∧ W.heap[L]? = some (R .ready none)
  refine ⟨L, [{ target := .collected w.heap.size, args := #[] }], V, { target := .fn (.func gf) lb, args := #[.func (.yield L) #[] #[]] }, V, gf, #[.func (.yield L) #[] #[]] ++ lb, V,
    by rw [← hV]; exact run_enterLoop_outer _ _ _ _ _, by simp only [resolve, hg]; simp [go_sem], fun _ _ => trivial, by simp [invoke, go_sem, eg], fun _ => h1, ?_⟩
  refine (hseq L J V bV (fun pre A B ⟨i, k, l⟩ hb => ⟨hI _ _ _ none i (grown_of_below hb) (fun r e => by cases e), (hb.block _ (Array.getElem?_eq_some_iff.1 k).1).trans k, (hb.block _ (Array.getElem?_eq_some_iff.1 l).1).trans l⟩) ?round ⟨iV, kV, lV⟩).mono ?_
  case round =>
    rintro pre x W ⟨i, k, l⟩ hG
    refine ⟨fn, _, assign, body, run_yield l (hps x), roundIn_of_wpIn hfn (hassign L pre x W _ i hG fun a' U kf kp iU ax => ?_)⟩
    have kU := kf.same _ _ (Nat.le_refl _) k rfl
    have lU := kf.same _ _ (Nat.le_succ _) l rfl
    have ltU := (Array.getElem?_eq_some_iff.1 lU).1
    refine ⟨_, run_beginRound lU rfl, ?_⟩
    -- the round begins: the record is busy
    obtain ⟨U2, hU2⟩ : ∃ U2, U.putObj L (R .busy none) = U2 := ⟨_, rfl⟩
    have lU2 : U2.heap[L]? = some (R .busy none) := by rw [← hU2]; exact World.putObj_heap_same ltU
    have kU2 : U2.heap[w.heap.size]? = some (.deferred (some [])) := by rw [← hU2]; exact (World.putObj_heap_other (by omega)).trans kU
    have iU2 : I pre U2 := by rw [← hU2]; exact hI.putObj _ iU (Nat.le_succ _) lU rfl
    have aU2 : Ax pre x a' U2 := by rw [← hU2]; exact (hAx pre x a').putObj (s := ()) _ ax (Nat.le_succ _) lU rfl
    have pU2 : Kp U U2 := by rw [← hU2]; exact hKb _ _ _ _ (Nat.le_succ _) lU rfl rfl
    show body.wpIn (Fence.wide.inRound L) (n - 1 - 1) P _ a' (U.putObj L (R .busy none))
    rw [hU2]
    refine wpIn_mono (hbody L pre x a' U2 iU2 aU2) ?_
    rintro (_ | _ | _ | _ | _ | _) a3 U3 hp <;> first | exact hp.elim | skip
    obtain ⟨kf3, kp3, i3⟩ := hp
    have l3 := kf3.same _ _ (Nat.le_succ _) lU2 rfl
    have k3 := kf3.same _ _ (Nat.le_refl _) kU2 rfl
    refine ⟨_, _, run_endRound none l3, rfl, ⟨hI.putObj _ i3 (Nat.le_succ _) l3 rfl, (World.putObj_heap_other (by omega)).trans k3, World.putObj_heap_same (Array.getElem?_eq_some_iff.1 l3).1⟩, ?_⟩
    exact hKt kp (hKt pU2 (hKt kp3 (hKb _ _ _ _ (Nat.le_succ _) l3 rfl rfl)))
  · rintro e W2 ⟨⟨v, rfl⟩, xs, hS, i, k, l⟩
    exact ⟨none, _, run_endLoop l (by simp), hdone _ xs _ (Nat.le_refl _) hS (hI.putObj _ i (Nat.le_succ _) l rfl) ((World.putObj_heap_other (by omega)).trans k)⟩

end Go.Proofs.Ytnbjnlgdolhlmaa
