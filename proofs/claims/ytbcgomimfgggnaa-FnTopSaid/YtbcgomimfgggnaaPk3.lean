/- Contracts: the carry of two states and both numbers, by the program. · Contracts: the one-move and the two-move number, the distance and the number of ways, by the specification's model and by the program. · Contract: the law's copy of a move. · Contracts: legal moves, by the specification's model and by the program. · Plain lists: the legal moves of a state, in their order. No program. · Plain lists: one move of the way to a perfect state lessens the distance by one. No program. -/
import Derived.Test.YtbcgomimfgggnaaPk2
import Derived.Test.YtbcgomimfgggnaaPk1
namespace Go.Proofs.Ytbcgomimfgggnaa
open Go.RowKit
open Go.RowKit (wrap64)
set_option linter.unusedVariables false
set_option maxRecDepth 100000

/-- The carry of two states: zeros, if they are equal. -/
def carryV (L M : List Int) (n : Nat) : Value :=
  if grt L M n = -1 then .agg #[.int .i64 0, .int .i64 0, .int .i64 0, .int .i64 0]
  else .agg #[.int .i64 (grt L M n), .int .i64 (L[(grt L M n).toNat]?.getD 0), .int .i64 (M[(grt L M n).toNat]?.getD 0), .int .i64 (3 - L[(grt L M n).toNat]?.getD 0 - M[(grt L M n).toNat]?.getD 0)]
theorem carryV_none {L M : List Int} {n : Nat} (h : grt L M n = -1) : carryV L M n = .agg #[.int .i64 0, .int .i64 0, .int .i64 0, .int .i64 0] := by unfold carryV; rw [if_pos h]
theorem carryV_some {L M : List Int} {n D : Nat} (h : grt L M n = D) : carryV L M n = .agg #[.int .i64 D, .int .i64 (L[D]?.getD 0), .int .i64 (M[D]?.getD 0), .int .i64 (3 - L[D]?.getD 0 - M[D]?.getD 0)] := by
  unfold carryV
  rw [if_neg (by omega), h, Int.toNat_natCast]

theorem shl_plain {k : Nat} (hk : k < 9) : IntKind.i64.wrap ((2 : Int) ^ k) = pow2 k := by
  have e3 : (2 : Int) ^ k = pow2 k := by unfold pow2; simp
  have hb := pow2_bd (k := k) (by omega)
  rw [e3]
  exact IntWalk.i64_in _ (by omega)

set_option maxHeartbeats 1000000 in
theorem carryBetween_calls (A : Option Addr) (n c : Nat) (p : Int) (L : List Int) (B : Option Addr) (d : Nat) (q : Int) (M : List Int) (w : World) (hL : L.length = n) (hM : M.length = n) (hn : n ≤ 8) (hI : Ints w A L) (hJ : Ints w B M) (hpL : pegsOk L) (hpM : pegsOk M) :
    Calls Try.prog 42 #[.agg #[.int .i64 p, .slice A n c], .agg #[.int .i64 q, .slice B n d]] w fun e w' => e = .returned (.tuple #[carryV L M n, .bool (decide (grt L M n ≠ -1))]) ∧ Below w.heap.size w w' := by
  have HL := Lib.hid hL
  have HM := Lib.hid hM
  have HPL := Lib.hid hpL
  have HPM := Lib.hid hpM
  obtain ⟨b1, b2, b3⟩ := twoBoxes w p q A B n c n d 30
  have hW : ∃ W, W = (((w.alloc (.cells #[.int .i64 p, .slice A n c] 30)).alloc (.cells #[.int .i64 q, .slice B n d] 30)).alloc (.cells #[.int .i64 0, .int .i64 0, .int .i64 0, .int .i64 0] 64)) := ⟨_, rfl⟩
  obtain ⟨W, hW⟩ := hW
  have X0 : Hid (Box W w.heap.size 30 #[.int .i64 p, .slice A n c]) := by unfold Hid; rw [hW]; exact b1.alloc _
  have Y0 : Hid (Box W (w.heap.size + 1) 30 #[.int .i64 q, .slice B n d]) := by unfold Hid; rw [hW]; exact b2.alloc _
  have R0 : Hid (Box W (w.heap.size + 1 + 1) 64 #[.int .i64 0, .int .i64 0, .int .i64 0, .int .i64 0]) := by
    unfold Hid; rw [hW]
    have := Box.new ((w.alloc (.cells #[.int .i64 p, .slice A n c] 30)).alloc (.cells #[.int .i64 q, .slice B n d] 30)) 64 #[.int .i64 0, .int .i64 0, .int .i64 0, .int .i64 0]
    simp only [World.size_alloc] at this
    exact this
  have HB0 : Hid (Below w.heap.size w W) := by unfold Hid; rw [hW]; exact b3.alloc (by simp; omega) _
  have HI0 := Lib.hid (hI.below HB0.out)
  have HJ0 := Lib.hid (hJ.below HB0.out)
  have HW := Lib.hid hW
  clear hL hM b1 b2 b3 hI hJ hW hpL hpM
  go_enter Try.func42, Try.ntmps42
  go_wp2
  rw [← HW.out]
  go_loopw [6] (fun i wr => ∃ m : Nat, m ≤ n ∧ i = .int .i64 ((m : Int) - 1) ∧ Hid (grt L M n = grt L M m) ∧ ∃ k, wr = W.drewN k) (fun i _ => (intOf i + 1).toNat)
  case atStart => exact ⟨n, Nat.le_refl _, rfl, Lib.hid rfl, 0, rfl⟩
  case round =>
    obtain ⟨m, hm, rfl, HG, k0, rfl⟩ := hrel
    obtain ⟨x0, x1, y0, y1⟩ := cells22 X0.out Y0.out
    obtain ⟨r0, r1, r2, r3⟩ := R0.out.four
    have f0 := R0.out.frozen 0
    have f1 := R0.out.frozen 1
    have f2 := R0.out.frozen 2
    have f3 := R0.out.frozen 3
    cases m with
    | zero =>
      have HZ : Hid (grt L M n = -1) := HG
      go_wp2
      refine bodyPost_ret (v := .tuple #[.agg #[.int .i64 0, .int .i64 0, .int .i64 0, .int .i64 0], .bool false]) (by simp [results, Try.results42, go_sem, r0, r1, r2, r3]) rfl ⟨?_, ?_⟩
      · rw [carryV_none HZ.out, HZ.out]; rfl
      · first | exact HB0.out | exact belowDraws HB0.out _ | exact belowDraws ((((HB0.out.setCell (by simp; omega) _).setCell (by simp; omega) _).setCell (by simp; omega) _).setCell (by simp; omega) _) _ | exact (((((belowDraws HB0.out _).setCell (by simp; omega) _).setCell (by simp; omega) _).setCell (by simp; omega) _).setCell (by simp; omega) _)
    | succ k =>
      have hk : k < n := by omega
      obtain ⟨ad, rfl, had, hc⟩ := HI0.out k (by rw [HL.out]; exact hk)
      obtain ⟨ad', rfl, had', hc'⟩ := HJ0.out k (by rw [HM.out]; exact hk)
      have hx := pegsOk_at HPL.out (d := k) (by rw [HL.out]; exact hk)
      have hy := pegsOk_at HPM.out (d := k) (by rw [HM.out]; exact hk)
      have hi0 : (0 : Int) ≤ (k : Int) := by omega
      have hi1 : (k : Int) < (n : Int) := by omega
      have hi2 : ((k + 1 : Nat) : Int) - 1 = (k : Int) := by omega
      rw [hi2]
      clear hi2
      by_cases he : L[k]?.getD 0 = M[k]?.getD 0
      · have ht : (L[k]?.getD 0 != M[k]?.getD 0) = false := by simpa using he
        have HST := Lib.hid (grt_step_eq he)
        clear he
        go_wp2_with fail
        go_quiet (fail)
        go_wp2
        go_roundw
        case rel => exact ⟨k, by omega, rfl, Lib.hid (HG.out.trans HST.out), by first | exact ⟨_, rfl⟩ | exact ⟨_, World.drewN_drewN _ _ _⟩⟩
        case measure => simp [intOf] <;> omega
      · have ht : (L[k]?.getD 0 != M[k]?.getD 0) = true := by simpa using he
        have HST := Lib.hid (grt_step_ne he)
        have HZ : Hid (grt L M n = k) := Lib.hid (HG.out.trans HST.out)
        clear he
        go_wp2_with fail
        go_quiet (fail)
        go_wp2_with fail
        refine (thirdPeg_calls (L[k]?.getD 0) (M[k]?.getD 0) _ hx hy).mono ?_
        rintro e w' ⟨rfl, rfl⟩
        go_wp2
        refine bodyPost_ret (v := .tuple #[.agg #[.int .i64 k, .int .i64 (L[k]?.getD 0), .int .i64 (M[k]?.getD 0), .int .i64 (3 - L[k]?.getD 0 - M[k]?.getD 0)], .bool true]) (by simp [results, Try.results42, go_sem, r0, r1, r2, r3]) rfl ⟨?_, ?_⟩
        · rw [carryV_some HZ.out, HZ.out]; first | (simp; done) | (simp; omega)
        · first | exact belowDraws ((((HB0.out.setCell (by simp; omega) _).setCell (by simp; omega) _).setCell (by simp; omega) _).setCell (by simp; omega) _) _ | exact (((((belowDraws HB0.out _).setCell (by simp; omega) _).setCell (by simp; omega) _).setCell (by simp; omega) _).setCell (by simp; omega) _)

set_option maxHeartbeats 2000000 in
theorem numbersOf_calls (A : Option Addr) (n c : Nat) (p : Int) (L : List Int) (B : Option Addr) (d : Nat) (q : Int) (M : List Int) (D : Nat) (w : World) (hL : L.length = n) (hM : M.length = n) (hn : n ≤ 8) (hI : Ints w A L) (hJ : Ints w B M)
    (hcap : n ≤ c) (hc : c ≤ 9223372036854775807) (hdap : n ≤ d) (hd : d ≤ 9223372036854775807) (hpL : pegsOk L) (hpM : pegsOk M) (hg : grt L M n = D) :
    Calls Try.prog 58 #[.agg #[.int .i64 p, .slice A n c], .agg #[.int .i64 q, .slice B n d], .agg #[.int .i64 D, .int .i64 (L[D]?.getD 0), .int .i64 (M[D]?.getD 0), .int .i64 (3 - L[D]?.getD 0 - M[D]?.getD 0)]] w fun e w' => e = .returned (.tuple #[.int .i64 (oneN L M D), .int .i64 (twoN L M D)]) ∧ Below w.heap.size w w' := by
  obtain ⟨hD, hP0, hP1, hQ0, hQ1, hne⟩ := carry_facts hpL hpM hL hM hg
  have HL := Lib.hid hL
  have HM := Lib.hid hM
  have HG := Lib.hid hg
  obtain ⟨b1, b2, b3⟩ := twoBoxes w p q A B n c n d 30
  have HI00 := Lib.hid (hI.below b3)
  have HJ00 := Lib.hid (hJ.below b3)
  have hd1 := distP_bd (L.take D) (3 - L[D]?.getD 0 - M[D]?.getD 0) (by simp; omega)
  have hd2 := distP_bd (M.take D) (3 - L[D]?.getD 0 - M[D]?.getD 0) (by simp; omega)
  have hd3 := distP_bd (L.take D) (M[D]?.getD 0) (by simp; omega)
  have hd4 := distP_bd (M.take D) (L[D]?.getD 0) (by simp; omega)
  have hpw := pow2_bd (k := D) (by omega)
  have hsh := shl_pow (k := D) (by omega)
  have HLT : Hid ((L.take D).length = D) := by unfold Hid; simp; omega
  have HMT : Hid ((M.take D).length = D) := by unfold Hid; simp; omega
  have HPL := Lib.hid (pegsOk_take hpL D)
  have HPM := Lib.hid (pegsOk_take hpM D)
  obtain ⟨ad, rfl, had, hcx⟩ := HI00.out D (by rw [HL.out]; exact hD)
  obtain ⟨ad', rfl, had', hcy⟩ := HJ00.out D (by rw [HM.out]; exact hD)
  rw [List.getD_eq_getElem?_getD] at hcx hcy
  show Calls _ _ #[.agg #[.int .i64 p, .slice (some ad) n c], .agg #[.int .i64 q, .slice (some ad') n d], .agg #[.int .i64 D, .int .i64 (L[D]?.getD 0), .int .i64 (M[D]?.getD 0), .int .i64 (3 - L[D]?.getD 0 - M[D]?.getD 0)]] _ fun e w' => e = .returned (.tuple #[.int .i64 (distP (L.take D) (3 - L[D]?.getD 0 - M[D]?.getD 0) + distP (M.take D) (3 - L[D]?.getD 0 - M[D]?.getD 0) + 1), .int .i64 (distP (L.take D) (M[D]?.getD 0) + distP (M.take D) (L[D]?.getD 0) + pow2 D + 1)]) ∧ Below w.heap.size w w'
  generalize L[D]?.getD 0 = P at *
  generalize M[D]?.getD 0 = Q at *
  generalize hu1 : distP (L.take D) (3 - P - Q) = u1 at *
  generalize hu2 : distP (M.take D) (3 - P - Q) = u2 at *
  generalize hu3 : distP (L.take D) Q = u3 at *
  generalize hu4 : distP (M.take D) P = u4 at *
  have U1 := Lib.hid hu1
  have U2 := Lib.hid hu2
  have U3 := Lib.hid hu3
  have U4 := Lib.hid hu4
  have hi0 : (0 : Int) ≤ (D : Int) := by omega
  have hi1 : (D : Int) < (n : Int) := by omega
  have hi2 : (D : Int) ≤ (c : Int) := by omega
  have hi3 : (D : Int) ≤ (d : Int) := by omega
  have hr : 0 ≤ 3 - P - Q ∧ 3 - P - Q ≤ 2 := by omega
  have hbal := (Below.refl _ ((w.alloc (.cells #[.int .i64 p, .slice (some ad) n c] 30)).alloc (.cells #[.int .i64 q, .slice (some ad') n d] 30))).alloc (Nat.le_refl _) (.cells #[.int .i64 D, .int .i64 P, .int .i64 Q, .int .i64 (3 - P - Q)] 64)
  have X1 := Lib.hid (b1.below hbal b1.lt)
  have Y1 := Lib.hid (b2.below hbal b2.lt)
  have hc0 := Box.new ((w.alloc (.cells #[.int .i64 p, .slice (some ad) n c] 30)).alloc (.cells #[.int .i64 q, .slice (some ad') n d] 30)) 64 #[.int .i64 D, .int .i64 P, .int .i64 Q, .int .i64 (3 - P - Q)]
  simp only [World.size_alloc] at hc0
  have C1 := Lib.hid hc0
  have HI1 := Lib.hid (HI00.out.below hbal)
  have HJ1 := Lib.hid (HJ00.out.below hbal)
  have HB1 := Lib.hid (b3.trans (hbal.mono b3.size))
  clear hL hM b1 b2 b3 hI hJ hg hu1 hu2 hu3 hu4 hpL hpM hcx hcy had had' hbal hc0 HI00 HJ00
  generalize hW : ((w.alloc (.cells #[.int .i64 p, .slice (some ad) n c] 30)).alloc (.cells #[.int .i64 q, .slice (some ad') n d] 30)).alloc (.cells #[.int .i64 D, .int .i64 P, .int .i64 Q, .int .i64 (3 - P - Q)] 64) = W at *
  have HW := Lib.hid hW
  clear hW
  obtain ⟨x0, x1, y0, y1⟩ := cells22 X1.out Y1.out
  obtain ⟨k0, k1, k2, k3⟩ := C1.out.four
  go_enter Try.func58, Try.ntmps58
  go_wp2_with fail
  rw [HW.out]
  go_quiet (fail)
  go_wp2_with fail
  clear x0 x1 y0 y1 k0 k1 k2 k3 X1 Y1
  obtain ⟨k0, k1, k2, k3⟩ := C1.out.four
  have hs1 : IntKind.i64.wrap (u1 + u2) = u1 + u2 := IntWalk.i64_in _ (by omega)
  have hs2 : IntKind.i64.wrap (u1 + u2 + 1) = u1 + u2 + 1 := IntWalk.i64_in _ (by omega)
  go_region_held3 (fun w' => w'.cell? ⟨w.heap.size + 1 + 1, 0, none⟩ = some (.int .i64 D) ∧ w'.cell? ⟨w.heap.size + 1 + 1, 1, none⟩ = some (.int .i64 P) ∧ w'.cell? ⟨w.heap.size + 1 + 1, 2, none⟩ = some (.int .i64 Q) ∧ w'.cell? ⟨w.heap.size + 1 + 1, 3, none⟩ = some (.int .i64 (3 - P - Q)))
    (first | exact ⟨k0, k1, k2, k3⟩ | exact C2.out.four | exact C3.out.four | go_keep)
    (first
    | (go_at_call 48; (with_reducible refine (distanceToPeg_calls (some ad) D c (L.take D) (3 - P - Q) _ HLT.out (by omega) ?_ HPL.out hr).mono ?_); (exact HI1.out.take D); rintro e w2 ⟨rfl, hb2⟩; rw [U1.out]; have C2 := Lib.hid (Box.below C1.out (undrewN (undrew hb2)) (Box.lt C1.out)))
    | (go_at_call 48; (with_reducible refine (distanceToPeg_calls (some ad') D d (M.take D) (3 - P - Q) _ HMT.out (by omega) ?_ HPM.out hr).mono ?_); (exact (HJ1.out.below (undrewN (undrew hb2))).take D); rintro e w3 ⟨rfl, hb3⟩; rw [U2.out]; have C3 := Lib.hid (Box.below C2.out hb3 (Box.lt C2.out))))
  have q2 := Below.size (undrewN (undrew hb2))
  have HB3 := Lib.hid ((HB1.out.trans ((undrewN (undrew hb2)).mono HB1.out.size)).trans (hb3.mono (Nat.le_trans HB1.out.size q2)))
  have HI3 := Lib.hid ((HI1.out.below (undrewN (undrew hb2))).below hb3)
  have HJ3 := Lib.hid ((HJ1.out.below (undrewN (undrew hb2))).below hb3)
  clear q2 hb2 hb3 k0 k1 k2 k3 C1 HI1 HJ1 HB1 C2 hs1 hs2
  go_wp2_with fail
  have hs6 := shl_plain (k := D) (by omega)
  obtain ⟨k0, k1, k2, k3⟩ := C3.out.four
  have hs3 : IntKind.i64.wrap (u3 + u4) = u3 + u4 := IntWalk.i64_in _ (by omega)
  have hs4 : IntKind.i64.wrap (u3 + u4 + pow2 D) = u3 + u4 + pow2 D := IntWalk.i64_in _ (by omega)
  have hs5 : IntKind.i64.wrap (u3 + u4 + pow2 D + 1) = u3 + u4 + pow2 D + 1 := IntWalk.i64_in _ (by omega)
  go_region_held3 (fun w' => w'.cell? ⟨w.heap.size + 1 + 1, 0, none⟩ = some (.int .i64 D) ∧ w'.cell? ⟨w.heap.size + 1 + 1, 1, none⟩ = some (.int .i64 P) ∧ w'.cell? ⟨w.heap.size + 1 + 1, 2, none⟩ = some (.int .i64 Q) ∧ w'.cell? ⟨w.heap.size + 1 + 1, 3, none⟩ = some (.int .i64 (3 - P - Q)))
    (first | exact ⟨k0, k1, k2, k3⟩ | exact C4.out.four | exact C5.out.four | go_keep)
    (first
    | (go_at_call 48; (with_reducible refine (distanceToPeg_calls (some ad) D c (L.take D) Q _ HLT.out (by omega) ?_ HPL.out ⟨hQ0, hQ1⟩).mono ?_); (exact HI3.out.take D); rintro e w4 ⟨rfl, hb4⟩; rw [U3.out]; have C4 := Lib.hid (Box.below C3.out (undrew hb4) (Box.lt C3.out)))
    | (go_at_call 48; (with_reducible refine (distanceToPeg_calls (some ad') D d (M.take D) P _ HMT.out (by omega) ?_ HPM.out ⟨hP0, hP1⟩).mono ?_); (exact (HJ3.out.below (undrew hb4)).take D); rintro e w5 ⟨rfl, hb5⟩; rw [U4.out]; have C5 := Lib.hid (Box.below C4.out hb5 (Box.lt C4.out))))
  have q4 := Below.size (undrew hb4)
  have HB5 := Lib.hid ((HB3.out.trans ((undrew hb4).mono HB3.out.size)).trans (hb5.mono (Nat.le_trans HB3.out.size q4)))
  have HI5 := Lib.hid ((HI3.out.below (undrew hb4)).below hb5)
  have HJ5 := Lib.hid ((HJ3.out.below (undrew hb4)).below hb5)
  clear q4 hb4 hb5 k0 k1 k2 k3 C3 HI3 HJ3 HB3 C4 hs3 hs4 hs5
  clear hs6
  go_wp2
  go_ret2
  exact ⟨rfl, HB5.out⟩

end Go.Proofs.Ytbcgomimfgggnaa

namespace Go.Proofs.Ytbcgomimfgggnaa
open Go.RowKit
set_option linter.unusedVariables false
set_option maxRecDepth 100000

theorem ret_two' {a b c d : Int} (h : c = a) (h' : d = b) : Ending.returned (.tuple #[.int .i64 a, .int .i64 b]) = .returned (.tuple #[.int .i64 c, .int .i64 d]) := by rw [h, h']
theorem ret_three' {a b c d e f : Int} (h : d = a) (h' : e = b) (h'' : f = c) : Ending.returned (.tuple #[.int .i64 a, .int .i64 b, .int .i64 c]) = .returned (.tuple #[.int .i64 d, .int .i64 e, .int .i64 f]) := by rw [h, h', h'']

/-- What is answered of two states: beside a code; for equal ones; of both numbers. -/
def nwV (v : Int) (f : Int → Int → Int) (p : Int) (L : List Int) (q : Int) (M : List Int) : Int :=
  if code2 p L q M = 0 then (if grt L M L.length = -1 then v else f (oneN L M (grt L M L.length).toNat) (twoN L M (grt L M L.length).toNat)) else 0
def nbC (v : Int) (p : Int) (L : List Int) (q : Int) (M : List Int) : Int :=
  if code2 p L q M = 0 then (if grt L M L.length = -1 then v else 0) else code2 p L q M
theorem nwV_code {v p q : Int} {f : Int → Int → Int} {L M : List Int} (h : ¬ code2 p L q M = 0) : nwV v f p L q M = 0 := by unfold nwV; rw [if_neg h]
theorem nbC_code {v p q : Int} {L M : List Int} (h : ¬ code2 p L q M = 0) : nbC v p L q M = code2 p L q M := by unfold nbC; rw [if_neg h]
theorem nwV_eq {v p q : Int} {f : Int → Int → Int} {L M : List Int} {n : Nat} (h : code2 p L q M = 0) (hL : L.length = n) (hg : grt L M n = -1) : nwV v f p L q M = v := by unfold nwV; rw [if_pos h, hL, if_pos hg]
theorem nbC_eq {v p q : Int} {L M : List Int} {n : Nat} (h : code2 p L q M = 0) (hL : L.length = n) (hg : grt L M n = -1) : nbC v p L q M = v := by unfold nbC; rw [if_pos h, hL, if_pos hg]
theorem nwV_ne {v p q : Int} {f : Int → Int → Int} {L M : List Int} {n D : Nat} (h : code2 p L q M = 0) (hL : L.length = n) (hg : grt L M n = D) : nwV v f p L q M = f (oneN L M D) (twoN L M D) := by
  unfold nwV
  rw [if_pos h, hL, if_neg (by omega), hg, Int.toNat_natCast]
theorem nbC_ne {v p q : Int} {L M : List Int} {n D : Nat} (h : code2 p L q M = 0) (hL : L.length = n) (hg : grt L M n = D) : nbC v p L q M = 0 := by
  unfold nbC
  rw [if_pos h, hL, if_neg (by omega)]
def fstI (a _b : Int) : Int := a
def sndI (_a b : Int) : Int := b
def waysI (a b : Int) : Int := if a = b then 2 else 1
theorem grt_cases (L M : List Int) (n : Nat) : grt L M n = -1 ∨ ∃ D : Nat, grt L M n = D := by
  have := (grt_bd L M n).1
  by_cases h : grt L M n = -1
  · exact .inl h
  · exact .inr ⟨(grt L M n).toNat, by omega⟩

set_option maxHeartbeats 1000000 in
theorem numbersBetween_calls (A : Option Addr) (n c : Nat) (p : Int) (L : List Int) (B : Option Addr) (m d : Nat) (q : Int) (M : List Int) (w : World) (hL : L.length = n) (hn : n ≤ 1048576) (hI : Ints w A L) (hcap : n ≤ c) (hc : c ≤ 9223372036854775807) (hM : M.length = m) (hm : m ≤ 1048576) (hJ : Ints w B M) (hdap : m ≤ d) (hd : d ≤ 9223372036854775807) :
    Calls Try.prog 34 #[.agg #[.int .i64 p, .slice A n c], .agg #[.int .i64 q, .slice B m d]] w fun e w' => e = .returned (.tuple #[.int .i64 (nwV 0 fstI p L q M), .int .i64 (nwV 0 sndI p L q M), .int .i64 (nbC 5 p L q M)]) ∧ Below w.heap.size w w' := by
  have HL := Lib.hid hL
  have HM := Lib.hid hM
  obtain ⟨b1, b2, b3⟩ := twoBoxes w p q A B n c m d 30
  have hbal := (Below.refl _ ((w.alloc (.cells #[.int .i64 p, .slice A n c] 30)).alloc (.cells #[.int .i64 q, .slice B m d] 30))).alloc (Nat.le_refl _) (.cells #[.int .i64 p, .slice A n c, .int .i64 q, .slice B m d] 30)
  have X0 := Lib.hid (b1.below hbal b1.lt)
  have Y0 := Lib.hid (b2.below hbal b2.lt)
  have hc0 := Box.new ((w.alloc (.cells #[.int .i64 p, .slice A n c] 30)).alloc (.cells #[.int .i64 q, .slice B m d] 30)) 30 #[.int .i64 p, .slice A n c, .int .i64 q, .slice B m d]
  simp only [World.size_alloc] at hc0
  have Z0 := Lib.hid hc0
  have HB0 := Lib.hid (b3.trans (hbal.mono b3.size))
  have HI0 := Lib.hid (hI.below HB0.out)
  have HJ0 := Lib.hid (hJ.below HB0.out)
  clear hL hM b1 b2 b3 hbal hc0 hI hJ
  by_cases hz : code2 p L q M = 0
  · obtain ⟨hs, ht, rfl, rfl, hlen⟩ := code2_zero hz
    rw [HL.out, HM.out] at hlen
    subst hlen
    have HZ := Lib.hid hz
    have hz' : (code2 3 L 3 M != 0) = false := by simpa using hz
    have h8 := (state_facts hs HL.out).2.2.1
    have HPL := Lib.hid (state_pegsOk hs)
    have HPM := Lib.hid (state_pegsOk ht)
    clear hz hs ht
    rcases grt_cases L M n with hg | ⟨D, hg⟩
    · have HG := Lib.hid hg
      have HC := Lib.hid (carryV_none hg)
      have HD : Hid (decide (grt L M n ≠ -1) = false) := by unfold Hid; rw [hg]; rfl
      clear hg
      go_enter Try.func34, Try.ntmps34
      go_wp2_with fail
      refine (codeOfStates_two (w.heap.size + 1 + 1) A n c 3 L B n d 3 M _ Z0.out HL.out hn HI0.out HM.out hm HJ0.out).mono ?_
      rintro e w1 ⟨rfl, hb⟩
      have X1 := Lib.hid (X0.out.below hb X0.out.lt)
      have Y1 := Lib.hid (Y0.out.below hb Y0.out.lt)
      have HI1 := Lib.hid (HI0.out.below hb)
      have HJ1 := Lib.hid (HJ0.out.below hb)
      have HB1 := Lib.hid (HB0.out.trans (hb.mono HB0.out.size))
      clear hb X0 Y0 HI0 HJ0 HB0
      obtain ⟨x0, x1, y0, y1⟩ := cells22 X1.out Y1.out
      go_wp2_with fail
      refine (carryBetween_calls A n c 3 L B d 3 M _ HL.out HM.out h8 HI1.out HJ1.out HPL.out HPM.out).mono ?_
      rintro e w2 ⟨rfl, hb⟩
      have X2 := Lib.hid (X1.out.below hb X1.out.lt)
      have Y2 := Lib.hid (Y1.out.below hb Y1.out.lt)
      have HI2 := Lib.hid (HI1.out.below hb)
      have HJ2 := Lib.hid (HJ1.out.below hb)
      have HB2 := Lib.hid (HB1.out.trans (hb.mono HB1.out.size))
      clear hb X1 Y1 HI1 HJ1 HB1
      rw [HC.out, HD.out]
      go_wp2
      go_ret3
      exact ⟨ret_three' (nwV_eq HZ.out HL.out HG.out) (nwV_eq HZ.out HL.out HG.out) (nbC_eq HZ.out HL.out HG.out), HB2.out.alloc HB2.out.size _⟩
    · have HG := Lib.hid hg
      have HC := Lib.hid (carryV_some hg)
      have HD : Hid (decide (grt L M n ≠ -1) = true) := by unfold Hid; rw [hg]; simp; try omega
      clear hg
      go_enter Try.func34, Try.ntmps34
      go_wp2_with fail
      refine (codeOfStates_two (w.heap.size + 1 + 1) A n c 3 L B n d 3 M _ Z0.out HL.out hn HI0.out HM.out hm HJ0.out).mono ?_
      rintro e w1 ⟨rfl, hb⟩
      have X1 := Lib.hid (X0.out.below hb X0.out.lt)
      have Y1 := Lib.hid (Y0.out.below hb Y0.out.lt)
      have HI1 := Lib.hid (HI0.out.below hb)
      have HJ1 := Lib.hid (HJ0.out.below hb)
      have HB1 := Lib.hid (HB0.out.trans (hb.mono HB0.out.size))
      clear hb X0 Y0 HI0 HJ0 HB0
      obtain ⟨x0, x1, y0, y1⟩ := cells22 X1.out Y1.out
      go_wp2_with fail
      refine (carryBetween_calls A n c 3 L B d 3 M _ HL.out HM.out h8 HI1.out HJ1.out HPL.out HPM.out).mono ?_
      rintro e w2 ⟨rfl, hb⟩
      have X2 := Lib.hid (X1.out.below hb X1.out.lt)
      have Y2 := Lib.hid (Y1.out.below hb Y1.out.lt)
      have HI2 := Lib.hid (HI1.out.below hb)
      have HJ2 := Lib.hid (HJ1.out.below hb)
      have HB2 := Lib.hid (HB1.out.trans (hb.mono HB1.out.size))
      clear hb X1 Y1 HI1 HJ1 HB1
      rw [HC.out, HD.out]
      clear x0 x1 y0 y1
      obtain ⟨x0, x1, y0, y1⟩ := cells22 (X2.out.below ((Below.refl _ w2).alloc (Nat.le_refl _) (.cells #[.int .i64 D, .int .i64 (L[D]?.getD 0), .int .i64 (M[D]?.getD 0), .int .i64 (3 - L[D]?.getD 0 - M[D]?.getD 0)] 64)) X2.out.lt) (Y2.out.below ((Below.refl _ w2).alloc (Nat.le_refl _) (.cells #[.int .i64 D, .int .i64 (L[D]?.getD 0), .int .i64 (M[D]?.getD 0), .int .i64 (3 - L[D]?.getD 0 - M[D]?.getD 0)] 64)) Y2.out.lt)
      go_wp2_with fail
      refine (numbersOf_calls A n c 3 L B d 3 M D _ HL.out HM.out h8 (HI2.out.below ((Below.refl _ w2).alloc (Nat.le_refl _) (.cells #[.int .i64 D, .int .i64 (L[D]?.getD 0), .int .i64 (M[D]?.getD 0), .int .i64 (3 - L[D]?.getD 0 - M[D]?.getD 0)] 64))) (HJ2.out.below ((Below.refl _ w2).alloc (Nat.le_refl _) (.cells #[.int .i64 D, .int .i64 (L[D]?.getD 0), .int .i64 (M[D]?.getD 0), .int .i64 (3 - L[D]?.getD 0 - M[D]?.getD 0)] 64))) hcap hc hdap hd HPL.out HPM.out HG.out).mono ?_
      rintro e w3 ⟨rfl, hb⟩
      have HB3 := Lib.hid ((HB2.out.alloc HB2.out.size (.cells #[.int .i64 D, .int .i64 (L[D]?.getD 0), .int .i64 (M[D]?.getD 0), .int .i64 (3 - L[D]?.getD 0 - M[D]?.getD 0)] 64)).trans (hb.mono (by have := HB2.out.size; simp; omega)))
      clear hb
      go_wp2
      go_ret3
      exact ⟨ret_three' (nwV_ne HZ.out HL.out HG.out) (nwV_ne HZ.out HL.out HG.out) (nbC_ne HZ.out HL.out HG.out), HB3.out⟩
  · have hz' : (code2 p L q M != 0) = true := by simpa using hz
    have HZ := Lib.hid hz
    clear hz
    go_enter Try.func34, Try.ntmps34
    go_wp2_with fail
    refine (codeOfStates_two (w.heap.size + 1 + 1) A n c p L B m d q M _ Z0.out HL.out hn HI0.out HM.out hm HJ0.out).mono ?_
    rintro e w1 ⟨rfl, hb⟩
    have X1 := Lib.hid (X0.out.below hb X0.out.lt)
    have Y1 := Lib.hid (Y0.out.below hb Y0.out.lt)
    have HI1 := Lib.hid (HI0.out.below hb)
    have HJ1 := Lib.hid (HJ0.out.below hb)
    have HB1 := Lib.hid (HB0.out.trans (hb.mono HB0.out.size))
    clear hb X0 Y0 HI0 HJ0 HB0
    go_wp2
    go_ret3
    exact ⟨ret_three' (nwV_code HZ.out) (nwV_code HZ.out) (nbC_code HZ.out), HB1.out⟩
-- OneMoveNumber

set_option maxHeartbeats 1000000 in
theorem specOneMoveNumber_calls (A : Option Addr) (n c : Nat) (p : Int) (L : List Int) (B : Option Addr) (m d : Nat) (q : Int) (M : List Int) (w : World) (hL : L.length = n) (hn : n ≤ 1048576) (hI : Ints w A L) (hcap : n ≤ c) (hc : c ≤ 9223372036854775807) (hM : M.length = m) (hm : m ≤ 1048576) (hJ : Ints w B M) (hdap : m ≤ d) (hd : d ≤ 9223372036854775807) :
    Calls Try.prog 22 #[.agg #[.int .i64 p, .slice A n c], .agg #[.int .i64 q, .slice B m d]] w fun e w' => e = .returned (.tuple #[.int .i64 (nwV 0 fstI p L q M), .int .i64 (nbC 5 p L q M)]) ∧ Below w.heap.size w w' := by
  have HL := Lib.hid hL
  have HM := Lib.hid hM
  obtain ⟨b1, b2, b3⟩ := twoBoxes w p q A B n c m d 30
  have hbal := (Below.refl _ ((w.alloc (.cells #[.int .i64 p, .slice A n c] 30)).alloc (.cells #[.int .i64 q, .slice B m d] 30))).alloc (Nat.le_refl _) (.cells #[.int .i64 p, .slice A n c, .int .i64 q, .slice B m d] 30)
  have X0 := Lib.hid (b1.below hbal b1.lt)
  have Y0 := Lib.hid (b2.below hbal b2.lt)
  have hc0 := Box.new ((w.alloc (.cells #[.int .i64 p, .slice A n c] 30)).alloc (.cells #[.int .i64 q, .slice B m d] 30)) 30 #[.int .i64 p, .slice A n c, .int .i64 q, .slice B m d]
  simp only [World.size_alloc] at hc0
  have Z0 := Lib.hid hc0
  have HB0 := Lib.hid (b3.trans (hbal.mono b3.size))
  have HI0 := Lib.hid (hI.below HB0.out)
  have HJ0 := Lib.hid (hJ.below HB0.out)
  clear hL hM b1 b2 b3 hbal hc0 hI hJ
  by_cases hz : code2 p L q M = 0
  · obtain ⟨hs, ht, rfl, rfl, hlen⟩ := code2_zero hz
    rw [HL.out, HM.out] at hlen
    subst hlen
    have HZ := Lib.hid hz
    have hz' : (code2 3 L 3 M != 0) = false := by simpa using hz
    have h8 := (state_facts hs HL.out).2.2.1
    have HPL := Lib.hid (state_pegsOk hs)
    have HPM := Lib.hid (state_pegsOk ht)
    clear hz hs ht
    rcases grt_cases L M n with hg | ⟨D, hg⟩
    · have HG := Lib.hid hg
      clear hg
      go_enter Try.func22, Try.ntmps22
      go_wp2_with fail
      refine (l02Code_two (w.heap.size + 1 + 1) A n c 3 L B n d 3 M _ Z0.out HL.out hn HI0.out HM.out hm HJ0.out).mono ?_
      rintro e w1 ⟨rfl, hb⟩
      have X1 := Lib.hid (X0.out.below hb X0.out.lt)
      have Y1 := Lib.hid (Y0.out.below hb Y0.out.lt)
      have HI1 := Lib.hid (HI0.out.below hb)
      have HJ1 := Lib.hid (HJ0.out.below hb)
      have HB1 := Lib.hid (HB0.out.trans (hb.mono HB0.out.size))
      clear hb X0 Y0 HI0 HJ0 HB0
      obtain ⟨x0, x1, y0, y1⟩ := cells22 X1.out Y1.out
      go_wp2_with fail
      refine (l02Greatest_calls A n c 3 L B d 3 M _ HL.out HM.out h8 HI1.out HJ1.out).mono ?_
      rintro e w2 ⟨rfl, hb⟩
      have X2 := Lib.hid (X1.out.below hb X1.out.lt)
      have Y2 := Lib.hid (Y1.out.below hb Y1.out.lt)
      have HI2 := Lib.hid (HI1.out.below hb)
      have HJ2 := Lib.hid (HJ1.out.below hb)
      have HB2 := Lib.hid (HB1.out.trans (hb.mono HB1.out.size))
      clear hb X1 Y1 HI1 HJ1 HB1
      rw [HG.out]
      go_wp2
      go_ret2
      exact ⟨ret_two' (nwV_eq HZ.out HL.out HG.out) (nbC_eq HZ.out HL.out HG.out), HB2.out⟩
    · have HG := Lib.hid hg
      clear hg
      go_enter Try.func22, Try.ntmps22
      go_wp2_with fail
      refine (l02Code_two (w.heap.size + 1 + 1) A n c 3 L B n d 3 M _ Z0.out HL.out hn HI0.out HM.out hm HJ0.out).mono ?_
      rintro e w1 ⟨rfl, hb⟩
      have X1 := Lib.hid (X0.out.below hb X0.out.lt)
      have Y1 := Lib.hid (Y0.out.below hb Y0.out.lt)
      have HI1 := Lib.hid (HI0.out.below hb)
      have HJ1 := Lib.hid (HJ0.out.below hb)
      have HB1 := Lib.hid (HB0.out.trans (hb.mono HB0.out.size))
      clear hb X0 Y0 HI0 HJ0 HB0
      obtain ⟨x0, x1, y0, y1⟩ := cells22 X1.out Y1.out
      go_wp2_with fail
      refine (l02Greatest_calls A n c 3 L B d 3 M _ HL.out HM.out h8 HI1.out HJ1.out).mono ?_
      rintro e w2 ⟨rfl, hb⟩
      have X2 := Lib.hid (X1.out.below hb X1.out.lt)
      have Y2 := Lib.hid (Y1.out.below hb Y1.out.lt)
      have HI2 := Lib.hid (HI1.out.below hb)
      have HJ2 := Lib.hid (HJ1.out.below hb)
      have HB2 := Lib.hid (HB1.out.trans (hb.mono HB1.out.size))
      clear hb X1 Y1 HI1 HJ1 HB1
      rw [HG.out]
      clear x0 x1 y0 y1
      obtain ⟨x0, x1, y0, y1⟩ := cells22 X2.out Y2.out
      have hD0 : (0 : Int) ≤ (D : Int) := by omega
      go_wp2_with fail
      refine (l02Numbers_calls A n c 3 L B d 3 M D _ HL.out HM.out h8 HI2.out HJ2.out hcap hc hdap hd HPL.out HPM.out HG.out).mono ?_
      rintro e w3 ⟨rfl, hb⟩
      have X3 := Lib.hid (X2.out.below hb X2.out.lt)
      have Y3 := Lib.hid (Y2.out.below hb Y2.out.lt)
      have HI3 := Lib.hid (HI2.out.below hb)
      have HJ3 := Lib.hid (HJ2.out.below hb)
      have HB3 := Lib.hid (HB2.out.trans (hb.mono HB2.out.size))
      clear hb X2 Y2 HI2 HJ2 HB2
      go_wp2
      go_ret2
      exact ⟨ret_two' (nwV_ne HZ.out HL.out HG.out) (nbC_ne HZ.out HL.out HG.out), HB3.out⟩
  · have hz' : (code2 p L q M != 0) = true := by simpa using hz
    have HZ := Lib.hid hz
    clear hz
    go_enter Try.func22, Try.ntmps22
    go_wp2_with fail
    refine (l02Code_two (w.heap.size + 1 + 1) A n c p L B m d q M _ Z0.out HL.out hn HI0.out HM.out hm HJ0.out).mono ?_
    rintro e w1 ⟨rfl, hb⟩
    have X1 := Lib.hid (X0.out.below hb X0.out.lt)
    have Y1 := Lib.hid (Y0.out.below hb Y0.out.lt)
    have HI1 := Lib.hid (HI0.out.below hb)
    have HJ1 := Lib.hid (HJ0.out.below hb)
    have HB1 := Lib.hid (HB0.out.trans (hb.mono HB0.out.size))
    clear hb X0 Y0 HI0 HJ0 HB0
    go_wp2
    go_ret2
    exact ⟨ret_two' (nwV_code HZ.out) (nbC_code HZ.out), HB1.out⟩
-- TwoMoveNumber

set_option maxHeartbeats 1000000 in
theorem specTwoMoveNumber_calls (A : Option Addr) (n c : Nat) (p : Int) (L : List Int) (B : Option Addr) (m d : Nat) (q : Int) (M : List Int) (w : World) (hL : L.length = n) (hn : n ≤ 1048576) (hI : Ints w A L) (hcap : n ≤ c) (hc : c ≤ 9223372036854775807) (hM : M.length = m) (hm : m ≤ 1048576) (hJ : Ints w B M) (hdap : m ≤ d) (hd : d ≤ 9223372036854775807) :
    Calls Try.prog 24 #[.agg #[.int .i64 p, .slice A n c], .agg #[.int .i64 q, .slice B m d]] w fun e w' => e = .returned (.tuple #[.int .i64 (nwV 0 sndI p L q M), .int .i64 (nbC 5 p L q M)]) ∧ Below w.heap.size w w' := by
  have HL := Lib.hid hL
  have HM := Lib.hid hM
  obtain ⟨b1, b2, b3⟩ := twoBoxes w p q A B n c m d 30
  have hbal := (Below.refl _ ((w.alloc (.cells #[.int .i64 p, .slice A n c] 30)).alloc (.cells #[.int .i64 q, .slice B m d] 30))).alloc (Nat.le_refl _) (.cells #[.int .i64 p, .slice A n c, .int .i64 q, .slice B m d] 30)
  have X0 := Lib.hid (b1.below hbal b1.lt)
  have Y0 := Lib.hid (b2.below hbal b2.lt)
  have hc0 := Box.new ((w.alloc (.cells #[.int .i64 p, .slice A n c] 30)).alloc (.cells #[.int .i64 q, .slice B m d] 30)) 30 #[.int .i64 p, .slice A n c, .int .i64 q, .slice B m d]
  simp only [World.size_alloc] at hc0
  have Z0 := Lib.hid hc0
  have HB0 := Lib.hid (b3.trans (hbal.mono b3.size))
  have HI0 := Lib.hid (hI.below HB0.out)
  have HJ0 := Lib.hid (hJ.below HB0.out)
  clear hL hM b1 b2 b3 hbal hc0 hI hJ
  by_cases hz : code2 p L q M = 0
  · obtain ⟨hs, ht, rfl, rfl, hlen⟩ := code2_zero hz
    rw [HL.out, HM.out] at hlen
    subst hlen
    have HZ := Lib.hid hz
    have hz' : (code2 3 L 3 M != 0) = false := by simpa using hz
    have h8 := (state_facts hs HL.out).2.2.1
    have HPL := Lib.hid (state_pegsOk hs)
    have HPM := Lib.hid (state_pegsOk ht)
    clear hz hs ht
    rcases grt_cases L M n with hg | ⟨D, hg⟩
    · have HG := Lib.hid hg
      clear hg
      go_enter Try.func24, Try.ntmps24
      go_wp2_with fail
      refine (l02Code_two (w.heap.size + 1 + 1) A n c 3 L B n d 3 M _ Z0.out HL.out hn HI0.out HM.out hm HJ0.out).mono ?_
      rintro e w1 ⟨rfl, hb⟩
      have X1 := Lib.hid (X0.out.below hb X0.out.lt)
      have Y1 := Lib.hid (Y0.out.below hb Y0.out.lt)
      have HI1 := Lib.hid (HI0.out.below hb)
      have HJ1 := Lib.hid (HJ0.out.below hb)
      have HB1 := Lib.hid (HB0.out.trans (hb.mono HB0.out.size))
      clear hb X0 Y0 HI0 HJ0 HB0
      obtain ⟨x0, x1, y0, y1⟩ := cells22 X1.out Y1.out
      go_wp2_with fail
      refine (l02Greatest_calls A n c 3 L B d 3 M _ HL.out HM.out h8 HI1.out HJ1.out).mono ?_
      rintro e w2 ⟨rfl, hb⟩
      have X2 := Lib.hid (X1.out.below hb X1.out.lt)
      have Y2 := Lib.hid (Y1.out.below hb Y1.out.lt)
      have HI2 := Lib.hid (HI1.out.below hb)
      have HJ2 := Lib.hid (HJ1.out.below hb)
      have HB2 := Lib.hid (HB1.out.trans (hb.mono HB1.out.size))
      clear hb X1 Y1 HI1 HJ1 HB1
      rw [HG.out]
      go_wp2
      go_ret2
      exact ⟨ret_two' (nwV_eq HZ.out HL.out HG.out) (nbC_eq HZ.out HL.out HG.out), HB2.out⟩
    · have HG := Lib.hid hg
      clear hg
      go_enter Try.func24, Try.ntmps24
      go_wp2_with fail
      refine (l02Code_two (w.heap.size + 1 + 1) A n c 3 L B n d 3 M _ Z0.out HL.out hn HI0.out HM.out hm HJ0.out).mono ?_
      rintro e w1 ⟨rfl, hb⟩
      have X1 := Lib.hid (X0.out.below hb X0.out.lt)
      have Y1 := Lib.hid (Y0.out.below hb Y0.out.lt)
      have HI1 := Lib.hid (HI0.out.below hb)
      have HJ1 := Lib.hid (HJ0.out.below hb)
      have HB1 := Lib.hid (HB0.out.trans (hb.mono HB0.out.size))
      clear hb X0 Y0 HI0 HJ0 HB0
      obtain ⟨x0, x1, y0, y1⟩ := cells22 X1.out Y1.out
      go_wp2_with fail
      refine (l02Greatest_calls A n c 3 L B d 3 M _ HL.out HM.out h8 HI1.out HJ1.out).mono ?_
      rintro e w2 ⟨rfl, hb⟩
      have X2 := Lib.hid (X1.out.below hb X1.out.lt)
      have Y2 := Lib.hid (Y1.out.below hb Y1.out.lt)
      have HI2 := Lib.hid (HI1.out.below hb)
      have HJ2 := Lib.hid (HJ1.out.below hb)
      have HB2 := Lib.hid (HB1.out.trans (hb.mono HB1.out.size))
      clear hb X1 Y1 HI1 HJ1 HB1
      rw [HG.out]
      clear x0 x1 y0 y1
      obtain ⟨x0, x1, y0, y1⟩ := cells22 X2.out Y2.out
      have hD0 : (0 : Int) ≤ (D : Int) := by omega
      go_wp2_with fail
      refine (l02Numbers_calls A n c 3 L B d 3 M D _ HL.out HM.out h8 HI2.out HJ2.out hcap hc hdap hd HPL.out HPM.out HG.out).mono ?_
      rintro e w3 ⟨rfl, hb⟩
      have X3 := Lib.hid (X2.out.below hb X2.out.lt)
      have Y3 := Lib.hid (Y2.out.below hb Y2.out.lt)
      have HI3 := Lib.hid (HI2.out.below hb)
      have HJ3 := Lib.hid (HJ2.out.below hb)
      have HB3 := Lib.hid (HB2.out.trans (hb.mono HB2.out.size))
      clear hb X2 Y2 HI2 HJ2 HB2
      go_wp2
      go_ret2
      exact ⟨ret_two' (nwV_ne HZ.out HL.out HG.out) (nbC_ne HZ.out HL.out HG.out), HB3.out⟩
  · have hz' : (code2 p L q M != 0) = true := by simpa using hz
    have HZ := Lib.hid hz
    clear hz
    go_enter Try.func24, Try.ntmps24
    go_wp2_with fail
    refine (l02Code_two (w.heap.size + 1 + 1) A n c p L B m d q M _ Z0.out HL.out hn HI0.out HM.out hm HJ0.out).mono ?_
    rintro e w1 ⟨rfl, hb⟩
    have X1 := Lib.hid (X0.out.below hb X0.out.lt)
    have Y1 := Lib.hid (Y0.out.below hb Y0.out.lt)
    have HI1 := Lib.hid (HI0.out.below hb)
    have HJ1 := Lib.hid (HJ0.out.below hb)
    have HB1 := Lib.hid (HB0.out.trans (hb.mono HB0.out.size))
    clear hb X0 Y0 HI0 HJ0 HB0
    go_wp2
    go_ret2
    exact ⟨ret_two' (nwV_code HZ.out) (nbC_code HZ.out), HB1.out⟩
-- DistanceByRule

set_option maxHeartbeats 1000000 in
theorem specDistanceByRule_calls (A : Option Addr) (n c : Nat) (p : Int) (L : List Int) (B : Option Addr) (m d : Nat) (q : Int) (M : List Int) (w : World) (hL : L.length = n) (hn : n ≤ 1048576) (hI : Ints w A L) (hcap : n ≤ c) (hc : c ≤ 9223372036854775807) (hM : M.length = m) (hm : m ≤ 1048576) (hJ : Ints w B M) (hdap : m ≤ d) (hd : d ≤ 9223372036854775807) :
    Calls Try.prog 10 #[.agg #[.int .i64 p, .slice A n c], .agg #[.int .i64 q, .slice B m d]] w fun e w' => e = .returned (.tuple #[.int .i64 (nwV 0 min p L q M), .int .i64 (nbC 0 p L q M)]) ∧ Below w.heap.size w w' := by
  have HL := Lib.hid hL
  have HM := Lib.hid hM
  obtain ⟨b1, b2, b3⟩ := twoBoxes w p q A B n c m d 30
  have hbal := (Below.refl _ ((w.alloc (.cells #[.int .i64 p, .slice A n c] 30)).alloc (.cells #[.int .i64 q, .slice B m d] 30))).alloc (Nat.le_refl _) (.cells #[.int .i64 p, .slice A n c, .int .i64 q, .slice B m d] 30)
  have X0 := Lib.hid (b1.below hbal b1.lt)
  have Y0 := Lib.hid (b2.below hbal b2.lt)
  have hc0 := Box.new ((w.alloc (.cells #[.int .i64 p, .slice A n c] 30)).alloc (.cells #[.int .i64 q, .slice B m d] 30)) 30 #[.int .i64 p, .slice A n c, .int .i64 q, .slice B m d]
  simp only [World.size_alloc] at hc0
  have Z0 := Lib.hid hc0
  have HB0 := Lib.hid (b3.trans (hbal.mono b3.size))
  have HI0 := Lib.hid (hI.below HB0.out)
  have HJ0 := Lib.hid (hJ.below HB0.out)
  clear hL hM b1 b2 b3 hbal hc0 hI hJ
  by_cases hz : code2 p L q M = 0
  · obtain ⟨hs, ht, rfl, rfl, hlen⟩ := code2_zero hz
    rw [HL.out, HM.out] at hlen
    subst hlen
    have HZ := Lib.hid hz
    have hz' : (code2 3 L 3 M != 0) = false := by simpa using hz
    have h8 := (state_facts hs HL.out).2.2.1
    have HPL := Lib.hid (state_pegsOk hs)
    have HPM := Lib.hid (state_pegsOk ht)
    clear hz hs ht
    rcases grt_cases L M n with hg | ⟨D, hg⟩
    · have HG := Lib.hid hg
      clear hg
      go_enter Try.func10, Try.ntmps10
      go_wp2_with fail
      refine (l02Code_two (w.heap.size + 1 + 1) A n c 3 L B n d 3 M _ Z0.out HL.out hn HI0.out HM.out hm HJ0.out).mono ?_
      rintro e w1 ⟨rfl, hb⟩
      have X1 := Lib.hid (X0.out.below hb X0.out.lt)
      have Y1 := Lib.hid (Y0.out.below hb Y0.out.lt)
      have HI1 := Lib.hid (HI0.out.below hb)
      have HJ1 := Lib.hid (HJ0.out.below hb)
      have HB1 := Lib.hid (HB0.out.trans (hb.mono HB0.out.size))
      clear hb X0 Y0 HI0 HJ0 HB0
      obtain ⟨x0, x1, y0, y1⟩ := cells22 X1.out Y1.out
      go_wp2_with fail
      refine (l02Greatest_calls A n c 3 L B d 3 M _ HL.out HM.out h8 HI1.out HJ1.out).mono ?_
      rintro e w2 ⟨rfl, hb⟩
      have X2 := Lib.hid (X1.out.below hb X1.out.lt)
      have Y2 := Lib.hid (Y1.out.below hb Y1.out.lt)
      have HI2 := Lib.hid (HI1.out.below hb)
      have HJ2 := Lib.hid (HJ1.out.below hb)
      have HB2 := Lib.hid (HB1.out.trans (hb.mono HB1.out.size))
      clear hb X1 Y1 HI1 HJ1 HB1
      rw [HG.out]
      go_wp2
      go_ret2
      exact ⟨ret_two' (nwV_eq HZ.out HL.out HG.out) (nbC_eq HZ.out HL.out HG.out), HB2.out⟩
    · have HG := Lib.hid hg
      clear hg
      go_enter Try.func10, Try.ntmps10
      go_wp2_with fail
      refine (l02Code_two (w.heap.size + 1 + 1) A n c 3 L B n d 3 M _ Z0.out HL.out hn HI0.out HM.out hm HJ0.out).mono ?_
      rintro e w1 ⟨rfl, hb⟩
      have X1 := Lib.hid (X0.out.below hb X0.out.lt)
      have Y1 := Lib.hid (Y0.out.below hb Y0.out.lt)
      have HI1 := Lib.hid (HI0.out.below hb)
      have HJ1 := Lib.hid (HJ0.out.below hb)
      have HB1 := Lib.hid (HB0.out.trans (hb.mono HB0.out.size))
      clear hb X0 Y0 HI0 HJ0 HB0
      obtain ⟨x0, x1, y0, y1⟩ := cells22 X1.out Y1.out
      go_wp2_with fail
      refine (l02Greatest_calls A n c 3 L B d 3 M _ HL.out HM.out h8 HI1.out HJ1.out).mono ?_
      rintro e w2 ⟨rfl, hb⟩
      have X2 := Lib.hid (X1.out.below hb X1.out.lt)
      have Y2 := Lib.hid (Y1.out.below hb Y1.out.lt)
      have HI2 := Lib.hid (HI1.out.below hb)
      have HJ2 := Lib.hid (HJ1.out.below hb)
      have HB2 := Lib.hid (HB1.out.trans (hb.mono HB1.out.size))
      clear hb X1 Y1 HI1 HJ1 HB1
      rw [HG.out]
      clear x0 x1 y0 y1
      obtain ⟨x0, x1, y0, y1⟩ := cells22 X2.out Y2.out
      have hD0 : (0 : Int) ≤ (D : Int) := by omega
      go_wp2_with fail
      refine (l02Numbers_calls A n c 3 L B d 3 M D _ HL.out HM.out h8 HI2.out HJ2.out hcap hc hdap hd HPL.out HPM.out HG.out).mono ?_
      rintro e w3 ⟨rfl, hb⟩
      have X3 := Lib.hid (X2.out.below hb X2.out.lt)
      have Y3 := Lib.hid (Y2.out.below hb Y2.out.lt)
      have HI3 := Lib.hid (HI2.out.below hb)
      have HJ3 := Lib.hid (HJ2.out.below hb)
      have HB3 := Lib.hid (HB2.out.trans (hb.mono HB2.out.size))
      clear hb X2 Y2 HI2 HJ2 HB2
      have hb1 := oneN_bd L M (d := D) (by have := HG.out; have := grt_bd L M n; omega)
      have hb2 := twoN_bd L M (d := D) (by have := HG.out; have := grt_bd L M n; omega)
      have hw := Lib.hid (nwV_ne (v := 0) (f := min) HZ.out HL.out HG.out)
      generalize oneN L M D = a at *
      generalize twoN L M D = b at *
      go_wp2
      all_goals
        go_ret2
        exact ⟨ret_two' (by rw [hw.out]; omega) (nbC_ne HZ.out HL.out HG.out), HB3.out⟩
  · have hz' : (code2 p L q M != 0) = true := by simpa using hz
    have HZ := Lib.hid hz
    clear hz
    go_enter Try.func10, Try.ntmps10
    go_wp2_with fail
    refine (l02Code_two (w.heap.size + 1 + 1) A n c p L B m d q M _ Z0.out HL.out hn HI0.out HM.out hm HJ0.out).mono ?_
    rintro e w1 ⟨rfl, hb⟩
    have X1 := Lib.hid (X0.out.below hb X0.out.lt)
    have Y1 := Lib.hid (Y0.out.below hb Y0.out.lt)
    have HI1 := Lib.hid (HI0.out.below hb)
    have HJ1 := Lib.hid (HJ0.out.below hb)
    have HB1 := Lib.hid (HB0.out.trans (hb.mono HB0.out.size))
    clear hb X0 Y0 HI0 HJ0 HB0
    go_wp2
    go_ret2
    exact ⟨ret_two' (nwV_code HZ.out) (nbC_code HZ.out), HB1.out⟩
-- WaysByRule

set_option maxHeartbeats 1000000 in
theorem specWaysByRule_calls (A : Option Addr) (n c : Nat) (p : Int) (L : List Int) (B : Option Addr) (m d : Nat) (q : Int) (M : List Int) (w : World) (hL : L.length = n) (hn : n ≤ 1048576) (hI : Ints w A L) (hcap : n ≤ c) (hc : c ≤ 9223372036854775807) (hM : M.length = m) (hm : m ≤ 1048576) (hJ : Ints w B M) (hdap : m ≤ d) (hd : d ≤ 9223372036854775807) :
    Calls Try.prog 26 #[.agg #[.int .i64 p, .slice A n c], .agg #[.int .i64 q, .slice B m d]] w fun e w' => e = .returned (.tuple #[.int .i64 (nwV 1 waysI p L q M), .int .i64 (nbC 0 p L q M)]) ∧ Below w.heap.size w w' := by
  have HL := Lib.hid hL
  have HM := Lib.hid hM
  obtain ⟨b1, b2, b3⟩ := twoBoxes w p q A B n c m d 30
  have hbal := (Below.refl _ ((w.alloc (.cells #[.int .i64 p, .slice A n c] 30)).alloc (.cells #[.int .i64 q, .slice B m d] 30))).alloc (Nat.le_refl _) (.cells #[.int .i64 p, .slice A n c, .int .i64 q, .slice B m d] 30)
  have X0 := Lib.hid (b1.below hbal b1.lt)
  have Y0 := Lib.hid (b2.below hbal b2.lt)
  have hc0 := Box.new ((w.alloc (.cells #[.int .i64 p, .slice A n c] 30)).alloc (.cells #[.int .i64 q, .slice B m d] 30)) 30 #[.int .i64 p, .slice A n c, .int .i64 q, .slice B m d]
  simp only [World.size_alloc] at hc0
  have Z0 := Lib.hid hc0
  have HB0 := Lib.hid (b3.trans (hbal.mono b3.size))
  have HI0 := Lib.hid (hI.below HB0.out)
  have HJ0 := Lib.hid (hJ.below HB0.out)
  clear hL hM b1 b2 b3 hbal hc0 hI hJ
  by_cases hz : code2 p L q M = 0
  · obtain ⟨hs, ht, rfl, rfl, hlen⟩ := code2_zero hz
    rw [HL.out, HM.out] at hlen
    subst hlen
    have HZ := Lib.hid hz
    have hz' : (code2 3 L 3 M != 0) = false := by simpa using hz
    have h8 := (state_facts hs HL.out).2.2.1
    have HPL := Lib.hid (state_pegsOk hs)
    have HPM := Lib.hid (state_pegsOk ht)
    clear hz hs ht
    rcases grt_cases L M n with hg | ⟨D, hg⟩
    · have HG := Lib.hid hg
      clear hg
      go_enter Try.func26, Try.ntmps26
      go_wp2_with fail
      refine (l02Code_two (w.heap.size + 1 + 1) A n c 3 L B n d 3 M _ Z0.out HL.out hn HI0.out HM.out hm HJ0.out).mono ?_
      rintro e w1 ⟨rfl, hb⟩
      have X1 := Lib.hid (X0.out.below hb X0.out.lt)
      have Y1 := Lib.hid (Y0.out.below hb Y0.out.lt)
      have HI1 := Lib.hid (HI0.out.below hb)
      have HJ1 := Lib.hid (HJ0.out.below hb)
      have HB1 := Lib.hid (HB0.out.trans (hb.mono HB0.out.size))
      clear hb X0 Y0 HI0 HJ0 HB0
      obtain ⟨x0, x1, y0, y1⟩ := cells22 X1.out Y1.out
      go_wp2_with fail
      refine (l02Greatest_calls A n c 3 L B d 3 M _ HL.out HM.out h8 HI1.out HJ1.out).mono ?_
      rintro e w2 ⟨rfl, hb⟩
      have X2 := Lib.hid (X1.out.below hb X1.out.lt)
      have Y2 := Lib.hid (Y1.out.below hb Y1.out.lt)
      have HI2 := Lib.hid (HI1.out.below hb)
      have HJ2 := Lib.hid (HJ1.out.below hb)
      have HB2 := Lib.hid (HB1.out.trans (hb.mono HB1.out.size))
      clear hb X1 Y1 HI1 HJ1 HB1
      rw [HG.out]
      go_wp2
      go_ret2
      exact ⟨ret_two' (nwV_eq HZ.out HL.out HG.out) (nbC_eq HZ.out HL.out HG.out), HB2.out⟩
    · have HG := Lib.hid hg
      clear hg
      go_enter Try.func26, Try.ntmps26
      go_wp2_with fail
      refine (l02Code_two (w.heap.size + 1 + 1) A n c 3 L B n d 3 M _ Z0.out HL.out hn HI0.out HM.out hm HJ0.out).mono ?_
      rintro e w1 ⟨rfl, hb⟩
      have X1 := Lib.hid (X0.out.below hb X0.out.lt)
      have Y1 := Lib.hid (Y0.out.below hb Y0.out.lt)
      have HI1 := Lib.hid (HI0.out.below hb)
      have HJ1 := Lib.hid (HJ0.out.below hb)
      have HB1 := Lib.hid (HB0.out.trans (hb.mono HB0.out.size))
      clear hb X0 Y0 HI0 HJ0 HB0
      obtain ⟨x0, x1, y0, y1⟩ := cells22 X1.out Y1.out
      go_wp2_with fail
      refine (l02Greatest_calls A n c 3 L B d 3 M _ HL.out HM.out h8 HI1.out HJ1.out).mono ?_
      rintro e w2 ⟨rfl, hb⟩
      have X2 := Lib.hid (X1.out.below hb X1.out.lt)
      have Y2 := Lib.hid (Y1.out.below hb Y1.out.lt)
      have HI2 := Lib.hid (HI1.out.below hb)
      have HJ2 := Lib.hid (HJ1.out.below hb)
      have HB2 := Lib.hid (HB1.out.trans (hb.mono HB1.out.size))
      clear hb X1 Y1 HI1 HJ1 HB1
      rw [HG.out]
      clear x0 x1 y0 y1
      obtain ⟨x0, x1, y0, y1⟩ := cells22 X2.out Y2.out
      have hD0 : (0 : Int) ≤ (D : Int) := by omega
      go_wp2_with fail
      refine (l02Numbers_calls A n c 3 L B d 3 M D _ HL.out HM.out h8 HI2.out HJ2.out hcap hc hdap hd HPL.out HPM.out HG.out).mono ?_
      rintro e w3 ⟨rfl, hb⟩
      have X3 := Lib.hid (X2.out.below hb X2.out.lt)
      have Y3 := Lib.hid (Y2.out.below hb Y2.out.lt)
      have HI3 := Lib.hid (HI2.out.below hb)
      have HJ3 := Lib.hid (HJ2.out.below hb)
      have HB3 := Lib.hid (HB2.out.trans (hb.mono HB2.out.size))
      clear hb X2 Y2 HI2 HJ2 HB2
      have hb1 := oneN_bd L M (d := D) (by have := HG.out; have := grt_bd L M n; omega)
      have hb2 := twoN_bd L M (d := D) (by have := HG.out; have := grt_bd L M n; omega)
      have hw := Lib.hid (nwV_ne (v := 1) (f := waysI) HZ.out HL.out HG.out)
      generalize oneN L M D = a at *
      generalize twoN L M D = b at *
      by_cases hab : a = b
      · have ht : (a == b) = true := by simpa using hab
        have HAB := Lib.hid hab
        clear hab
        go_wp2
        go_ret2
        exact ⟨ret_two' (by rw [hw.out]; unfold waysI; rw [if_pos HAB.out]) (nbC_ne HZ.out HL.out HG.out), HB3.out⟩
      · have ht : (a == b) = false := by simpa using hab
        have HAB := Lib.hid hab
        clear hab
        go_wp2
        go_ret2
        exact ⟨ret_two' (by rw [hw.out]; unfold waysI; rw [if_neg HAB.out]) (nbC_ne HZ.out HL.out HG.out), HB3.out⟩
  · have hz' : (code2 p L q M != 0) = true := by simpa using hz
    have HZ := Lib.hid hz
    clear hz
    go_enter Try.func26, Try.ntmps26
    go_wp2_with fail
    refine (l02Code_two (w.heap.size + 1 + 1) A n c p L B m d q M _ Z0.out HL.out hn HI0.out HM.out hm HJ0.out).mono ?_
    rintro e w1 ⟨rfl, hb⟩
    have X1 := Lib.hid (X0.out.below hb X0.out.lt)
    have Y1 := Lib.hid (Y0.out.below hb Y0.out.lt)
    have HI1 := Lib.hid (HI0.out.below hb)
    have HJ1 := Lib.hid (HJ0.out.below hb)
    have HB1 := Lib.hid (HB0.out.trans (hb.mono HB0.out.size))
    clear hb X0 Y0 HI0 HJ0 HB0
    go_wp2
    go_ret2
    exact ⟨ret_two' (nwV_code HZ.out) (nbC_code HZ.out), HB1.out⟩

theorem nb_five {p q : Int} {L M : List Int} (h : nbC 5 p L q M = 5) : (∀ v f, nwV v f p L q M = v) ∧ (∀ v, nbC v p L q M = v) := by
  by_cases hz : code2 p L q M = 0
  · by_cases hg : grt L M L.length = -1
    · exact ⟨fun v f => nwV_eq hz rfl hg, fun v => nbC_eq hz rfl hg⟩
    · exfalso
      unfold nbC at h
      rw [if_pos hz, if_neg hg] at h
      omega
  · exfalso
    have := code2_bd p q L M
    unfold nbC at h
    rw [if_neg hz] at h
    omega
theorem nb_notfive {p q : Int} {L M : List Int} (h : ¬ nbC 5 p L q M = 5) : (∀ v f, f 0 0 = 0 → nwV v f p L q M = f (nwV 0 fstI p L q M) (nwV 0 sndI p L q M)) ∧ (∀ v, nbC v p L q M = nbC 5 p L q M) := by
  by_cases hz : code2 p L q M = 0
  · by_cases hg : grt L M L.length = -1
    · exact absurd (nbC_eq hz rfl hg) h
    · constructor
      · intro v f hf
        unfold nwV
        simp only [if_pos hz, if_neg hg, fstI, sndI]
      · intro v
        unfold nbC
        simp only [if_pos hz, if_neg hg]
  · constructor
    · intro v f hf
      simp only [nwV_code hz, hf]
    · intro v
      simp only [nbC_code hz]
theorem nb_zero {p q : Int} {L M : List Int} (h : nbC 5 p L q M = 0) : ∀ v f, nwV v f p L q M = f (nwV 0 fstI p L q M) (nwV 0 sndI p L q M) := by
  by_cases hz : code2 p L q M = 0
  · by_cases hg : grt L M L.length = -1
    · have := nbC_eq (v := 5) hz rfl hg
      omega
    · intro v f
      unfold nwV
      simp only [if_pos hz, if_neg hg, fstI, sndI]
  · exact absurd ((nbC_code (v := 5) hz).symm.trans h) hz
theorem nb_notzero {p q : Int} {L M : List Int} (h : ¬ nbC 5 p L q M = 0) (h5 : ¬ nbC 5 p L q M = 5) : ∀ v f, nwV v f p L q M = 0 := by
  by_cases hz : code2 p L q M = 0
  · exfalso
    by_cases hg : grt L M L.length = -1
    · exact h5 (nbC_eq hz rfl hg)
    · apply h
      unfold nbC
      rw [if_pos hz, if_neg hg]
  · exact fun v f => nwV_code hz
theorem nbC_zero2 {p q : Int} {L M : List Int} (h : nbC 5 p L q M = 0) : nbC 0 p L q M = 0 := by
  by_cases hz : code2 p L q M = 0
  · by_cases hg : grt L M L.length = -1
    · exact nbC_eq hz rfl hg
    · unfold nbC
      rw [if_pos hz, if_neg hg]
  · rw [nbC_code hz] at h ⊢
    exact h
theorem fstI_bd (a b : Int) (h : 0 ≤ a ∧ a ≤ 1000) (h' : 0 ≤ b ∧ b ≤ 1000) : 0 ≤ fstI a b ∧ fstI a b ≤ 1000 := h
theorem sndI_bd (a b : Int) (h : 0 ≤ a ∧ a ≤ 1000) (h' : 0 ≤ b ∧ b ≤ 1000) : 0 ≤ sndI a b ∧ sndI a b ≤ 1000 := h'
theorem nwV_bd (f : Int → Int → Int) (hf : ∀ a b, 0 ≤ a ∧ a ≤ 1000 → 0 ≤ b ∧ b ≤ 1000 → 0 ≤ f a b ∧ f a b ≤ 1000) (p q : Int) (L M : List Int) : 0 ≤ nwV 0 f p L q M ∧ nwV 0 f p L q M ≤ 1000 := by
  unfold nwV
  split
  · next hz =>
    split
    · omega
    · have hs := (code2_zero hz).1
      have h8 := (state_facts hs rfl).2.2.1
      have := (grt_bd L M L.length).2
      exact hf _ _ (oneN_bd L M (by omega)) (twoN_bd L M (by omega))
  · omega

set_option maxHeartbeats 1000000 in
theorem implOneMoveNumber_calls (A : Option Addr) (n c : Nat) (p : Int) (L : List Int) (B : Option Addr) (m d : Nat) (q : Int) (M : List Int) (w : World) (hL : L.length = n) (hn : n ≤ 1048576) (hI : Ints w A L) (hcap : n ≤ c) (hc : c ≤ 9223372036854775807) (hM : M.length = m) (hm : m ≤ 1048576) (hJ : Ints w B M) (hdap : m ≤ d) (hd : d ≤ 9223372036854775807) :
    Calls Try.prog 21 #[.agg #[.int .i64 p, .slice A n c], .agg #[.int .i64 q, .slice B m d]] w fun e w' => e = .returned (.tuple #[.int .i64 (nwV 0 fstI p L q M), .int .i64 (nbC 5 p L q M)]) ∧ Below w.heap.size w w' := by
  have HL := Lib.hid hL
  have HM := Lib.hid hM
  obtain ⟨b1, b2, b3⟩ := twoBoxes w p q A B n c m d 30
  have HB0 := Lib.hid b3
  have HI0 := Lib.hid (hI.below b3)
  have HJ0 := Lib.hid (hJ.below b3)
  obtain ⟨x0, x1, y0, y1⟩ := cells22 b1 b2
  clear hL hM b1 b2 b3 hI hJ
  go_enter Try.func21, Try.ntmps21
  go_wp2_with fail
  refine (numbersBetween_calls A n c p L B m d q M _ HL.out hn HI0.out hcap hc HM.out hm HJ0.out hdap hd).mono ?_
  rintro e w1 ⟨rfl, hb⟩
  have HB1 := Lib.hid (HB0.out.trans (hb.mono HB0.out.size))
  clear hb
  go_wp2
  go_ret2
  exact ⟨rfl, HB1.out⟩

set_option maxHeartbeats 1000000 in
theorem implTwoMoveNumber_calls (A : Option Addr) (n c : Nat) (p : Int) (L : List Int) (B : Option Addr) (m d : Nat) (q : Int) (M : List Int) (w : World) (hL : L.length = n) (hn : n ≤ 1048576) (hI : Ints w A L) (hcap : n ≤ c) (hc : c ≤ 9223372036854775807) (hM : M.length = m) (hm : m ≤ 1048576) (hJ : Ints w B M) (hdap : m ≤ d) (hd : d ≤ 9223372036854775807) :
    Calls Try.prog 23 #[.agg #[.int .i64 p, .slice A n c], .agg #[.int .i64 q, .slice B m d]] w fun e w' => e = .returned (.tuple #[.int .i64 (nwV 0 sndI p L q M), .int .i64 (nbC 5 p L q M)]) ∧ Below w.heap.size w w' := by
  have HL := Lib.hid hL
  have HM := Lib.hid hM
  obtain ⟨b1, b2, b3⟩ := twoBoxes w p q A B n c m d 30
  have HB0 := Lib.hid b3
  have HI0 := Lib.hid (hI.below b3)
  have HJ0 := Lib.hid (hJ.below b3)
  obtain ⟨x0, x1, y0, y1⟩ := cells22 b1 b2
  clear hL hM b1 b2 b3 hI hJ
  go_enter Try.func23, Try.ntmps23
  go_wp2_with fail
  refine (numbersBetween_calls A n c p L B m d q M _ HL.out hn HI0.out hcap hc HM.out hm HJ0.out hdap hd).mono ?_
  rintro e w1 ⟨rfl, hb⟩
  have HB1 := Lib.hid (HB0.out.trans (hb.mono HB0.out.size))
  clear hb
  go_wp2
  go_ret2
  exact ⟨rfl, HB1.out⟩

set_option maxHeartbeats 1000000 in
theorem implDistanceByRule_calls (A : Option Addr) (n c : Nat) (p : Int) (L : List Int) (B : Option Addr) (m d : Nat) (q : Int) (M : List Int) (w : World) (hL : L.length = n) (hn : n ≤ 1048576) (hI : Ints w A L) (hcap : n ≤ c) (hc : c ≤ 9223372036854775807) (hM : M.length = m) (hm : m ≤ 1048576) (hJ : Ints w B M) (hdap : m ≤ d) (hd : d ≤ 9223372036854775807) :
    Calls Try.prog 9 #[.agg #[.int .i64 p, .slice A n c], .agg #[.int .i64 q, .slice B m d]] w fun e w' => e = .returned (.tuple #[.int .i64 (nwV 0 min p L q M), .int .i64 (nbC 0 p L q M)]) ∧ Below w.heap.size w w' := by
  have HL := Lib.hid hL
  have HM := Lib.hid hM
  obtain ⟨b1, b2, b3⟩ := twoBoxes w p q A B n c m d 30
  have HB0 := Lib.hid b3
  have HI0 := Lib.hid (hI.below b3)
  have HJ0 := Lib.hid (hJ.below b3)
  obtain ⟨x0, x1, y0, y1⟩ := cells22 b1 b2
  clear hL hM b1 b2 b3 hI hJ
  by_cases h5 : nbC 5 p L q M = 5
  · have ht : (nbC 5 p L q M == 5) = true := by simpa using h5
    have HV := Lib.hid (nb_five h5)
    clear h5
    go_enter Try.func9, Try.ntmps9
    go_wp2_with fail
    refine (numbersBetween_calls A n c p L B m d q M _ HL.out hn HI0.out hcap hc HM.out hm HJ0.out hdap hd).mono ?_
    rintro e w1 ⟨rfl, hb⟩
    have HB1 := Lib.hid (HB0.out.trans (hb.mono HB0.out.size))
    clear hb
    go_wp2
    go_ret2
    exact ⟨ret_two' (HV.out.1 _ _) (HV.out.2 _), HB1.out⟩
  · have ht : (nbC 5 p L q M == 5) = false := by simpa using h5
    have HV := Lib.hid (nb_notfive h5)
    have hbo := nwV_bd fstI fstI_bd p q L M
    have hbt := nwV_bd sndI sndI_bd p q L M
    clear h5
    go_enter Try.func9, Try.ntmps9
    go_wp2_with fail
    refine (numbersBetween_calls A n c p L B m d q M _ HL.out hn HI0.out hcap hc HM.out hm HJ0.out hdap hd).mono ?_
    rintro e w1 ⟨rfl, hb⟩
    have HB1 := Lib.hid (HB0.out.trans (hb.mono HB0.out.size))
    clear hb
    have hw := Lib.hid (HV.out.1 0 min (by simp))
    have hw2 := Lib.hid (HV.out.2 0)
    clear HV
    generalize nwV 0 fstI p L q M = a at *
    generalize nwV 0 sndI p L q M = b at *
    go_wp2
    all_goals
      go_ret2
      exact ⟨ret_two' (by rw [hw.out]; omega) hw2.out, HB1.out⟩

set_option maxHeartbeats 1000000 in
theorem implWaysByRule_calls (A : Option Addr) (n c : Nat) (p : Int) (L : List Int) (B : Option Addr) (m d : Nat) (q : Int) (M : List Int) (w : World) (hL : L.length = n) (hn : n ≤ 1048576) (hI : Ints w A L) (hcap : n ≤ c) (hc : c ≤ 9223372036854775807) (hM : M.length = m) (hm : m ≤ 1048576) (hJ : Ints w B M) (hdap : m ≤ d) (hd : d ≤ 9223372036854775807) :
    Calls Try.prog 25 #[.agg #[.int .i64 p, .slice A n c], .agg #[.int .i64 q, .slice B m d]] w fun e w' => e = .returned (.tuple #[.int .i64 (nwV 1 waysI p L q M), .int .i64 (nbC 0 p L q M)]) ∧ Below w.heap.size w w' := by
  have HL := Lib.hid hL
  have HM := Lib.hid hM
  obtain ⟨b1, b2, b3⟩ := twoBoxes w p q A B n c m d 30
  have HB0 := Lib.hid b3
  have HI0 := Lib.hid (hI.below b3)
  have HJ0 := Lib.hid (hJ.below b3)
  obtain ⟨x0, x1, y0, y1⟩ := cells22 b1 b2
  clear hL hM b1 b2 b3 hI hJ
  by_cases h5 : nbC 5 p L q M = 5
  · have ht : (nbC 5 p L q M == 5) = true := by simpa using h5
    have HV := Lib.hid (nb_five h5)
    clear h5
    go_enter Try.func25, Try.ntmps25
    go_wp2_with fail
    refine (numbersBetween_calls A n c p L B m d q M _ HL.out hn HI0.out hcap hc HM.out hm HJ0.out hdap hd).mono ?_
    rintro e w1 ⟨rfl, hb⟩
    have HB1 := Lib.hid (HB0.out.trans (hb.mono HB0.out.size))
    clear hb
    go_wp2
    go_ret2
    exact ⟨ret_two' (HV.out.1 _ _) (HV.out.2 _), HB1.out⟩
  · have ht : (nbC 5 p L q M == 5) = false := by simpa using h5
    have HV := Lib.hid (nb_notfive h5)
    clear h5
    by_cases hz : nbC 5 p L q M = 0
    · have hz' : (nbC 5 p L q M != 0) = false := by simpa using hz
      have HZ := Lib.hid (nb_zero hz)
      have hw3 := Lib.hid (nbC_zero2 hz)
      clear hz
      go_enter Try.func25, Try.ntmps25
      go_wp2_with fail
      refine (numbersBetween_calls A n c p L B m d q M _ HL.out hn HI0.out hcap hc HM.out hm HJ0.out hdap hd).mono ?_
      rintro e w1 ⟨rfl, hb⟩
      have HB1 := Lib.hid (HB0.out.trans (hb.mono HB0.out.size))
      clear hb
      have hw := Lib.hid (HZ.out 1 waysI)
      have hw2 := Lib.hid (HV.out.2 0)
      clear HV HZ
      generalize nwV 0 fstI p L q M = a at *
      generalize nwV 0 sndI p L q M = b at *
      by_cases hab : a = b
      · have ht : (a == b) = true := by simpa using hab
        have HAB := Lib.hid hab
        clear hab
        go_wp2
        go_ret2
        exact ⟨ret_two' (by rw [hw.out]; unfold waysI; rw [if_pos HAB.out]) hw3.out, HB1.out⟩
      · have ht : (a == b) = false := by simpa using hab
        have HAB := Lib.hid hab
        clear hab
        go_wp2
        go_ret2
        exact ⟨ret_two' (by rw [hw.out]; unfold waysI; rw [if_neg HAB.out]) hw3.out, HB1.out⟩
    · have hz' : (nbC 5 p L q M != 0) = true := by simpa using hz
      have HZ := Lib.hid (nb_notzero hz (by intro h; rw [h] at ht; simp at ht))
      clear hz
      go_enter Try.func25, Try.ntmps25
      go_wp2_with fail
      refine (numbersBetween_calls A n c p L B m d q M _ HL.out hn HI0.out hcap hc HM.out hm HJ0.out hdap hd).mono ?_
      rintro e w1 ⟨rfl, hb⟩
      have HB1 := Lib.hid (HB0.out.trans (hb.mono HB0.out.size))
      clear hb
      go_wp2
      go_ret2
      exact ⟨ret_two' (HZ.out 1 waysI) (HV.out.2 0), HB1.out⟩

end Go.Proofs.Ytbcgomimfgggnaa

namespace Go.Proofs.Ytbcgomimfgggnaa
open Go.RowKit
set_option linter.unusedVariables false
set_option maxRecDepth 100000

end Go.Proofs.Ytbcgomimfgggnaa

namespace Go.Proofs.Ytbcgomimfgggnaa
open Go.RowKit
set_option linter.unusedVariables false
set_option maxRecDepth 100000

/-- Whether a move is legal in a state. -/
def legalB (p : Int) (L : List Int) (d f t : Int) : Bool :=
  decide (0 ≤ d ∧ d < L.length ∧ 0 ≤ t ∧ t < p ∧ f ≠ t ∧ L.getD d.toNat 0 = f) && (List.range d.toNat).all (fun i => L.getD i 0 != f && L.getD i 0 != t)
def clearTo (L : List Int) (f t : Int) (k : Nat) : Prop := ∀ i, i < k → L.getD i 0 ≠ f ∧ L.getD i 0 ≠ t
theorem legal_yes {p : Int} {L : List Int} {d f t : Int} (h : 0 ≤ d ∧ d < L.length ∧ 0 ≤ t ∧ t < p ∧ f ≠ t ∧ L.getD d.toNat 0 = f) (hc : clearTo L f t d.toNat) : legalB p L d f t = true := by
  unfold legalB
  rw [Bool.and_eq_true, decide_eq_true_iff, List.all_eq_true]
  refine ⟨h, fun i hi => ?_⟩
  have := hc i (by simpa using hi)
  simp only [Bool.and_eq_true, bne_iff_ne]
  exact this
theorem legal_no {p : Int} {L : List Int} {d f t : Int} (h : ¬ (0 ≤ d ∧ d < L.length ∧ 0 ≤ t ∧ t < p ∧ f ≠ t ∧ L.getD d.toNat 0 = f)) : legalB p L d f t = false := by
  unfold legalB
  rw [Bool.and_eq_false_iff, decide_eq_false_iff_not]
  exact .inl h
theorem legal_no2 {p : Int} {L : List Int} {d f t : Int} {i : Nat} (hi : i < d.toNat) (h : L.getD i 0 = f ∨ L.getD i 0 = t) : legalB p L d f t = false := by
  unfold legalB
  rw [Bool.and_eq_false_iff, List.all_eq_false]
  right
  refine ⟨i, by simpa using hi, ?_⟩
  simp only [Bool.and_eq_true, bne_iff_ne]
  rintro ⟨h1, h2⟩
  rcases h with h | h
  · exact h1 h
  · exact h2 h
theorem ret_legal {p : Int} {L : List Int} {d f t : Int} {b : Bool} (h : legalB p L d f t = b) : Ending.returned (.bool b) = .returned (.bool (legalB p L d f t)) := by rw [h]

set_option maxHeartbeats 2000000 in
theorem isLegalMove_calls (A : Option Addr) (n c : Nat) (p : Int) (L : List Int) (d f t : Int) (w : World) (hL : L.length = n) (hcap : n ≤ c) (hc63 : c ≤ 9223372036854775807) (hI : Ints w A L) (hs : stateB p L = true) :
    Calls Try.prog 73 #[.agg #[.int .i64 p, .slice A n c], .agg #[.int .i64 d, .int .i64 f, .int .i64 t]] w fun e w' => e = .returned (.bool (legalB p L d f t)) ∧ Below w.heap.size w w' := by
  obtain ⟨h3, h5, h8, _⟩ := state_facts hs hL
  have HL : Hid (L.length = n) := hL
  have hb0 : Below w.heap.size w ((w.alloc (.cells #[.int .i64 p, .slice A n c] 30)).alloc (.cells #[.int .i64 d, .int .i64 f, .int .i64 t] 69)) := ((Below.refl _ _).alloc (Nat.le_refl _) _).alloc (by simp) _
  have HB0 := Lib.hid hb0
  have HI := Lib.hid (hI.below hb0)
  clear hL hs hb0 hI
  by_cases hd0 : d < 0
  · have e1 : decide (d < 0) = true := by simpa using hd0
    go_enter Try.func73, Try.ntmps73
    go_wp2_with fail
    go_quiet (fail)
    go_wp2
    go_ret
    exact ⟨ret_legal (legal_no (by rintro ⟨h, _⟩; omega)), belowDraws HB0.out _⟩
  have e1 : decide (d < 0) = false := by simpa using hd0
  obtain ⟨j, rfl⟩ := Int.eq_ofNat_of_zero_le (a := d) (by omega)
  clear hd0
  have hd0 : (0 : Int) ≤ (j : Int) := by omega
  by_cases hdn : n ≤ j
  · have e2 : decide ((n : Int) ≤ (j : Int)) = true := by simpa using hdn
    have HD := Lib.hid hdn
    go_enter Try.func73, Try.ntmps73
    go_wp2_with fail
    go_quiet (fail)
    go_wp2
    go_ret
    exact ⟨ret_legal (legal_no (by rw [HL.out]; rintro ⟨_, h, _⟩; have := HD.out; omega)), belowDraws HB0.out _⟩
  have e2 : decide ((n : Int) ≤ (j : Int)) = false := by simpa using hdn
  have e2' : decide (n ≤ j) = false := by simpa using hdn
  have hd1 : (j : Int) < (n : Int) := by omega
  clear hdn
  obtain ⟨ad, rfl, had, hc⟩ := HI.out j (by rw [HL.out]; omega)
  by_cases hx : L[j]?.getD 0 = f
  · have e4 : (L[j]?.getD 0 != f) = false := by simpa using hx
    have HX := Lib.hid hx
    clear hx
    by_cases hft : f = t
    · have e3 : (f == t) = true := by simpa using hft
      have HF := Lib.hid hft
      clear hft
      go_enter Try.func73, Try.ntmps73
      go_wp2_with fail
      go_quiet (fail)
      go_wp2
      go_ret
      exact ⟨ret_legal (legal_no (by rw [HF.out]; rintro ⟨_, _, _, _, h, _⟩; exact h rfl)), belowDraws HB0.out _⟩
    · have e3 : (f == t) = false := by simpa using hft
      have HF := Lib.hid hft
      clear hft
      by_cases ht : pegB p t = true
      · have HT := Lib.hid (inB_of (show inB t 0 (p - 1) = true by rw [← pegB_in]; exact ht))
        go_enter Try.func73, Try.ntmps73
        go_wp2_with fail
        go_quiet (fail)
        go_wp2_with fail
        refine (isPeg_calls p t _).mono ?_
        rintro e w' ⟨rfl, rfl⟩
        go_wp2
        go_loopw [6, 48] (fun _ i wr => ∃ k : Nat, k ≤ j ∧ i = .int .i64 k ∧ clearTo L f t k ∧ ∃ m, wr = ((w.alloc (.cells #[.int .i64 p, .slice (some ad) n c] 30)).alloc (.cells #[.int .i64 j, .int .i64 f, .int .i64 t] 69)).drewN m) (fun _ i _ => j - (intOf i).toNat)
        case atStart => exact ⟨0, Nat.zero_le _, rfl, fun i hi => absurd hi (by omega), by first | exact ⟨_, rfl⟩ | exact ⟨0, rfl⟩⟩
        case round =>
          obtain ⟨k, hk, rfl, hcl, m, rfl⟩ := hrel
          have HC := Lib.hid hcl
          clear hcl
          by_cases hlt : k < j
          · obtain ⟨ad', had', _, hc'⟩ := HI.out k (by rw [HL.out]; omega)
            injection had' with had'
            subst had'
            by_cases hf : L[k]?.getD 0 = f
            · have e5 : (L[k]?.getD 0 == f) = true := by simpa using hf
              have HF2 := Lib.hid hf
              clear hf
              go_wp2
              go_ret
              exact ⟨ret_legal (legal_no2 (i := k) (by simpa using hlt) (.inl (by simpa using HF2.out))), by first | exact belowDraws HB0.out _ | exact belowDraws (belowDraws HB0.out _) _⟩
            · have e5 : (L[k]?.getD 0 == f) = false := by simpa using hf
              have HF2 := Lib.hid hf
              clear hf
              by_cases hg : L[k]?.getD 0 = t
              · have e6 : (L[k]?.getD 0 == t) = true := by simpa using hg
                have HG2 := Lib.hid hg
                clear hg
                go_wp2
                go_ret
                exact ⟨ret_legal (legal_no2 (i := k) (by simpa using hlt) (.inr (by simpa using HG2.out))), by first | exact belowDraws HB0.out _ | exact belowDraws (belowDraws HB0.out _) _⟩
              · have e6 : (L[k]?.getD 0 == t) = false := by simpa using hg
                have HG2 := Lib.hid hg
                clear hg
                go_wp2
                go_roundw
                case rel => exact ⟨k + 1, by omega, by go_num, fun i hi => by
                  by_cases hik : i = k
                  · subst hik; exact ⟨by simpa using HF2.out, by simpa using HG2.out⟩
                  · exact HC.out i (by omega), by first | exact ⟨_, rfl⟩ | exact ⟨_, World.drewN_drewN _ _ _⟩⟩
                case measure => simp [intOf]; omega
          · obtain rfl : k = j := by omega
            go_wp2
            go_ret
            have htt := HT.out
            exact ⟨ret_legal (legal_yes ⟨by omega, by rw [HL.out]; omega, by omega, by omega, HF.out, by simpa using HX.out⟩ (by simpa using HC.out)), by first | exact belowDraws HB0.out _ | exact belowDraws (belowDraws HB0.out _) _⟩
      · have ht' : pegB p t = false := by simpa using ht
        have HT := Lib.hid ht
        clear ht
        go_enter Try.func73, Try.ntmps73
        go_wp2_with fail
        go_quiet (fail)
        go_wp2_with fail
        refine (isPeg_calls p t _).mono ?_
        rintro e w' ⟨rfl, rfl⟩
        go_wp2
        go_ret
        exact ⟨ret_legal (legal_no (by rintro ⟨_, _, h, h', _⟩; exact HT.out (by rw [pegB_in]; exact inB_yes h (by omega)))), belowDraws HB0.out _⟩
  · have e4 : (L[j]?.getD 0 != f) = true := by simpa using hx
    have HX := Lib.hid hx
    clear hx
    go_enter Try.func73, Try.ntmps73
    go_wp2_with fail
    go_quiet (fail)
    go_wp2
    go_ret
    exact ⟨ret_legal (legal_no (by rintro ⟨_, _, _, _, _, h⟩; exact HX.out (by simpa using h))), belowDraws HB0.out _⟩

/-- What IsLegal answers. -/
def islV (p : Int) (L : List Int) (d f t : Int) : Bool := stateB p L && legalB p L d f t
theorem ret_bc {a b : Bool} {x y : Int} (h : a = b) (h' : x = y) : Ending.returned (.tuple #[.bool b, .int .i64 y]) = .returned (.tuple #[.bool a, .int .i64 x]) := by rw [h, h']

end Go.Proofs.Ytbcgomimfgggnaa

namespace Go.Proofs.Ytbcgomimfgggnaa
open Go.RowKit
set_option linter.unusedVariables false
set_option maxRecDepth 100000

/-- A move: disc, from, to. -/
abbrev Mv := Int × Int × Int
def mvV (m : Mv) : Value := .agg #[.int .i64 m.1, .int .i64 m.2.1, .int .i64 m.2.2]
/-- The legal moves of the disc d to the first j pegs. -/
def rowM (p : Int) (L : List Int) (d : Nat) : Nat → List Mv
  | 0 => []
  | j + 1 => rowM p L d j ++ if legalB p L d (L[d]?.getD 0) j = true then [((d : Int), L[d]?.getD 0, (j : Int))] else []
/-- The legal moves of the first d discs. -/
def movesTo (p : Int) (L : List Int) : Nat → List Mv
  | 0 => []
  | d + 1 => movesTo p L d ++ rowM p L d p.toNat
def movesL (p : Int) (L : List Int) : List Mv := movesTo p L L.length
theorem rowM_yes {p : Int} {L : List Int} {d j : Nat} (h : legalB p L d (L[d]?.getD 0) j = true) : rowM p L d (j + 1) = rowM p L d j ++ [((d : Int), L[d]?.getD 0, (j : Int))] := by simp [rowM, h]
theorem rowM_no {p : Int} {L : List Int} {d j : Nat} (h : legalB p L d (L[d]?.getD 0) j = false) : rowM p L d (j + 1) = rowM p L d j := by simp [rowM, h]
theorem rowM_len (p : Int) (L : List Int) (d : Nat) : ∀ j, (rowM p L d j).length ≤ j
  | 0 => by simp [rowM]
  | j + 1 => by
    have ih := rowM_len p L d j
    simp only [rowM, List.length_append]
    split <;> simp <;> omega
theorem movesTo_len {p : Int} (hp : p ≤ 5) (L : List Int) : ∀ d, (movesTo p L d).length ≤ d * 5
  | 0 => by simp [movesTo]
  | d + 1 => by
    have ih := movesTo_len hp L d
    have h := rowM_len p L d p.toNat
    simp only [movesTo, List.length_append]
    omega
theorem rowM_prefix (p : Int) (L : List Int) (d : Nat) {i j : Nat} (h : i ≤ j) : rowM p L d i <+: rowM p L d j := by
  induction j with
  | zero => obtain rfl : i = 0 := by omega
            exact List.prefix_refl _
  | succ j ih =>
    by_cases hi : i = j + 1
    · subst hi; exact List.prefix_refl _
    · exact (ih (by omega)).trans ⟨_, rfl⟩
theorem movesTo_prefix (p : Int) (L : List Int) {a b : Nat} (h : a ≤ b) : movesTo p L a <+: movesTo p L b := by
  induction b with
  | zero => obtain rfl : a = 0 := by omega
            exact List.prefix_refl _
  | succ b ih =>
    by_cases hi : a = b + 1
    · subst hi; exact List.prefix_refl _
    · exact (ih (by omega)).trans ⟨_, rfl⟩
theorem moves_prefix {p : Int} {L : List Int} {d j : Nat} (hd : d < L.length) (hj : j ≤ p.toNat) : movesTo p L d ++ rowM p L d j <+: movesL p L := by
  have h1 : movesTo p L d ++ rowM p L d j <+: movesTo p L (d + 1) := by
    simp only [movesTo]
    exact (List.prefix_append_right_inj _).2 (rowM_prefix p L d hj)
  exact h1.trans (movesTo_prefix p L (by omega))
theorem movesL_len {p : Int} {L : List Int} (h : stateB p L = true) : (movesL p L).length ≤ 40 := by
  obtain ⟨h3, h5, h8, _⟩ := state_facts h rfl
  have := movesTo_len h5 L L.length
  unfold movesL
  omega
theorem moves_lt {p : Int} {L : List Int} {d j : Nat} (h : stateB p L = true) (hd : d < L.length) (hj : j < p.toNat) : (movesTo p L d ++ rowM p L d j).length < 40 := by
  obtain ⟨h3, h5, h8, _⟩ := state_facts h rfl
  have h1 := movesTo_len h5 L d
  have h2 := rowM_len p L d j
  rw [List.length_append]
  omega
theorem rowM_legal {p : Int} {L : List Int} {d : Nat} : ∀ (j : Nat) (x : Mv), x ∈ rowM p L d j → legalB p L x.1 x.2.1 x.2.2 = true
  | 0, x, h => by simp [rowM] at h
  | j + 1, x, h => by
    by_cases hl : legalB p L d (L[d]?.getD 0) j = true
    · rw [rowM_yes hl] at h
      rcases List.mem_append.1 h with h | h
      · exact rowM_legal j x h
      · simp at h; subst h; exact hl
    · rw [rowM_no (by simpa using hl)] at h
      exact rowM_legal j x h
theorem movesTo_legal {p : Int} {L : List Int} : ∀ (d : Nat) (x : Mv), x ∈ movesTo p L d → legalB p L x.1 x.2.1 x.2.2 = true
  | 0, x, h => by simp [movesTo] at h
  | d + 1, x, h => by
    rcases List.mem_append.1 (show x ∈ movesTo p L d ++ rowM p L d p.toNat from h) with h | h
    · exact movesTo_legal d x h
    · exact rowM_legal _ x h

end Go.Proofs.Ytbcgomimfgggnaa

namespace Go.Proofs.Ytbcgomimfgggnaa
open Go.RowKit
set_option linter.unusedVariables false
set_option maxRecDepth 100000

theorem distTo_cons (x y : Int) (L G : List Int) : ∀ k, distTo (x :: L) (y :: G) (k + 1) = (if x = y then 0 else 1) + 2 * distTo L G k
  | 0 => by simp [distTo, pow2_zero]
  | k + 1 => by
    have ih := distTo_cons x y L G k
    rw [distTo, ih, distTo]
    have hp := pow2_succ k
    simp only [List.getElem?_cons_succ]
    split <;> omega
theorem distP_cons (x : Int) (L : List Int) (a : Int) : distP (x :: L) a = (if x = aft L a then 0 else 1) + 2 * distP L a := distTo_cons x (aft L a) L (goalsL L a) L.length
theorem distTo_nonneg (L G : List Int) : ∀ k, 0 ≤ distTo L G k
  | 0 => Int.le_refl _
  | k + 1 => by
    have ih := distTo_nonneg L G k
    have : 0 ≤ pow2 k := Int.natCast_nonneg _
    unfold distTo
    split <;> omega
theorem distP_nonneg (L : List Int) (a : Int) : 0 ≤ distP L a := distTo_nonneg _ _ _
/-- The least disc that is not on its goal; the length if there is none. -/
def fdW : List Int → Int → Nat
  | [], _ => 0
  | x :: r, a => if x = aft r a then fdW r a + 1 else 0
theorem fdW_le (L : List Int) (a : Int) : fdW L a ≤ L.length := by
  induction L with
  | nil => exact Nat.le_refl _
  | cons x r ih => unfold fdW; split <;> simp; exact ih
theorem fdW_before (L : List Int) (a : Int) : ∀ j, j < fdW L a → L[j]?.getD 0 = (goalsL L a)[j]?.getD 0 := by
  induction L with
  | nil => intro j hj; simp [fdW] at hj
  | cons x r ih =>
    intro j hj
    unfold fdW at hj
    split at hj
    · next h =>
      cases j with
      | zero => simpa [goalsL] using h
      | succ j => simpa [goalsL] using ih j (by omega)
    · omega
theorem fdW_at (L : List Int) (a : Int) : fdW L a < L.length → L[fdW L a]?.getD 0 ≠ (goalsL L a)[fdW L a]?.getD 0 := by
  induction L with
  | nil => intro h; simp at h
  | cons x r ih =>
    intro h
    unfold fdW at h ⊢
    split
    · next hx =>
      rw [if_pos hx] at h
      simpa [goalsL] using ih (by simpa using h)
    · next hx => simpa [goalsL] using hx
theorem fdW_is (L : List Int) (a : Int) {j : Nat} (hj : j < L.length) (hb : ∀ i, i < j → L[i]?.getD 0 = (goalsL L a)[i]?.getD 0) (hn : L[j]?.getD 0 ≠ (goalsL L a)[j]?.getD 0) : fdW L a = j := by
  rcases Nat.lt_trichotomy (fdW L a) j with h | h | h
  · exact absurd (hb _ h) (fdW_at L a (by omega))
  · exact h
  · exact absurd (fdW_before L a j h) hn
theorem fdW_all (L : List Int) (a : Int) (hb : ∀ i, i < L.length → L[i]?.getD 0 = (goalsL L a)[i]?.getD 0) : fdW L a = L.length := by
  rcases Nat.lt_or_ge (fdW L a) L.length with h | h
  · exact absurd (hb _ h) (fdW_at L a h)
  · exact Nat.le_antisymm (fdW_le L a) h
/-- The state behind one move of the way. -/
def stepW (L : List Int) (a : Int) : List Int := L.set (fdW L a) ((goalsL L a)[fdW L a]?.getD 0)
theorem stepW_len (L : List Int) (a : Int) : (stepW L a).length = L.length := by simp [stepW]
theorem stepW_yes {x a : Int} {r : List Int} (h : x = aft r a) : stepW (x :: r) a = x :: stepW r a := by
  unfold stepW
  rw [fdW, if_pos h]
  simp [goalsL]
theorem stepW_no {x a : Int} {r : List Int} (h : x ≠ aft r a) : stepW (x :: r) a = aft r a :: r := by
  unfold stepW
  rw [fdW, if_neg h]
  simp [goalsL]
theorem pegsOk_cons {x : Int} {r : List Int} (h : pegsOk (x :: r)) : (0 ≤ x ∧ x ≤ 2) ∧ pegsOk r := ⟨h x (by simp), fun y hy => h y (List.mem_cons_of_mem _ hy)⟩
theorem stepW_pegs (L : List Int) (a : Int) (h : pegsOk L) (ha : 0 ≤ a ∧ a ≤ 2) : pegsOk (stepW L a) := by
  induction L with
  | nil => exact h
  | cons x r ih =>
    obtain ⟨hx, hr⟩ := pegsOk_cons h
    by_cases e : x = aft r a
    · rw [stepW_yes e]
      intro y hy
      rcases List.mem_cons.1 hy with rfl | hy
      · exact hx
      · exact ih hr y hy
    · rw [stepW_no e]
      intro y hy
      rcases List.mem_cons.1 hy with rfl | hy
      · exact aft_bd r a hr ha
      · exact hr y hy
theorem fdW_lt_iff (L : List Int) (a : Int) : fdW L a < L.length ↔ 0 < distP L a := by
  induction L with
  | nil => simp [fdW, distP, distTo]
  | cons x r ih =>
    rw [distP_cons]
    have := distP_nonneg r a
    unfold fdW
    split
    · simp only [List.length_cons]; omega
    · simp only [List.length_cons]; omega
theorem stepW_dist (L : List Int) (a : Int) (h : pegsOk L) (ha : 0 ≤ a ∧ a ≤ 2) (hd : 0 < distP L a) : distP (stepW L a) a = distP L a - 1 ∧ aft (stepW L a) a ≠ aft L a := by
  induction L with
  | nil => simp [distP, distTo] at hd
  | cons x r ih =>
    obtain ⟨hx, hr⟩ := pegsOk_cons h
    have hb := aft_bd r a hr ha
    rw [distP_cons] at hd ⊢
    by_cases e : x = aft r a
    · rw [if_pos e] at hd
      obtain ⟨i1, i2⟩ := ih hr (by omega)
      have hb' := aft_bd (stepW r a) a (stepW_pegs r a hr ha) ha
      rw [stepW_yes e, distP_cons, i1, if_pos e]
      have hne : x ≠ aft (stepW r a) a := by rw [e]; exact fun h => i2 h.symm
      refine ⟨by rw [if_neg hne]; omega, ?_⟩
      rw [aft, if_neg hne, aft, if_pos e]
      omega
    · rw [stepW_no e, distP_cons, if_pos rfl, if_neg e]
      refine ⟨by omega, ?_⟩
      rw [aft, if_pos rfl, aft, if_neg e]
      omega
/-- The move that the way makes, and the way: at most k moves of it. -/
def mvW (L : List Int) (a : Int) : Mv := ((fdW L a : Int), L[fdW L a]?.getD 0, (goalsL L a)[fdW L a]?.getD 0)
def wyL : Nat → List Int → Int → List Mv
  | 0, _, _ => []
  | k + 1, L, a => mvW L a :: wyL k (stepW L a) a
/-- The whole way. -/
def wayL (L : List Int) (a : Int) : List Mv := wyL (distP L a).toNat L a
theorem wyL_len : ∀ (k : Nat) (L : List Int) (a : Int), (wyL k L a).length = k
  | 0, _, _ => rfl
  | k + 1, L, a => by simp [wyL, wyL_len k]
theorem wayL_len (L : List Int) (a : Int) : (wayL L a).length = (distP L a).toNat := wyL_len _ _ _
theorem wayL_more {L : List Int} {a : Int} (h : pegsOk L) (ha : 0 ≤ a ∧ a ≤ 2) (hd : fdW L a < L.length) : wayL L a = mvW L a :: wayL (stepW L a) a := by
  have hp := (fdW_lt_iff L a).1 hd
  have h1 := (stepW_dist L a h ha hp).1
  unfold wayL
  rw [h1, show (distP L a).toNat = (distP L a - 1).toNat + 1 by omega]
  rfl
theorem wayL_end {L : List Int} {a : Int} (hd : fdW L a = L.length) : wayL L a = [] := by
  have hp := fdW_lt_iff L a
  have := distP_nonneg L a
  unfold wayL
  rw [show (distP L a).toNat = 0 by omega]
  rfl
theorem wayL_bd {L : List Int} {a : Int} (h : L.length ≤ 8) : (wayL L a).length ≤ 255 := by
  have := distP_bd L a h
  rw [wayL_len]
  omega

end Go.Proofs.Ytbcgomimfgggnaa
