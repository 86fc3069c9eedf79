/- Contracts: the carry of two states and both numbers, by the program. -/
import Derived.Test.YtmpmkhfbfaicpaaNumbers
namespace Go.Proofs.Ytmpmkhfbfaicpaa
open Go.RowKit
open Go.RowKit (wrap64)
set_option linter.unusedVariables false

/-- The carry of two states: zeros, if they are equal. -/
def carryV (L M : List Int) (n : Nat) : Value :=
  if grt L M n = -1 then .agg #[.int .i64 0, .int .i64 0, .int .i64 0, .int .i64 0]
  else .agg #[.int .i64 (grt L M n), .int .i64 (L[(grt L M n).toNat]?.getD 0), .int .i64 (M[(grt L M n).toNat]?.getD 0), .int .i64 (3 - L[(grt L M n).toNat]?.getD 0 - M[(grt L M n).toNat]?.getD 0)]
theorem carryV_none {L M : List Int} {n : Nat} (h : grt L M n = -1) : carryV L M n = .agg #[.int .i64 0, .int .i64 0, .int .i64 0, .int .i64 0] := by unfold carryV; rw [if_pos h]
theorem carryV_some {L M : List Int} {n D : Nat} (h : grt L M n = D) : carryV L M n = .agg #[.int .i64 D, .int .i64 (L[D]?.getD 0), .int .i64 (M[D]?.getD 0), .int .i64 (3 - L[D]?.getD 0 - M[D]?.getD 0)] := by
  unfold carryV
  rw [if_neg (by omega), h, Int.toNat_natCast]

theorem shl_plain {k : Nat} (hk : k < 9) : IntKind.i64.wrap ((2 : Int) ^ k) = pow2 k := by
  have e3 : (2 : Int) ^ k = pow2 k := by unfold pow2; simp
  have hb := pow2_bd (k := k) (by omega)
  rw [e3]
  exact IntWalk.i64_in _ (by omega)

set_option maxHeartbeats 1000000 in
theorem carryBetween_calls (A : Option Addr) (n c : Nat) (p : Int) (L : List Int) (B : Option Addr) (d : Nat) (q : Int) (M : List Int) (w : World) (hL : L.length = n) (hM : M.length = n) (hn : n ≤ 8) (hI : Ints w A L) (hJ : Ints w B M) (hpL : pegsOk L) (hpM : pegsOk M) :
    Calls Try.prog 33 #[.agg #[.int .i64 p, .slice A n c], .agg #[.int .i64 q, .slice B n d]] w fun e w' => e = .returned (.tuple #[carryV L M n, .bool (decide (grt L M n ≠ -1))]) ∧ Below w.heap.size w w' := by
  have HL := Lib.hid hL
  have HM := Lib.hid hM
  have HPL := Lib.hid hpL
  have HPM := Lib.hid hpM
  obtain ⟨b1, b2, b3⟩ := twoBoxes w p q A B n c n d 30
  have hW : ∃ W, W = (((w.alloc (.cells #[.int .i64 p, .slice A n c] 30)).alloc (.cells #[.int .i64 q, .slice B n d] 30)).alloc (.cells #[.int .i64 0, .int .i64 0, .int .i64 0, .int .i64 0] 61)) := ⟨_, rfl⟩
  obtain ⟨W, hW⟩ := hW
  have X0 : Hid (Box W w.heap.size 30 #[.int .i64 p, .slice A n c]) := by unfold Hid; rw [hW]; exact b1.alloc _
  have Y0 : Hid (Box W (w.heap.size + 1) 30 #[.int .i64 q, .slice B n d]) := by unfold Hid; rw [hW]; exact b2.alloc _
  have R0 : Hid (Box W (w.heap.size + 1 + 1) 61 #[.int .i64 0, .int .i64 0, .int .i64 0, .int .i64 0]) := by
    unfold Hid; rw [hW]
    have := Box.new ((w.alloc (.cells #[.int .i64 p, .slice A n c] 30)).alloc (.cells #[.int .i64 q, .slice B n d] 30)) 61 #[.int .i64 0, .int .i64 0, .int .i64 0, .int .i64 0]
    simp only [World.size_alloc] at this
    exact this
  have HB0 : Hid (Below w.heap.size w W) := by unfold Hid; rw [hW]; exact b3.alloc (by simp; omega) _
  have HI0 := Lib.hid (hI.below HB0.out)
  have HJ0 := Lib.hid (hJ.below HB0.out)
  have HW := Lib.hid hW
  clear hL hM b1 b2 b3 hI hJ hW hpL hpM
  go_enter Try.func33, Try.ntmps33
  go_wp2
  rw [← HW.out]
  go_loopw [6] (fun i wr => ∃ m : Nat, m ≤ n ∧ i = .int .i64 ((m : Int) - 1) ∧ Hid (grt L M n = grt L M m) ∧ ∃ k, wr = W.drewN k) (fun i _ => (intOf i + 1).toNat)
  case atStart => exact ⟨n, Nat.le_refl _, rfl, Lib.hid rfl, 0, rfl⟩
  case round =>
    obtain ⟨m, hm, rfl, HG, k0, rfl⟩ := hrel
    obtain ⟨x0, x1, y0, y1⟩ := cells22 X0.out Y0.out
    obtain ⟨r0, r1, r2, r3⟩ := R0.out.four
    have f0 := R0.out.frozen 0
    have f1 := R0.out.frozen 1
    have f2 := R0.out.frozen 2
    have f3 := R0.out.frozen 3
    cases m with
    | zero =>
      have HZ : Hid (grt L M n = -1) := HG
      go_wp2
      refine bodyPost_ret (v := .tuple #[.agg #[.int .i64 0, .int .i64 0, .int .i64 0, .int .i64 0], .bool false]) (by simp [results, Try.results33, go_sem, r0, r1, r2, r3]) rfl ⟨?_, ?_⟩
      · rw [carryV_none HZ.out, HZ.out]; rfl
      · first | exact HB0.out | exact belowDraws HB0.out _ | exact belowDraws ((((HB0.out.setCell (by simp; omega) _).setCell (by simp; omega) _).setCell (by simp; omega) _).setCell (by simp; omega) _) _ | exact (((((belowDraws HB0.out _).setCell (by simp; omega) _).setCell (by simp; omega) _).setCell (by simp; omega) _).setCell (by simp; omega) _)
    | succ k =>
      have hk : k < n := by omega
      obtain ⟨ad, rfl, had, hc⟩ := HI0.out k (by rw [HL.out]; exact hk)
      obtain ⟨ad', rfl, had', hc'⟩ := HJ0.out k (by rw [HM.out]; exact hk)
      have hx := pegsOk_at HPL.out (d := k) (by rw [HL.out]; exact hk)
      have hy := pegsOk_at HPM.out (d := k) (by rw [HM.out]; exact hk)
      have hi0 : (0 : Int) ≤ (k : Int) := by omega
      have hi1 : (k : Int) < (n : Int) := by omega
      have hi2 : ((k + 1 : Nat) : Int) - 1 = (k : Int) := by omega
      rw [hi2]
      clear hi2
      by_cases he : L[k]?.getD 0 = M[k]?.getD 0
      · have ht : (L[k]?.getD 0 != M[k]?.getD 0) = false := by simpa using he
        have HST := Lib.hid (grt_step_eq he)
        clear he
        go_wp2_with fail
        go_quiet (fail)
        go_wp2
        go_roundw
        case rel => exact ⟨k, by omega, rfl, Lib.hid (HG.out.trans HST.out), by first | exact ⟨_, rfl⟩ | exact ⟨_, World.drewN_drewN _ _ _⟩⟩
        case measure => simp [intOf] <;> omega
      · have ht : (L[k]?.getD 0 != M[k]?.getD 0) = true := by simpa using he
        have HST := Lib.hid (grt_step_ne he)
        have HZ : Hid (grt L M n = k) := Lib.hid (HG.out.trans HST.out)
        clear he
        go_wp2_with fail
        go_quiet (fail)
        go_wp2_with fail
        refine (thirdPeg_calls (L[k]?.getD 0) (M[k]?.getD 0) _ hx hy).mono ?_
        rintro e w' ⟨rfl, rfl⟩
        go_wp2
        refine bodyPost_ret (v := .tuple #[.agg #[.int .i64 k, .int .i64 (L[k]?.getD 0), .int .i64 (M[k]?.getD 0), .int .i64 (3 - L[k]?.getD 0 - M[k]?.getD 0)], .bool true]) (by simp [results, Try.results33, go_sem, r0, r1, r2, r3]) rfl ⟨?_, ?_⟩
        · rw [carryV_some HZ.out, HZ.out]; first | (simp; done) | (simp; omega)
        · first | exact belowDraws ((((HB0.out.setCell (by simp; omega) _).setCell (by simp; omega) _).setCell (by simp; omega) _).setCell (by simp; omega) _) _ | exact (((((belowDraws HB0.out _).setCell (by simp; omega) _).setCell (by simp; omega) _).setCell (by simp; omega) _).setCell (by simp; omega) _)

set_option maxHeartbeats 2000000 in
theorem numbersOf_calls (A : Option Addr) (n c : Nat) (p : Int) (L : List Int) (B : Option Addr) (d : Nat) (q : Int) (M : List Int) (D : Nat) (w : World) (hL : L.length = n) (hM : M.length = n) (hn : n ≤ 8) (hI : Ints w A L) (hJ : Ints w B M)
    (hcap : n ≤ c) (hc : c ≤ 1048576) (hdap : n ≤ d) (hd : d ≤ 1048576) (hpL : pegsOk L) (hpM : pegsOk M) (hg : grt L M n = D) :
    Calls Try.prog 51 #[.agg #[.int .i64 p, .slice A n c], .agg #[.int .i64 q, .slice B n d], .agg #[.int .i64 D, .int .i64 (L[D]?.getD 0), .int .i64 (M[D]?.getD 0), .int .i64 (3 - L[D]?.getD 0 - M[D]?.getD 0)]] w fun e w' => e = .returned (.tuple #[.int .i64 (oneN L M D), .int .i64 (twoN L M D)]) ∧ Below w.heap.size w w' := by
  obtain ⟨hD, hP0, hP1, hQ0, hQ1, hne⟩ := carry_facts hpL hpM hL hM hg
  have HL := Lib.hid hL
  have HM := Lib.hid hM
  have HG := Lib.hid hg
  obtain ⟨b1, b2, b3⟩ := twoBoxes w p q A B n c n d 30
  have HI00 := Lib.hid (hI.below b3)
  have HJ00 := Lib.hid (hJ.below b3)
  have hd1 := distP_bd (L.take D) (3 - L[D]?.getD 0 - M[D]?.getD 0) (by simp; omega)
  have hd2 := distP_bd (M.take D) (3 - L[D]?.getD 0 - M[D]?.getD 0) (by simp; omega)
  have hd3 := distP_bd (L.take D) (M[D]?.getD 0) (by simp; omega)
  have hd4 := distP_bd (M.take D) (L[D]?.getD 0) (by simp; omega)
  have hpw := pow2_bd (k := D) (by omega)
  have hsh := shl_pow (k := D) (by omega)
  have HLT : Hid ((L.take D).length = D) := by unfold Hid; simp; omega
  have HMT : Hid ((M.take D).length = D) := by unfold Hid; simp; omega
  have HPL := Lib.hid (pegsOk_take hpL D)
  have HPM := Lib.hid (pegsOk_take hpM D)
  obtain ⟨ad, rfl, had, hcx⟩ := HI00.out D (by rw [HL.out]; exact hD)
  obtain ⟨ad', rfl, had', hcy⟩ := HJ00.out D (by rw [HM.out]; exact hD)
  rw [List.getD_eq_getElem?_getD] at hcx hcy
  show Calls _ _ #[.agg #[.int .i64 p, .slice (some ad) n c], .agg #[.int .i64 q, .slice (some ad') n d], .agg #[.int .i64 D, .int .i64 (L[D]?.getD 0), .int .i64 (M[D]?.getD 0), .int .i64 (3 - L[D]?.getD 0 - M[D]?.getD 0)]] _ fun e w' => e = .returned (.tuple #[.int .i64 (distP (L.take D) (3 - L[D]?.getD 0 - M[D]?.getD 0) + distP (M.take D) (3 - L[D]?.getD 0 - M[D]?.getD 0) + 1), .int .i64 (distP (L.take D) (M[D]?.getD 0) + distP (M.take D) (L[D]?.getD 0) + pow2 D + 1)]) ∧ Below w.heap.size w w'
  generalize L[D]?.getD 0 = P at *
  generalize M[D]?.getD 0 = Q at *
  generalize hu1 : distP (L.take D) (3 - P - Q) = u1 at *
  generalize hu2 : distP (M.take D) (3 - P - Q) = u2 at *
  generalize hu3 : distP (L.take D) Q = u3 at *
  generalize hu4 : distP (M.take D) P = u4 at *
  have U1 := Lib.hid hu1
  have U2 := Lib.hid hu2
  have U3 := Lib.hid hu3
  have U4 := Lib.hid hu4
  have hi0 : (0 : Int) ≤ (D : Int) := by omega
  have hi1 : (D : Int) < (n : Int) := by omega
  have hi2 : (D : Int) ≤ (c : Int) := by omega
  have hi3 : (D : Int) ≤ (d : Int) := by omega
  have hr : 0 ≤ 3 - P - Q ∧ 3 - P - Q ≤ 2 := by omega
  have hbal := (Below.refl _ ((w.alloc (.cells #[.int .i64 p, .slice (some ad) n c] 30)).alloc (.cells #[.int .i64 q, .slice (some ad') n d] 30))).alloc (Nat.le_refl _) (.cells #[.int .i64 D, .int .i64 P, .int .i64 Q, .int .i64 (3 - P - Q)] 61)
  have X1 := Lib.hid (b1.below hbal b1.lt)
  have Y1 := Lib.hid (b2.below hbal b2.lt)
  have hc0 := Box.new ((w.alloc (.cells #[.int .i64 p, .slice (some ad) n c] 30)).alloc (.cells #[.int .i64 q, .slice (some ad') n d] 30)) 61 #[.int .i64 D, .int .i64 P, .int .i64 Q, .int .i64 (3 - P - Q)]
  simp only [World.size_alloc] at hc0
  have C1 := Lib.hid hc0
  have HI1 := Lib.hid (HI00.out.below hbal)
  have HJ1 := Lib.hid (HJ00.out.below hbal)
  have HB1 := Lib.hid (b3.trans (hbal.mono b3.size))
  clear hL hM b1 b2 b3 hI hJ hg hu1 hu2 hu3 hu4 hpL hpM hcx hcy had had' hbal hc0 HI00 HJ00
  generalize hW : ((w.alloc (.cells #[.int .i64 p, .slice (some ad) n c] 30)).alloc (.cells #[.int .i64 q, .slice (some ad') n d] 30)).alloc (.cells #[.int .i64 D, .int .i64 P, .int .i64 Q, .int .i64 (3 - P - Q)] 61) = W at *
  have HW := Lib.hid hW
  clear hW
  obtain ⟨x0, x1, y0, y1⟩ := cells22 X1.out Y1.out
  obtain ⟨k0, k1, k2, k3⟩ := C1.out.four
  go_enter Try.func51, Try.ntmps51
  go_wp2_with fail
  rw [HW.out]
  go_quiet (fail)
  go_wp2_with fail
  clear x0 x1 y0 y1 k0 k1 k2 k3 X1 Y1
  obtain ⟨k0, k1, k2, k3⟩ := C1.out.four
  have hs1 : IntKind.i64.wrap (u1 + u2) = u1 + u2 := IntWalk.i64_in _ (by omega)
  have hs2 : IntKind.i64.wrap (u1 + u2 + 1) = u1 + u2 + 1 := IntWalk.i64_in _ (by omega)
  go_region_held3 (fun w' => w'.cell? ⟨w.heap.size + 1 + 1, 0, none⟩ = some (.int .i64 D) ∧ w'.cell? ⟨w.heap.size + 1 + 1, 1, none⟩ = some (.int .i64 P) ∧ w'.cell? ⟨w.heap.size + 1 + 1, 2, none⟩ = some (.int .i64 Q) ∧ w'.cell? ⟨w.heap.size + 1 + 1, 3, none⟩ = some (.int .i64 (3 - P - Q)))
    (first | exact ⟨k0, k1, k2, k3⟩ | exact C2.out.four | exact C3.out.four | go_keep)
    (first
    | (go_at_call 56; (with_reducible refine (distanceToPeg_calls (some ad) D c (L.take D) (3 - P - Q) _ HLT.out (by omega) ?_ HPL.out hr).mono ?_); (exact HI1.out.take D); rintro e w2 ⟨rfl, hb2⟩; rw [U1.out]; have C2 := Lib.hid (Box.below C1.out (undrewN (undrew hb2)) (Box.lt C1.out)))
    | (go_at_call 56; (with_reducible refine (distanceToPeg_calls (some ad') D d (M.take D) (3 - P - Q) _ HMT.out (by omega) ?_ HPM.out hr).mono ?_); (exact (HJ1.out.below (undrewN (undrew hb2))).take D); rintro e w3 ⟨rfl, hb3⟩; rw [U2.out]; have C3 := Lib.hid (Box.below C2.out hb3 (Box.lt C2.out))))
  have q2 := Below.size (undrewN (undrew hb2))
  have HB3 := Lib.hid ((HB1.out.trans ((undrewN (undrew hb2)).mono HB1.out.size)).trans (hb3.mono (Nat.le_trans HB1.out.size q2)))
  have HI3 := Lib.hid ((HI1.out.below (undrewN (undrew hb2))).below hb3)
  have HJ3 := Lib.hid ((HJ1.out.below (undrewN (undrew hb2))).below hb3)
  clear q2 hb2 hb3 k0 k1 k2 k3 C1 HI1 HJ1 HB1 C2 hs1 hs2
  go_wp2_with fail
  have hs6 := shl_plain (k := D) (by omega)
  obtain ⟨k0, k1, k2, k3⟩ := C3.out.four
  have hs3 : IntKind.i64.wrap (u3 + u4) = u3 + u4 := IntWalk.i64_in _ (by omega)
  have hs4 : IntKind.i64.wrap (u3 + u4 + pow2 D) = u3 + u4 + pow2 D := IntWalk.i64_in _ (by omega)
  have hs5 : IntKind.i64.wrap (u3 + u4 + pow2 D + 1) = u3 + u4 + pow2 D + 1 := IntWalk.i64_in _ (by omega)
  go_region_held3 (fun w' => w'.cell? ⟨w.heap.size + 1 + 1, 0, none⟩ = some (.int .i64 D) ∧ w'.cell? ⟨w.heap.size + 1 + 1, 1, none⟩ = some (.int .i64 P) ∧ w'.cell? ⟨w.heap.size + 1 + 1, 2, none⟩ = some (.int .i64 Q) ∧ w'.cell? ⟨w.heap.size + 1 + 1, 3, none⟩ = some (.int .i64 (3 - P - Q)))
    (first | exact ⟨k0, k1, k2, k3⟩ | exact C4.out.four | exact C5.out.four | go_keep)
    (first
    | (go_at_call 56; (with_reducible refine (distanceToPeg_calls (some ad) D c (L.take D) Q _ HLT.out (by omega) ?_ HPL.out ⟨hQ0, hQ1⟩).mono ?_); (exact HI3.out.take D); rintro e w4 ⟨rfl, hb4⟩; rw [U3.out]; have C4 := Lib.hid (Box.below C3.out (undrew hb4) (Box.lt C3.out)))
    | (go_at_call 56; (with_reducible refine (distanceToPeg_calls (some ad') D d (M.take D) P _ HMT.out (by omega) ?_ HPM.out ⟨hP0, hP1⟩).mono ?_); (exact (HJ3.out.below (undrew hb4)).take D); rintro e w5 ⟨rfl, hb5⟩; rw [U4.out]; have C5 := Lib.hid (Box.below C4.out hb5 (Box.lt C4.out))))
  have q4 := Below.size (undrew hb4)
  have HB5 := Lib.hid ((HB3.out.trans ((undrew hb4).mono HB3.out.size)).trans (hb5.mono (Nat.le_trans HB3.out.size q4)))
  have HI5 := Lib.hid ((HI3.out.below (undrew hb4)).below hb5)
  have HJ5 := Lib.hid ((HJ3.out.below (undrew hb4)).below hb5)
  clear q4 hb4 hb5 k0 k1 k2 k3 C3 HI3 HJ3 HB3 C4 hs3 hs4 hs5
  clear hs6
  go_wp2
  go_ret2
  exact ⟨rfl, HB5.out⟩

end Go.Proofs.Ytmpmkhfbfaicpaa
