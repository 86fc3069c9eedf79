/- Contracts: the greatest disc that differs, and both numbers, by the specification's model. -/
import Derived.Test.YtmpmkhfbfaicpaaDist
import Derived.Test.YtmpmkhfbfaicpaaCode2
import Derived.Deep.RegionHeld3
namespace Go.Proofs.Ytmpmkhfbfaicpaa
open Go.RowKit
open Go.RowKit (wrap64)
set_option linter.unusedVariables false

theorem Ints.take {w : World} {A : Option Addr} {L : List Int} (h : Ints w A L) (d : Nat) : Ints w A (L.take d) := by
  intro k hk
  have hk' : k < L.length := by simp at hk; omega
  obtain ⟨ad, h1, h2, h3⟩ := h k hk'
  refine ⟨ad, h1, h2, ?_⟩
  rw [h3, List.getD_eq_getElem?_getD, List.getD_eq_getElem?_getD, List.getElem?_take, if_pos (by simp at hk; omega)]

/-- Two boxes of a state each, laid one after the other. -/
theorem twoBoxes (w : World) (p q : Int) (A B : Option Addr) (n c m d t : Nat) :
    Box ((w.alloc (.cells #[.int .i64 p, .slice A n c] t)).alloc (.cells #[.int .i64 q, .slice B m d] t)) w.heap.size t #[.int .i64 p, .slice A n c] ∧
    Box ((w.alloc (.cells #[.int .i64 p, .slice A n c] t)).alloc (.cells #[.int .i64 q, .slice B m d] t)) (w.heap.size + 1) t #[.int .i64 q, .slice B m d] ∧
    Below w.heap.size w ((w.alloc (.cells #[.int .i64 p, .slice A n c] t)).alloc (.cells #[.int .i64 q, .slice B m d] t)) := by
  refine ⟨(Box.new _ _ _).alloc _, ?_, ((Below.refl _ _).alloc (Nat.le_refl _) _).alloc (by simp) _⟩
  have := Box.new (w.alloc (.cells #[.int .i64 p, .slice A n c] t)) t #[.int .i64 q, .slice B m d]
  rwa [World.size_alloc] at this

theorem grt_step_eq {L M : List Int} {k : Nat} (h : L[k]?.getD 0 = M[k]?.getD 0) : grt L M (k + 1) = grt L M k := by rw [grt, if_pos h]
theorem grt_step_ne {L M : List Int} {k : Nat} (h : L[k]?.getD 0 ≠ M[k]?.getD 0) : grt L M (k + 1) = k := by rw [grt, if_neg h]

set_option maxHeartbeats 1000000 in
theorem l02Greatest_calls (A : Option Addr) (n c : Nat) (p : Int) (L : List Int) (B : Option Addr) (d : Nat) (q : Int) (M : List Int) (w : World) (hL : L.length = n) (hM : M.length = n) (hn : n ≤ 8) (hI : Ints w A L) (hJ : Ints w B M) :
    Calls Try.prog 28 #[.agg #[.int .i64 p, .slice A n c], .agg #[.int .i64 q, .slice B n d]] w fun e w' => e = .returned (.int .i64 (grt L M n)) ∧ Below w.heap.size w w' := by
  have HL := Lib.hid hL
  have HM := Lib.hid hM
  obtain ⟨b1, b2, b3⟩ := twoBoxes w p q A B n c n d 30
  have X0 := Lib.hid b1
  have Y0 := Lib.hid b2
  have HB0 := Lib.hid b3
  have HI0 := Lib.hid (hI.below b3)
  have HJ0 := Lib.hid (hJ.below b3)
  clear hL hM b1 b2 b3 hI hJ
  go_enter Try.func28, Try.ntmps28
  go_wp2
  go_loopw [5] (fun i wr => ∃ m : Nat, m ≤ n ∧ i = .int .i64 ((m : Int) - 1) ∧ Hid (grt L M n = grt L M m) ∧ ∃ k, wr = ((w.alloc (.cells #[.int .i64 p, .slice A n c] 30)).alloc (.cells #[.int .i64 q, .slice B n d] 30)).drewN k) (fun i _ => (intOf i + 1).toNat)
  case atStart => exact ⟨n, Nat.le_refl _, rfl, Lib.hid rfl, 0, rfl⟩
  case round =>
    obtain ⟨m, hm, rfl, HG, k0, rfl⟩ := hrel
    obtain ⟨x0, x1, y0, y1⟩ := cells22 X0.out Y0.out
    cases m with
    | zero =>
      go_wp2
      go_ret
      exact ⟨ret_int' HG.out, belowDraws HB0.out _⟩
    | succ k =>
      have hk : k < n := by omega
      obtain ⟨ad, rfl, had, hc⟩ := HI0.out k (by rw [HL.out]; exact hk)
      obtain ⟨ad', rfl, had', hc'⟩ := HJ0.out k (by rw [HM.out]; exact hk)
      have hi0 : (0 : Int) ≤ (k : Int) := by omega
      have hi1 : (k : Int) < (n : Int) := by omega
      have hi2 : ((k + 1 : Nat) : Int) - 1 = (k : Int) := by omega
      rw [hi2]
      clear hi2
      by_cases he : L[k]?.getD 0 = M[k]?.getD 0
      · have ht : (L[k]?.getD 0 != M[k]?.getD 0) = false := by simpa using he
        have HST := Lib.hid (grt_step_eq he)
        clear he
        go_wp2_with fail
        go_quiet (fail)
        go_wp2
        go_roundw
        case rel => exact ⟨k, by omega, rfl, Lib.hid (HG.out.trans HST.out), by first | exact ⟨_, rfl⟩ | exact ⟨_, World.drewN_drewN _ _ _⟩⟩
        case measure => simp [intOf] <;> omega
      · have ht : (L[k]?.getD 0 != M[k]?.getD 0) = true := by simpa using he
        have HST := Lib.hid (grt_step_ne he)
        clear he
        go_wp2_with fail
        go_quiet (fail)
        go_wp2
        go_ret
        exact ⟨ret_int' (HG.out.trans HST.out), by first | exact belowDraws HB0.out _ | exact belowDraws (belowDraws HB0.out _) _⟩

/-- The same shift, as a region that draws its order writes it. -/
theorem shl_drawn {k : Nat} (hk : k < 9) : IntKind.i64.wrap (2 ^ min (IntKind.u64.wrap (k : Int)).toNat 64) = pow2 k := by
  have e : IntKind.u64.wrap (k : Int) = k := IntWalk.u64_in _ (by omega)
  have e2 : min k 64 = k := by omega
  have e3 : (2 : Int) ^ k = pow2 k := by unfold pow2; simp
  have hb := pow2_bd (k := k) (by omega)
  rw [e, Int.toNat_natCast, e2, e3]
  exact IntWalk.i64_in _ (by omega)

/-- What is known of the pegs of the greatest disc that differs. -/
theorem carry_facts {L M : List Int} {n D : Nat} (hp : pegsOk L) (hq : pegsOk M) (hL : L.length = n) (hM : M.length = n) (hg : grt L M n = D) :
    D < n ∧ 0 ≤ L[D]?.getD 0 ∧ L[D]?.getD 0 ≤ 2 ∧ 0 ≤ M[D]?.getD 0 ∧ M[D]?.getD 0 ≤ 2 ∧ L[D]?.getD 0 ≠ M[D]?.getD 0 := by
  have h1 := (grt_bd L M n).2
  have h2 := grt_ne L M n D hg
  have h3 := pegsOk_at hp (d := D) (by omega)
  have h4 := pegsOk_at hq (d := D) (by omega)
  exact ⟨by omega, h3.1, h3.2, h4.1, h4.2, h2⟩

set_option maxHeartbeats 2000000 in
theorem l02Numbers_calls (A : Option Addr) (n c : Nat) (p : Int) (L : List Int) (B : Option Addr) (d : Nat) (q : Int) (M : List Int) (D : Nat) (w : World) (hL : L.length = n) (hM : M.length = n) (hn : n ≤ 8) (hI : Ints w A L) (hJ : Ints w B M)
    (hcap : n ≤ c) (hc : c ≤ 1048576) (hdap : n ≤ d) (hd : d ≤ 1048576) (hpL : pegsOk L) (hpM : pegsOk M) (hg : grt L M n = D) :
    Calls Try.prog 29 #[.agg #[.int .i64 p, .slice A n c], .agg #[.int .i64 q, .slice B n d]] w fun e w' => e = .returned (.tuple #[.int .i64 (oneN L M D), .int .i64 (twoN L M D)]) ∧ Below w.heap.size w w' := by
  obtain ⟨hD, hP0, hP1, hQ0, hQ1, hne⟩ := carry_facts hpL hpM hL hM hg
  have HL := Lib.hid hL
  have HM := Lib.hid hM
  have HG := Lib.hid hg
  obtain ⟨b1, b2, b3⟩ := twoBoxes w p q A B n c n d 30
  have X0 := Lib.hid b1
  have Y0 := Lib.hid b2
  have HB0 := Lib.hid b3
  have HI0 := Lib.hid (hI.below b3)
  have HJ0 := Lib.hid (hJ.below b3)
  have hd1 := distP_bd (L.take D) (3 - L[D]?.getD 0 - M[D]?.getD 0) (by simp; omega)
  have hd2 := distP_bd (M.take D) (3 - L[D]?.getD 0 - M[D]?.getD 0) (by simp; omega)
  have hd3 := distP_bd (L.take D) (M[D]?.getD 0) (by simp; omega)
  have hd4 := distP_bd (M.take D) (L[D]?.getD 0) (by simp; omega)
  have hpw := pow2_bd (k := D) (by omega)
  have hsh := shl_pow (k := D) (by omega)
  have HLT : Hid ((L.take D).length = D) := by unfold Hid; simp; omega
  have HMT : Hid ((M.take D).length = D) := by unfold Hid; simp; omega
  have HPL := Lib.hid (pegsOk_take hpL D)
  have HPM := Lib.hid (pegsOk_take hpM D)
  obtain ⟨ad, rfl, had, hcx⟩ := HI0.out D (by rw [HL.out]; exact hD)
  obtain ⟨ad', rfl, had', hcy⟩ := HJ0.out D (by rw [HM.out]; exact hD)
  rw [List.getD_eq_getElem?_getD] at hcx hcy
  show Calls _ _ _ _ fun e w' => e = .returned (.tuple #[.int .i64 (distP (L.take D) (3 - L[D]?.getD 0 - M[D]?.getD 0) + distP (M.take D) (3 - L[D]?.getD 0 - M[D]?.getD 0) + 1), .int .i64 (distP (L.take D) (M[D]?.getD 0) + distP (M.take D) (L[D]?.getD 0) + pow2 D + 1)]) ∧ Below w.heap.size w w'
  generalize L[D]?.getD 0 = P at *
  generalize M[D]?.getD 0 = Q at *
  generalize hu1 : distP (L.take D) (3 - P - Q) = u1 at *
  generalize hu2 : distP (M.take D) (3 - P - Q) = u2 at *
  generalize hu3 : distP (L.take D) Q = u3 at *
  generalize hu4 : distP (M.take D) P = u4 at *
  have U1 := Lib.hid hu1
  have U2 := Lib.hid hu2
  have U3 := Lib.hid hu3
  have U4 := Lib.hid hu4
  have hi0 : (0 : Int) ≤ (D : Int) := by omega
  have hi1 : (D : Int) < (n : Int) := by omega
  have hi2 : (D : Int) ≤ (c : Int) := by omega
  have hi3 : (D : Int) ≤ (d : Int) := by omega
  have hr : 0 ≤ 3 - P - Q ∧ 3 - P - Q ≤ 2 := by omega
  clear hL hM b1 b2 b3 hI hJ hg hu1 hu2 hu3 hu4 hpL hpM
  obtain ⟨x0, x1, y0, y1⟩ := cells22 X0.out Y0.out
  go_enter Try.func29, Try.ntmps29
  go_wp2_with fail
  refine (l02Greatest_calls (some ad) n c p L (some ad') d q M _ HL.out HM.out hn HI0.out HJ0.out).mono ?_
  rintro e w1 ⟨rfl, hb⟩
  rw [HG.out]
  have X1 := Lib.hid (X0.out.below hb X0.out.lt)
  have Y1 := Lib.hid (Y0.out.below hb Y0.out.lt)
  have HI1 := Lib.hid (HI0.out.below hb)
  have HJ1 := Lib.hid (HJ0.out.below hb)
  have HB1 := Lib.hid (HB0.out.trans (hb.mono HB0.out.size))
  have hcx1 := (hb.cell (p := ad.add D) (by rw [add_block]; exact had)).trans hcx
  have hcy1 := (hb.cell (p := ad'.add D) (by rw [add_block]; exact had')).trans hcy
  clear hb x0 x1 y0 y1 hcx hcy X0 Y0 HI0 HJ0 HB0
  obtain ⟨x0, x1, y0, y1⟩ := cells22 X1.out Y1.out
  go_wp2_with fail
  go_quiet (fail)
  go_wp2
  clear x0 x1 y0 y1 hcx1 hcy1
  obtain ⟨_, sx, _, sy⟩ := cells22 X1.out Y1.out
  have hs1 : IntKind.i64.wrap (u1 + u2) = u1 + u2 := IntWalk.i64_in _ (by omega)
  have hs2 : IntKind.i64.wrap (u1 + u2 + 1) = u1 + u2 + 1 := IntWalk.i64_in _ (by omega)
  go_region_held3 (fun w' => w'.cell? ⟨w.heap.size, 1, none⟩ = some (.slice (some ad) n c) ∧ w'.cell? ⟨w.heap.size + 1, 1, none⟩ = some (.slice (some ad') n d))
    (first | exact ⟨sx, sy⟩ | exact ⟨X2.out.two.2.1, Y2.out.two.2.1⟩ | exact ⟨X3.out.two.2.1, Y3.out.two.2.1⟩ | go_keep)
    (first
    | (go_at_call 46; (with_reducible refine (l02To_calls (some ad) D c (L.take D) (3 - P - Q) _ HLT.out (by omega) ?_ HPL.out hr).mono ?_); (exact HI1.out.take D); rintro e w2 ⟨rfl, hb2⟩; rw [U1.out]; have X2 := Lib.hid (Box.below X1.out (undrewN (undrew hb2)) (Box.lt X1.out)); have Y2 := Lib.hid (Box.below Y1.out (undrewN (undrew hb2)) (Box.lt Y1.out)))
    | (go_at_call 46; (with_reducible refine (l02To_calls (some ad') D d (M.take D) (3 - P - Q) _ HMT.out (by omega) ?_ HPM.out hr).mono ?_); (exact (HJ1.out.below (undrewN (undrew hb2))).take D); rintro e w3 ⟨rfl, hb3⟩; rw [U2.out]; have X3 := Lib.hid (Box.below X2.out hb3 (Box.lt X2.out)); have Y3 := Lib.hid (Box.below Y2.out hb3 (Box.lt Y2.out))))
  have q2 := Below.size (undrewN (undrew hb2))
  have HB3 := Lib.hid ((HB1.out.trans ((undrewN (undrew hb2)).mono HB1.out.size)).trans (hb3.mono (Nat.le_trans HB1.out.size q2)))
  have HI3 := Lib.hid ((HI1.out.below (undrewN (undrew hb2))).below hb3)
  have HJ3 := Lib.hid ((HJ1.out.below (undrewN (undrew hb2))).below hb3)
  clear q2 hb2 hb3 sx sy X1 Y1 HI1 HJ1 HB1 X2 Y2 hs1 hs2
  go_wp2_with fail
  obtain ⟨_, sx, _, sy⟩ := cells22 X3.out Y3.out
  have hs6 := shl_drawn (k := D) (by omega)
  have hs3 : IntKind.i64.wrap (u3 + u4) = u3 + u4 := IntWalk.i64_in _ (by omega)
  have hs4 : IntKind.i64.wrap (u3 + u4 + pow2 D) = u3 + u4 + pow2 D := IntWalk.i64_in _ (by omega)
  have hs5 : IntKind.i64.wrap (u3 + u4 + pow2 D + 1) = u3 + u4 + pow2 D + 1 := IntWalk.i64_in _ (by omega)
  go_region_held3 (fun w' => w'.cell? ⟨w.heap.size, 1, none⟩ = some (.slice (some ad) n c) ∧ w'.cell? ⟨w.heap.size + 1, 1, none⟩ = some (.slice (some ad') n d))
    (first | exact ⟨sx, sy⟩ | exact ⟨X4.out.two.2.1, Y4.out.two.2.1⟩ | exact ⟨X5.out.two.2.1, Y5.out.two.2.1⟩ | go_keep)
    (first
    | (go_at_call 46; (with_reducible refine (l02To_calls (some ad) D c (L.take D) Q _ HLT.out (by omega) ?_ HPL.out ⟨hQ0, hQ1⟩).mono ?_); (exact HI3.out.take D); rintro e w4 ⟨rfl, hb4⟩; rw [U3.out]; have X4 := Lib.hid (Box.below X3.out (undrew hb4) (Box.lt X3.out)); have Y4 := Lib.hid (Box.below Y3.out (undrew hb4) (Box.lt Y3.out)))
    | (go_at_call 46; (with_reducible refine (l02To_calls (some ad') D d (M.take D) P _ HMT.out (by omega) ?_ HPM.out ⟨hP0, hP1⟩).mono ?_); (exact (HJ3.out.below (undrew hb4)).take D); rintro e w5 ⟨rfl, hb5⟩; rw [U4.out]; have X5 := Lib.hid (Box.below X4.out hb5 (Box.lt X4.out)); have Y5 := Lib.hid (Box.below Y4.out hb5 (Box.lt Y4.out))))
  have q4 := Below.size (undrew hb4)
  have HB5 := Lib.hid ((HB3.out.trans ((undrew hb4).mono HB3.out.size)).trans (hb5.mono (Nat.le_trans HB3.out.size q4)))
  have HI5 := Lib.hid ((HI3.out.below (undrew hb4)).below hb5)
  have HJ5 := Lib.hid ((HJ3.out.below (undrew hb4)).below hb5)
  clear q4 hb4 hb5 sx sy X3 Y3 HI3 HJ3 HB3 X4 Y4 hs3 hs4 hs5 hs6
  go_wp2
  go_ret2
  exact ⟨rfl, HB5.out⟩

end Go.Proofs.Ytmpmkhfbfaicpaa
