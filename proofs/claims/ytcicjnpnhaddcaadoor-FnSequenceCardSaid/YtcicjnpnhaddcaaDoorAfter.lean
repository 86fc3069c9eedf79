/- Contracts: the state after a move. -/
import Derived.Test.YtcicjnpnhaddcaaDoorDone
namespace Go.Proofs.YtcicjnpnhaddcaaDoor
open Go.RowKit
set_option linter.unusedVariables false

/-- What AfterMove answers. -/
def aftB (p : Int) (L : List Int) (d f t : Int) : Bool := stateB p L && legalB p L d f t
def aftP (p : Int) (L : List Int) (d f t : Int) : Int := if aftB p L d f t = true then p else 0
def aftL (p : Int) (L : List Int) (d f t : Int) : List Int := if aftB p L d f t = true then L.set d.toNat t else []
def aftE (p : Int) (L : List Int) (d f t : Int) : Int := if stateB p L = true then (if legalB p L d f t = true then 0 else 5) else 1
theorem aft_yes {p : Int} {L : List Int} {d f t : Int} (h : stateB p L = true) (h' : legalB p L d f t = true) : aftP p L d f t = p ∧ aftL p L d f t = L.set d.toNat t ∧ aftE p L d f t = 0 := by unfold aftP aftL aftE aftB; simp [h, h']
theorem aft_no2 {p : Int} {L : List Int} {d f t : Int} (h : stateB p L = true) (h' : legalB p L d f t = false) : aftP p L d f t = 0 ∧ aftL p L d f t = [] ∧ aftE p L d f t = 5 := by unfold aftP aftL aftE aftB; simp [h, h']
theorem aft_no1 {p : Int} {L : List Int} {d f t : Int} (h : stateB p L = false) : aftP p L d f t = 0 ∧ aftL p L d f t = [] ∧ aftE p L d f t = 1 := by unfold aftP aftL aftE aftB; simp [h]
theorem legal_d {p : Int} {L : List Int} {d f t : Int} (h : legalB p L d f t = true) : 0 ≤ d ∧ d < L.length := by
  unfold legalB at h
  simp only [Bool.and_eq_true, decide_eq_true_iff] at h
  exact ⟨h.1.1, h.1.2.1⟩

set_option maxHeartbeats 1000000 in
theorem implAfterMove_ret (A : Option Addr) (n c : Nat) (p : Int) (L : List Int) (d f t : Int) (w : World) (hL : L.length = n) (hn : n ≤ 1048576) (hI : Ints w A L) (hcap : n ≤ c) (hc : c ≤ 9223372036854775807) :
    Calls Tryd.prog 24 #[.agg #[.int .i64 p, .slice A n c], .agg #[.int .i64 d, .int .i64 f, .int .i64 t]] w (RetState w (aftP p L d f t) (aftL p L d f t).length (aftL p L d f t) (aftE p L d f t)) := by
  have HL : Hid (L.length = n) := hL
  have hW : ∃ W, W = (((w.alloc (.cells #[.int .i64 p, .slice A n c] 28)).alloc (.cells #[.int .i64 d, .int .i64 f, .int .i64 t] 36)).alloc (.cells #[.int .i64 0, .slice none 0 0] 28)) := ⟨_, rfl⟩
  obtain ⟨W, hW⟩ := hW
  have X0 : Hid (Box W w.heap.size 28 #[.int .i64 p, .slice A n c]) := by unfold Hid; rw [hW]; exact ((Box.new _ _ _).alloc _).alloc _
  have Y0 : Hid (Box W (w.heap.size + 1) 36 #[.int .i64 d, .int .i64 f, .int .i64 t]) := by
    unfold Hid; rw [hW]
    have := Box.new (w.alloc (.cells #[.int .i64 p, .slice A n c] 28)) 36 #[.int .i64 d, .int .i64 f, .int .i64 t]
    rw [World.size_alloc] at this
    exact this.alloc _
  have R0 : Hid (Box W (w.heap.size + 1 + 1) 28 #[.int .i64 0, .slice none 0 0]) := by
    unfold Hid; rw [hW]
    have := Box.new ((w.alloc (.cells #[.int .i64 p, .slice A n c] 28)).alloc (.cells #[.int .i64 d, .int .i64 f, .int .i64 t] 36)) 28 #[.int .i64 0, .slice none 0 0]
    simp only [World.size_alloc] at this
    exact this
  have hWs : Hid (W.heap.size = w.heap.size + 3) := by unfold Hid; rw [hW]; simp
  have HB0 : Hid (Below w.heap.size w W) := by unfold Hid; rw [hW]; exact (((Below.refl _ _).alloc (Nat.le_refl _) _).alloc (by simp) _).alloc (by simp; omega) _
  have hI0 := Lib.hid (hI.below HB0.out)
  obtain ⟨s0, s1, m0, m1, m2⟩ := cells23 X0.out Y0.out
  have HW := Lib.hid hW
  clear hW hL hI
  have hz0 : w.heap.size + 2 < W.heap.size := by rw [hWs.out]; omega
  by_cases hs : stateB p L = true
  · by_cases hl : legalB p L d f t = true
    · obtain ⟨q1, q2, q3⟩ := aft_yes hs hl
      rw [q1, q2, q3, List.length_set, HL.out]
      have hld := legal_d hl
      rw [HL.out] at hld
      obtain ⟨j, rfl⟩ := Int.eq_ofNat_of_zero_le hld.1
      rw [Int.toNat_natCast]
      clear q1 q2 q3
      go_enter Tryd.func24, Tryd.ntmps24
      go_wp2_with fail
      rw [← HW.out]
      refine (implIsState_calls A n c p L _ HL.out hn hI0.out).mono ?_
      rintro e w1 ⟨rfl, hb1⟩
      have X1 := Lib.hid (X0.out.below hb1 X0.out.lt)
      have Y1 := Lib.hid (Y0.out.below hb1 Y0.out.lt)
      have R1 := Lib.hid (R0.out.below hb1 R0.out.lt)
      have HB1 := Lib.hid (HB0.out.trans (hb1.mono HB0.out.size))
      have hI1 := Lib.hid (hI0.out.below hb1)
      have u1 := hb1.size
      clear hb1 s0 s1 m0 m1 m2
      obtain ⟨s0, s1, m0, m1, m2⟩ := cells23 X1.out Y1.out
      go_wp2_with fail
      refine (isLegalMove_calls A n c p L j f t _ HL.out hcap (by omega) hI1.out hs).mono ?_
      rintro e w2 ⟨rfl, hb2⟩
      have X2 := Lib.hid (X1.out.below hb2 X1.out.lt)
      have Y2 := Lib.hid (Y1.out.below hb2 Y1.out.lt)
      have R2 := Lib.hid (R1.out.below hb2 R1.out.lt)
      have HB2 := Lib.hid (HB1.out.trans (hb2.mono HB1.out.size))
      have hI2 := Lib.hid (hI1.out.below hb2)
      have u2 := hb2.size
      clear hb2 s0 s1 m0 m1 m2
      obtain ⟨s0, s1, m0, m1, m2⟩ := cells23 X2.out Y2.out
      go_wp2_with fail
      refine (afterMove_calls A n c p L j f t _ HL.out hn (by omega) hI2.out).mono ?_
      rintro e w3 ⟨A', c', rfl, hO, hb3⟩
      have R3 := Lib.hid (R2.out.below hb3 R2.out.lt)
      have HB3 := Lib.hid (HB2.out.trans (hb3.mono HB2.out.size))
      have HO := Lib.hid hO
      clear hb3 hO s0 s1 m0 m1 m2
      obtain ⟨r0, r1, _, _⟩ := R3.out.two
      go_wp2
      refine bodyPost_ret (v := .tuple #[.agg #[.int .i64 p, .slice A' n c'], .int .i64 0]) (by simp [results, Tryd.results24, go_sem, r0, r1]) rfl ⟨A', c', rfl, ?_, ?_⟩
      · exact ((HO.out.mono (B' := w.heap.size) (HB2.out.size)).setBoxed R3.out (by decide) _ _).setBoxed (R3.out.set _ _) (by decide) _ _
      · exact (HB3.out.setCell (by simp; omega) _).setCell (by simp; omega) _
    · have hl' : legalB p L d f t = false := by simpa using hl
      obtain ⟨q1, q2, q3⟩ := aft_no2 hs hl'
      rw [q1, q2, q3]
      clear q1 q2 q3 hl
      go_enter Tryd.func24, Tryd.ntmps24
      go_wp2_with fail
      rw [← HW.out]
      refine (implIsState_calls A n c p L _ HL.out hn hI0.out).mono ?_
      rintro e w1 ⟨rfl, hb1⟩
      have X1 := Lib.hid (X0.out.below hb1 X0.out.lt)
      have Y1 := Lib.hid (Y0.out.below hb1 Y0.out.lt)
      have R1 := Lib.hid (R0.out.below hb1 R0.out.lt)
      have HB1 := Lib.hid (HB0.out.trans (hb1.mono HB0.out.size))
      have hI1 := Lib.hid (hI0.out.below hb1)
      clear hb1 s0 s1 m0 m1 m2
      obtain ⟨s0, s1, m0, m1, m2⟩ := cells23 X1.out Y1.out
      go_wp2_with fail
      refine (isLegalMove_calls A n c p L d f t _ HL.out hcap (by omega) hI1.out hs).mono ?_
      rintro e w2 ⟨rfl, hb2⟩
      have R2 := Lib.hid (R1.out.below hb2 R1.out.lt)
      have HB2 := Lib.hid (HB1.out.trans (hb2.mono HB1.out.size))
      clear hb2 s0 s1 m0 m1 m2
      obtain ⟨r0, r1, _, _⟩ := R2.out.two
      go_wp2
      refine bodyPost_ret (v := .tuple #[.agg #[.int .i64 0, .slice none 0 0], .int .i64 5]) (by simp [results, Tryd.results24, go_sem, r0, r1]) rfl ⟨none, 0, rfl, Own.nilS _ _, ?_⟩
      first | exact HB2.out | exact (HB2.out.setCell (by simp; omega) _).setCell (by simp; omega) _
  · have hs' : stateB p L = false := by simpa using hs
    obtain ⟨q1, q2, q3⟩ := aft_no1 (d := d) (f := f) (t := t) hs'
    rw [q1, q2, q3]
    clear q1 q2 q3 hs
    go_enter Tryd.func24, Tryd.ntmps24
    go_wp2_with fail
    rw [← HW.out]
    refine (implIsState_calls A n c p L _ HL.out hn hI0.out).mono ?_
    rintro e w1 ⟨rfl, hb1⟩
    have R1 := Lib.hid (R0.out.below hb1 R0.out.lt)
    have HB1 := Lib.hid (HB0.out.trans (hb1.mono HB0.out.size))
    clear hb1 s0 s1 m0 m1 m2
    obtain ⟨r0, r1, _, _⟩ := R1.out.two
    go_wp2
    refine bodyPost_ret (v := .tuple #[.agg #[.int .i64 0, .slice none 0 0], .int .i64 1]) (by simp [results, Tryd.results24, go_sem, r0, r1]) rfl ⟨none, 0, rfl, Own.nilS _ _, ?_⟩
    first | exact HB1.out | exact (HB1.out.setCell (by simp; omega) _).setCell (by simp; omega) _

end Go.Proofs.YtcicjnpnhaddcaaDoor
