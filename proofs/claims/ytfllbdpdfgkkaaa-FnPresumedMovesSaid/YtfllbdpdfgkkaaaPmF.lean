/- Contracts: PresumedMoves, by the program and by the specification's model. -/
import Derived.Test.YtfllbdpdfgkkaaaPmL
import Derived.Test.YtfllbdpdfgkkaaaPnL
import Derived.Test.YtfllbdpdfgkkaaaPnC
namespace Go.Proofs.Ytfllbdpdfgkkaaa
open Go.RowKit
set_option linter.unusedVariables false

/-- What PresumedMoves answers. -/
def pmV (p n : Int) : List Mv := if prB 5 p 8 n = true then pmL 9 0 n.toNat 0 (p - 1) (nfL 0 p.toNat) else []
theorem pmV_len (p n : Int) : (pmV p n).length ≤ 1048576 := by
  by_cases h : prB 5 p 8 n = true
  · unfold pmV
    rw [if_pos h]
    have := pmL_big (f := 9) (a := 0) (m := n.toNat) (by have := prB_of h; omega) 0 (p - 1) (nfL 0 p.toNat)
    omega
  · unfold pmV
    rw [if_neg h]
    simp
theorem pmV_no {p n : Int} (h : prB 5 p 8 n = false) : pmV p n = [] := by unfold pmV; rw [h]; rfl
theorem pmV_yes {q m : Nat} (h : prB 5 ((q : Int) + 3) 8 m = true) : pmV ((q : Int) + 3) m = pmL 9 0 m 0 ((q : Int) + 2) (nfL 0 (q + 3)) := by
  unfold pmV
  rw [if_pos h, show ((q : Int) + 3).toNat = q + 3 by omega, Int.toNat_natCast, show (q : Int) + 3 - 1 = (q : Int) + 2 by omega]
theorem nf_ok {q : Nat} (hq : q ≤ 2) : okP (nfL 0 (q + 3)) := by
  have : q = 0 ∨ q = 1 ∨ q = 2 := by omega
  rcases this with rfl | rfl | rfl
  · exact ⟨by decide, by decide⟩
  · exact ⟨by decide, by decide⟩
  · exact ⟨by decide, by decide⟩

set_option maxHeartbeats 1000000 in
theorem implPresumedMoves_ret (p n : Int) (w : World) :
    Calls Try.prog 6 #[.int .i64 p, .int .i64 n] w (RetMvs w (pmV p n).length (pmV p n) (prC 5 p 8 n)) := by
  by_cases hB : prB 5 p 8 n = true
  · have hbd := prB_of hB
    obtain ⟨q, rfl⟩ : ∃ q : Nat, p = (q : Int) + 3 := ⟨(p - 3).toNat, by omega⟩
    obtain ⟨m, rfl⟩ : ∃ m : Nat, n = m := ⟨n.toNat, by omega⟩
    have hq : q ≤ 2 := by omega
    have hm : m ≤ 8 := by omega
    have HC := Lib.hid (prC_yes hB)
    have HV := Lib.hid (pmV_yes hB)
    have hbig := pmL_big (f := 9) (a := 0) (m := m) hm 0 ((q : Int) + 2) (nfL 0 (q + 3))
    clear hB hbd
    obtain ⟨N, hN⟩ : ∃ N, Hid (N = (q + 1) * (m + 1)) := ⟨_, rfl⟩
    have hNb : N ≤ 488 := by
      rw [hN.out]
      exact Nat.le_trans (Nat.mul_le_mul (show q + 1 ≤ 8 by omega) (show m + 1 ≤ 61 by omega)) (by decide)
    have hp1 : (q : Int) + 3 - 1 = (q : Int) + 2 := by omega
    go_enter Try.func6, Try.ntmps6
    go_wp2_with fail
    refine (codeOfPresumed_calls _ _ _ _ _).mono ?_
    rw [HC.out]
    rintro e w' ⟨rfl, rfl⟩
    go_wp2_with fail
    refine (presumedTo_calls q m N _ hN (by omega) (by omega)).mono ?_
    rintro e w1 ⟨g, rfl, hg, hrow, hb⟩
    have hgl := hrow.lt
    have HB := Lib.hid hb
    have hs1 := hb.size
    have RN := Lib.hid (show PRun (w1.alloc (.cells #[.slice (some ⟨g, 0, none⟩) N N, .int .i64 m, .slice none 0 0] 47)) w1.heap.size g N m (w1.heap.size + 1) none 0 0 [] from ⟨Box.new w1 47 _, OwnG.nilS _ _ _ _, ⟨by omega, by omega, by omega⟩, by simp, hrow.alloc _⟩)
    have HB2 := Lib.hid (hb.alloc hs1 (.cells #[.slice (some ⟨g, 0, none⟩) N N, .int .i64 m, .slice none 0 0] 47))
    clear hrow hb
    go_wp2_with fail
    refine (numbersFrom_calls 0 _ (q + 3) _ (by omega) (by omega) (by unfold Hid; omega)).mono ?_
    rintro e w2 ⟨A2, c2, rfl, hO2, hb2⟩
    have RN2 := Lib.hid (RN.out.below hb2)
    have HB3 := Lib.hid (HB2.out.trans (hb2.mono HB2.out.size))
    have hs3 := HB3.out.size
    have PG := Lib.hid (show PegsIn w2 A2 (nfL 0 (q + 3)) (XR w1.heap.size none) from by
      refine ⟨hO2.ints, fun ad hA => ?_⟩
      rcases hO2.form with ⟨h1, _⟩ | ⟨g2, h1, h2, h3⟩
      · rw [h1] at hA; cases hA
      · rw [h1] at hA
        cases hA
        refine ⟨h3, fun hx => ?_⟩
        rcases hx with hx | hx
        · have h4 : (w1.alloc (.cells #[.slice (some ⟨g, 0, none⟩) N N, .int .i64 m, .slice none 0 0] 47)).heap.size ≤ g2 := h2
          simp only [World.size_alloc] at h4
          have : g2 = w1.heap.size := hx
          omega
        · cases hx)
    clear hO2 hb2
    go_wp2_with fail
    refine (plead_calls w1.heap.size g N m (w1.heap.size + 1) q hN (by omega) hq (by omega) 9 m (by omega) hm (Nat.le_refl _) 0 0 ((q : Int) + 2) (nfL 0 (q + 3)) A2 (q + 3) c2 (nfL_len _ _) (nf_ok hq) (by omega) ⟨Nat.le_refl _, by omega⟩ w2 none 0 0 [] RN2.out (by omega) PG.out).mono ?_
    rintro e w3 ⟨rfl, A3, d3, hL3, hk3, hn3⟩
    have HB4 := Lib.hid (HB3.out.trans (hk3.below (B := w.heap.size) (fun k hx => by
      rcases hx with hx | hx
      · have : k = w1.heap.size := hx
        omega
      · cases hx) hs3))
    have HO3 := Lib.hid (OwnG.mono hL3.own (show w.heap.size ≤ w1.heap.size + 1 by omega))
    obtain ⟨z0, z1, z2⟩ := hL3.box.three
    clear hL3 hk3 hn3
    go_wp2
    go_ret2
    rw [HV.out, HC.out]
    exact ⟨A3, d3, rfl, by have := HO3.out; rwa [Nat.zero_add, List.nil_append] at this, HB4.out⟩
  · have hB' : prB 5 p 8 n = false := by simpa using hB
    have HC := Lib.hid (prC_no hB')
    have HV := Lib.hid (pmV_no hB')
    clear hB hB'
    go_enter Try.func6, Try.ntmps6
    go_wp2_with fail
    refine (codeOfPresumed_calls _ _ _ _ _).mono ?_
    rw [HC.out]
    rintro e w' ⟨rfl, rfl⟩
    go_wp2
    go_ret2
    rw [HV.out, HC.out]
    exact retMvs_zero rfl (Below.refl _ _)

set_option maxHeartbeats 1000000 in
theorem specPresumedMoves_ret (p n : Int) (w : World) :
    Calls Try.prog 7 #[.int .i64 p, .int .i64 n] w (RetMvs w (pmV p n).length (pmV p n) (prC 5 p 8 n)) := by
  by_cases h1 : 3 ≤ p ∧ p ≤ 5
  · have i1 : inB p 3 5 = true := inB_yes h1.1 h1.2
    by_cases h2 : 0 ≤ n ∧ n ≤ 8
    · have i2 : inB n 0 8 = true := inB_yes h2.1 h2.2
      have hB := prB_yes (hp := 5) (p := p) (hn := 8) (n := n) (by omega)
      obtain ⟨q, rfl⟩ : ∃ q : Nat, p = (q : Int) + 3 := ⟨(p - 3).toNat, by omega⟩
      obtain ⟨m, rfl⟩ : ∃ m : Nat, n = m := ⟨n.toNat, by omega⟩
      have hq : q ≤ 2 := by omega
      have hm : m ≤ 8 := by omega
      have HC := Lib.hid (prC_yes hB)
      have HV := Lib.hid (pmV_yes hB)
      have hbig := pmL_big (f := 9) (a := 0) (m := m) hm 0 ((q : Int) + 2) (nfL 0 (q + 3))
      obtain ⟨j0, hj0, hy0, hy1, hy2⟩ := info_parts Try.infoI
      have hp1 : (q : Int) + 3 - 1 = (q : Int) + 2 := by omega
      clear hB h1 h2
      go_enter Try.func7, Try.ntmps7
      go_wp2_with fail
      refine (l01In_calls _ 3 5 _).mono ?_
      rintro e w' ⟨rfl, rfl⟩
      go_wp2_with fail
      refine (l01In_calls _ 0 8 _).mono ?_
      rintro e w' ⟨rfl, rfl⟩
      go_wp2
      go_loopw [6, 7] (fun o i wr => ∃ j : Nat, j ≤ q + 3 ∧ i = .int .i64 j ∧ ∃ A c, o = .slice A j c ∧ Own w.heap.size wr A j c (nfL 0 j) ∧ Below w.heap.size w wr) (fun _ i _ => q + 3 - (intOf i).toNat)
      case atStart => exact ⟨0, by omega, rfl, _, _, rfl, Own.emptyAt (Box.new w 2 #[]) (Nat.le_refl _), (Below.refl _ _).alloc (Nat.le_refl _) _⟩
      case round =>
        obtain ⟨j, hj, rfl, A, c, rfl, hO, hb⟩ := hrel
        have HR := Lib.hid hO
        have HB := Lib.hid hb
        have hsz := hb.size
        clear hO hb
        by_cases hlt : j < q + 3
        · have hjq : (j : Int) < (q : Int) + 3 := by omega
          go_wp2_with (at_builtin; refine wpList_append_own _ rfl _ _ 31 rfl w.heap.size 2 j0 (.int .i64 0) 1 8 Try.underlying31 hj0 hy0 hy1 hy2 rfl (by decide) _ _ _ rfl (HR.out.alloc _) ⟨wr.heap.size, 0, none⟩ 1 1 [.int .i64 (j : Nat)] rfl rfl (cell_one_new _ _ _) (by simp [Value.oneCell']) (by unfold maxLen; omega) (by omega) (by simp; omega) ?_; intro v' w4 hown' hgrow _; obtain ⟨A4, c4, rfl⟩ := ownG_shape hown'; have HP := Lib.hid (Own.pushed HR.out hgrow hown'); clear hown' hgrow)
          go_roundw
          case rel => exact ⟨j + 1, by omega, by go_num, A4, c4, rfl, by rw [nfL_succ, Int.zero_add]; exact HP.out.1, HB.out.trans (HP.out.2.2.2 _ (Nat.le_refl _) hsz)⟩
          case measure => simp [intOf]; omega
        · obtain rfl : j = q + 3 := by omega
          have hal := (Below.refl wr.heap.size wr).alloc (Nat.le_refl _) (.cells #[] 53)
          have HO0 := Lib.hid (show OwnM w.heap.size (wr.alloc (.cells #[] 53)) (some ⟨wr.heap.size, 0, none⟩) 0 0 [] from OwnG.emptyAt (Box.new wr 53 #[]) hsz)
          have HB2 := Lib.hid (HB.out.trans (hal.mono hsz))
          have hs2 := HB2.out.size
          have PG := Lib.hid (show PegsIn (wr.alloc (.cells #[] 53)) A (nfL 0 (q + 3)) (XA (some ⟨wr.heap.size, 0, none⟩)) from by
            have hO2 := HR.out.below hal
            refine ⟨hO2.ints, fun ad hA => ?_⟩
            rcases HR.out.form with ⟨h1, _⟩ | ⟨g2, h1, h2, h3⟩
            · rw [h1] at hA; cases hA
            · rw [h1] at hA
              cases hA
              refine ⟨by simp; omega, fun hx => ?_⟩
              unfold XA at hx
              injection hx with hx
              injection hx with hx
              have : g2 < wr.heap.size := h3
              have : wr.heap.size = g2 := hx
              omega)
          clear hal
          go_wp2_with fail
          refine (l08Moves_calls w.heap.size 9 m (by omega) hm 0 0 ((q : Int) + 2) (nfL 0 (q + 3)) A (q + 3) c (nfL_len _ _) (nf_ok hq) (by omega) ⟨by omega, by omega⟩ _ _ 0 0 [] HO0.out hs2 (by omega) PG.out).mono ?_
          rintro e w3 ⟨A3, d3, rfl, hO3, hk3, hn3⟩
          have HB4 := Lib.hid (HB2.out.trans (hk3.below (B := w.heap.size) (fun k hx => by
            unfold XA at hx
            injection hx with hx
            injection hx with hx
            have : wr.heap.size = k := hx
            omega) hs2))
          have HO3 := Lib.hid hO3
          clear hO3 hk3 hn3
          go_wp2
          go_ret2
          rw [HV.out, HC.out]
          exact ⟨A3, d3, rfl, by have := HO3.out; rwa [Nat.zero_add, List.nil_append] at this, HB4.out⟩
    · have i2 : inB n 0 8 = false := inB_no h2
      have hB := prB_no (hp := 5) (p := p) (hn := 8) (n := n) (by omega)
      have HC := Lib.hid (prC_no hB)
      have HV := Lib.hid (pmV_no hB)
      clear h1 h2 hB
      go_enter Try.func7, Try.ntmps7
      go_wp2_with fail
      refine (l01In_calls _ 3 5 _).mono ?_
      rintro e w' ⟨rfl, rfl⟩
      go_wp2_with fail
      refine (l01In_calls _ 0 8 _).mono ?_
      rintro e w' ⟨rfl, rfl⟩
      go_wp2
      go_ret2
      rw [HV.out, HC.out]
      exact retMvs_zero rfl (Below.refl _ _)
  · have i1 : inB p 3 5 = false := inB_no h1
    have hB := prB_no (hp := 5) (p := p) (hn := 8) (n := n) (by omega)
    have HC := Lib.hid (prC_no hB)
    have HV := Lib.hid (pmV_no hB)
    clear h1 hB
    go_enter Try.func7, Try.ntmps7
    go_wp2_with fail
    refine (l01In_calls _ 3 5 _).mono ?_
    rintro e w' ⟨rfl, rfl⟩
    go_wp2
    go_ret2
    rw [HV.out, HC.out]
    exact retMvs_zero rfl (Below.refl _ _)

end Go.Proofs.Ytfllbdpdfgkkaaa
