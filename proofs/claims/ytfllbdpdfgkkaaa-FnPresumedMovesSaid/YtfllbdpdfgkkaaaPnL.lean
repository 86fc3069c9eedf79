/- Contracts: the least ones of candidates, and the splits, by the program. -/
import Derived.Test.YtfllbdpdfgkkaaaPnR
import Derived.Test.YtfllbdpdfgkkaaaMark
namespace Go.Proofs.Ytfllbdpdfgkkaaa
open Go.RowKit
set_option linter.unusedVariables false

/-- Consecutive numbers. -/
def nfL (lo : Int) (m : Nat) : List Int := tabL (fun i => lo + (i : Int)) m
theorem nfL_len (lo : Int) (m : Nat) : (nfL lo m).length = m := tabL_len _ _
theorem nfL_at (lo : Int) {m i : Nat} (h : i < m) : (nfL lo m)[i]? = some (lo + (i : Int)) := tabL_at _ h
theorem nfL_succ (lo : Int) (m : Nat) : nfL lo (m + 1) = nfL lo m ++ [lo + (m : Int)] := tabL_succ _ _

set_option maxHeartbeats 1000000 in
theorem numbersFrom_calls (lo hi : Int) (m : Nat) (w : World) (hl : 0 ≤ lo ∧ lo ≤ 10) (hm : m ≤ 100) (hh : Hid (hi = lo + m - 1)) :
    Calls Try.prog 19 #[.int .i64 lo, .int .i64 hi] w fun e w' => ∃ A c, e = .returned (.slice A m c) ∧ Own w.heap.size w' A m c (nfL lo m) ∧ Below w.heap.size w w' := by
  obtain ⟨i0, hi0, hz0, hz1, hz2⟩ := info_parts Try.infoI
  go_enter Try.func19, Try.ntmps19
  go_wp2
  go_loopw [5, 6] (fun o i wr => ∃ j : Nat, ∃ x : Int, j ≤ m ∧ i = .int .i64 x ∧ Hid (x = lo + (j : Int)) ∧ ∃ A c, o = .slice A j c ∧ Own w.heap.size wr A j c (nfL lo j) ∧ Below w.heap.size w wr) (fun _ i _ => (hi + 1 - intOf i).toNat)
  case atStart => exact ⟨0, _, Nat.zero_le _, rfl, by unfold Hid; omega, _, _, rfl, Own.nilS _ _, Below.refl _ _⟩
  case round =>
    obtain ⟨j, x, hj, rfl, hx, A0, c0, rfl, hO, hb⟩ := hrel
    have HO := Lib.hid hO
    have HB := Lib.hid hb
    have hsz := hb.size
    clear hO hb
    have hhv := hh.out
    have hxv := hx.out
    by_cases hlt : j < m
    · have hle : x ≤ hi := by omega
      have hx0 : 0 ≤ x ∧ x ≤ 200 := by omega
      clear hhv hxv
      go_wp2_with (at_builtin; refine wpList_append_own _ rfl _ _ 31 rfl w.heap.size 2 i0 (.int .i64 0) 1 8 Try.underlying31 hi0 hz0 hz1 hz2 rfl (by decide) _ _ _ rfl (HO.out.alloc _) ⟨wr.heap.size, 0, none⟩ 1 1 [.int .i64 x] rfl rfl (cell_one_new _ _ _) (by simp [Value.oneCell']) (by unfold maxLen; omega) (by omega) (by simp; omega) ?_; intro v' w4 hown' hgrow _; obtain ⟨A4, c4, rfl⟩ := ownG_shape hown'; have HP := Lib.hid (Own.pushed HO.out hgrow hown'); clear hown' hgrow)
      go_roundw
      case rel => exact ⟨j + 1, _, by omega, rfl, by unfold Hid; rw [hx.out]; omega, _, _, rfl, by rw [nfL_succ, ← hx.out]; exact HP.out.1, HB.out.trans (HP.out.2.2.2 _ (Nat.le_refl _) hsz)⟩
      case measure => simp [intOf]; omega
    · have hle : ¬ x ≤ hi := by omega
      obtain rfl : j = m := by omega
      go_wp2
      go_ret
      exact ⟨_, _, rfl, HO.out, HB.out⟩

set_option maxHeartbeats 4000000 in
theorem leastOnes_calls (k : Nat) (v1 v2 v3 : Value) (f : Nat → Int) (A : Option Addr) (m c : Nat) (w : World) (hm : m ≤ 100) (hO : Own k w A m c (nfL 1 m))
    (hF : ∀ i : Nat, i < m → ∀ W, Below w.heap.size w W → Calls Try.prog 43 #[.int .i64 ((i : Int) + 1), v1, v2, v3] W fun e w' => e = .returned (.int .i64 (f (i + 1))) ∧ Below W.heap.size W w') :
    Calls Try.prog 42 #[.slice A m c, .func (.func 43) #[] #[v1, v2, v3]] w fun e w' => ∃ A c, e = .returned (.slice A (lsL f m).length c) ∧ Own w.heap.size w' A (lsL f m).length c (lsL f m) ∧ Below w.heap.size w w' := by
  obtain ⟨i0, hi0, hz0, hz1, hz2⟩ := info_parts Try.infoI
  have HI := Lib.hid hO.ints
  have HF := Lib.hid hF
  clear hO hF
  go_enter Try.func42, Try.ntmps42
  go_wp2
  go_loopw [5, 6, 12] (fun o l i wr => ∃ j : Nat, j ≤ m ∧ i = .int .i64 j ∧ l = .int .i64 (lstN 0 f j) ∧ ∃ A c, o = .slice A (lsL f j).length c ∧ Own w.heap.size wr A (lsL f j).length c (lsL f j) ∧ Below w.heap.size w wr) (fun _ _ i _ => m - (intOf i).toNat)
  case atStart => exact ⟨0, Nat.zero_le _, rfl, rfl, _, _, rfl, Own.nilS _ _, Below.refl _ _⟩
  case round =>
    obtain ⟨j, hj, rfl, rfl, A0, c0, rfl, hO, hb⟩ := hrel
    have HO := Lib.hid hO
    have HB := Lib.hid hb
    have hsz := hb.size
    clear hO hb
    by_cases hlt : j < m
    · obtain ⟨ad, rfl, had, hcj⟩ := (HI.out.below HB.out) j (by rw [nfL_len]; omega)
      rw [List.getD_eq_getElem?_getD, nfL_at 1 hlt, show (1 : Int) + (j : Int) = ((j + 1 : Nat) : Int) by omega] at hcj
      simp only [Option.getD_some] at hcj
      go_wp2_with fail
      refine (HF.out j hlt _ HB.out).mono ?_
      rintro e w1 ⟨rfl, hb1⟩
      have HB1 := Lib.hid (HB.out.trans (hb1.mono hsz))
      have HO1 := Lib.hid (HO.out.below hb1)
      have hs1 := HB1.out.size
      have HNIL := Lib.hid (Own.nilS w.heap.size w1)
      have hll : (lsL f j).length ≤ j := splL_len _ _ _
      obtain ⟨x, hx⟩ : ∃ x, Hid (f (j + 1) = x) := ⟨_, rfl⟩
      obtain ⟨l, hl⟩ : ∃ l, Hid (lstN 0 f j = l) := ⟨_, rfl⟩
      rw [hx.out, hl.out]
      clear hb1
      by_cases hnew : j = 0 ∨ x < l
      · have HL := Lib.hid (lsL_new (f := f) (k := j) (by rw [hx.out, hl.out]; exact hnew))
        by_cases hj0 : j = 0
        · subst hj0
          clear hnew
          go_wp2_with (at_builtin; refine wpList_append_own _ rfl _ _ 31 rfl w.heap.size 2 i0 (.int .i64 0) 1 8 Try.underlying31 hi0 hz0 hz1 hz2 rfl (by decide) _ _ _ rfl (HNIL.out.alloc _) ⟨w1.heap.size, 0, none⟩ 1 1 [.int .i64 1] rfl rfl (cell_one_new _ _ _) (by simp [Value.oneCell']) (by unfold maxLen; omega) (by omega) (by simp; omega) ?_; intro v' w4 hown' hgrow _; obtain ⟨A4, c4, rfl⟩ := ownG_shape hown'; have HP := Lib.hid (Own.pushed HNIL.out hgrow hown'); clear hown' hgrow)
          go_roundw
          case rel =>
            refine ⟨1, by omega, rfl, by rw [HL.out.2, hx.out], A4, c4, by rw [HL.out.1]; simp, ?_, HB1.out.trans (HP.out.2.2.2 _ (Nat.le_refl _) hs1)⟩
            rw [HL.out.1]
            first | exact HP.out.1 | (rw [List.length_append]; exact HP.out.1)
          case measure => simp [intOf]; omega
        · have hxl : x < l := by omega
          have hpos := lsL_pos (f := f) (k := j) (by omega)
          have hp0 : (((lsL f j).length : Int) == 0) = false := by rw [beq_eq_false_iff_ne]; omega
          obtain ⟨Z, hZ⟩ : ∃ Z, lsL f j = Z := ⟨_, rfl⟩
          rw [hZ] at hp0 hpos hll HO1 ⊢
          clear hnew hZ HO
          go_wp2_with (at_builtin; refine wpList_append_own _ rfl _ _ 31 rfl w.heap.size 2 i0 (.int .i64 0) 1 8 Try.underlying31 hi0 hz0 hz1 hz2 rfl (by decide) _ _ _ rfl (HNIL.out.alloc _) ⟨w1.heap.size, 0, none⟩ 1 1 [.int .i64 ((j : Int) + 1)] rfl rfl (cell_one_new _ _ _) (by simp [Value.oneCell']) (by unfold maxLen; omega) (by omega) (by simp; omega) ?_; intro v' w4 hown' hgrow _; obtain ⟨A4, c4, rfl⟩ := ownG_shape hown'; have HP := Lib.hid (Own.pushed HNIL.out hgrow hown'); clear hown' hgrow)
          go_roundw
          case rel =>
            refine ⟨j + 1, by omega, by go_num, by rw [HL.out.2, hx.out], A4, c4, by rw [HL.out.1]; simp, ?_, HB1.out.trans (HP.out.2.2.2 _ (Nat.le_refl _) hs1)⟩
            rw [HL.out.1]
            first | exact HP.out.1 | (rw [List.length_append]; exact HP.out.1)
          case measure => simp [intOf]; omega
      · have hj0 : ¬ j = 0 := by omega
        have hxl : ¬ x < l := by omega
        have hnew' : ¬ (j = 0 ∨ f (j + 1) < lstN 0 f j) := by rw [hx.out, hl.out]; exact hnew
        have hpos := lsL_pos (f := f) (k := j) (by omega)
        have hp0 : (((lsL f j).length : Int) == 0) = false := by rw [beq_eq_false_iff_ne]; omega
        by_cases hxe : x = l
        · subst hxe
          have HL := Lib.hid (lsL_more hnew' (by rw [hx.out, hl.out]))
          rw [hl.out] at HL
          obtain ⟨Z, hZ⟩ : ∃ Z, lsL f j = Z := ⟨_, rfl⟩
          rw [hZ] at hp0 hpos hll HO1 HL ⊢
          clear hnew hnew' hZ HO
          go_wp2_with (at_builtin; refine wpList_append_own _ rfl _ _ 31 rfl w.heap.size 2 i0 (.int .i64 0) 1 8 Try.underlying31 hi0 hz0 hz1 hz2 rfl (by decide) _ _ _ rfl (HO1.out.alloc _) ⟨w1.heap.size, 0, none⟩ 1 1 [.int .i64 ((j : Int) + 1)] rfl rfl (cell_one_new _ _ _) (by simp [Value.oneCell']) (by unfold maxLen; omega) (by omega) (by simp; omega) ?_; intro v' w4 hown' hgrow _; obtain ⟨A4, c4, rfl⟩ := ownG_shape hown'; have HP := Lib.hid (Own.pushed HO1.out hgrow hown'); clear hown' hgrow)
          go_roundw
          case rel =>
            refine ⟨j + 1, by omega, by go_num, by rw [HL.out.2], A4, c4, by rw [HL.out.1]; simp, ?_, HB1.out.trans (HP.out.2.2.2 _ (Nat.le_refl _) hs1)⟩
            rw [HL.out.1]
            first | exact HP.out.1 | (rw [List.length_append]; exact HP.out.1)
          case measure => simp [intOf]; omega
        · have HL := Lib.hid (lsL_same hnew' (by rw [hx.out, hl.out]; exact hxe))
          have hxe' : (x == l) = false := by rw [beq_eq_false_iff_ne]; exact hxe
          rw [hl.out] at HL
          obtain ⟨Z, hZ⟩ : ∃ Z, lsL f j = Z := ⟨_, rfl⟩
          rw [hZ] at hp0 hpos hll HO1 HL ⊢
          clear hnew hnew' hZ HO hxe
          go_wp2
          go_roundw
          case rel => exact ⟨j + 1, by omega, by go_num, by rw [HL.out.2], _, _, by rw [HL.out.1], by rw [HL.out.1]; exact HO1.out, HB1.out⟩
          case measure => simp [intOf]; omega
    · obtain rfl : j = m := by omega
      go_wp2
      go_ret
      exact ⟨_, _, rfl, HO.out, HB.out⟩

set_option maxHeartbeats 1000000 in
theorem splits1_calls (bt bp bn : Nat) (g N n q M0 M1 k d nn : Nat) (a b : Int) (w : World) (hM0 : Hid (M0 = q * (n + 1))) (hM1 : Hid (M1 = (q + 1) * (n + 1))) (hN : M1 + (n + 1) ≤ N) (hNb : N ≤ 1000) (hq : q < 7) (hn : n ≤ 60)
    (hk : k + 1 ≤ n) (hnn : Hid (nn = k + 1 + d)) (hd : d ≤ n) (ha : 0 ≤ a ∧ a ≤ 1152921504606846975) (hb : 0 ≤ b ∧ b ≤ 1152921504606846975)
    (hxt : Box w bt 44 #[.slice (some ⟨g, 0, none⟩) N N, .int .i64 n]) (hxp : Box w bp 2 #[.int .i64 ((q : Int) + 4)]) (hxn : Box w bn 2 #[.int .i64 nn])
    (hca : w.cell? ⟨g, M1 + (k + 1), none⟩ = some (.int .i64 a)) (hcb : w.cell? ⟨g, M0 + d, none⟩ = some (.int .i64 b)) :
    Calls Try.prog 43 #[.int .i64 ((k : Int) + 1), .pointer (some ⟨bt, 0, none⟩), .pointer (some ⟨bp, 0, none⟩), .pointer (some ⟨bn, 0, none⟩)] w fun e w' => e = .returned (.int .i64 (2 * a + b)) ∧ Below w.heap.size w w' := by
  obtain ⟨t0, t1, _⟩ := hxt.two
  obtain ⟨p0, _⟩ := hxp.one
  obtain ⟨n0, _⟩ := hxn.one
  have HCA := Lib.hid hca
  have HCB := Lib.hid hcb
  clear hca hcb
  go_enter Try.func43, Try.ntmps43
  go_wp2_with fail
  refine (splitNumber_calls g N n q M0 M1 (k + 1) d nn a b _ hM0 hM1 hN hNb hq hn hk hnn hd ha hb HCA.out HCB.out).mono ?_
  rintro e w1 ⟨rfl, hb1⟩
  go_wp2
  go_ret
  exact ⟨rfl, hb1⟩

/-- The rows of the table that a number of q + 4 pegs and nn discs wants. -/
def Rows (w : World) (g q nn M0 M1 : Nat) : Prop := g < w.heap.size ∧ ∀ j, j < nn → w.cell? { block := g, off := M1 + j } = some (.int .i64 (pnF (q + 1) j)) ∧ w.cell? { block := g, off := M0 + j } = some (.int .i64 (pnF q j))
theorem Rows.below {w w' : World} {g q nn M0 M1 : Nat} (h : Rows w g q nn M0 M1) (hb : Below w.heap.size w w') : Rows w' g q nn M0 M1 :=
  ⟨Nat.lt_of_lt_of_le h.1 hb.size, fun j hj => ⟨(hb.cell (p := { block := g, off := M1 + j }) h.1).trans (h.2 j hj).1, (hb.cell (p := { block := g, off := M0 + j }) h.1).trans (h.2 j hj).2⟩⟩
theorem lsL_sp {q n : Nat} (h : 2 ≤ n) : lsL (sN (pnF (q + 1)) (pnF q) n) (n - 1) = spF q n := by
  obtain ⟨m, rfl⟩ : ∃ m, n = m + 2 := ⟨n - 2, by omega⟩
  unfold lsL spF
  rw [pnF_succ, show m + 2 - 1 = m + 1 by omega, lstN_start (a := 0) (b := 1) (m + 1) (by omega)]

set_option maxHeartbeats 2000000 in
theorem splits_calls (g N n q M0 M1 nn : Nat) (w : World) (hM0 : Hid (M0 = q * (n + 1))) (hM1 : Hid (M1 = (q + 1) * (n + 1))) (hN : M1 + (n + 1) ≤ N) (hNb : N ≤ 1000) (hq : q < 7) (hn : n ≤ 60) (h2 : 2 ≤ nn) (hnn : nn ≤ n) (hR : Rows w g q nn M0 M1) :
    Calls Try.prog 40 #[.agg #[.slice (some ⟨g, 0, none⟩) N N, .int .i64 n], .int .i64 ((q : Int) + 4), .int .i64 nn] w fun e w' => ∃ A c, e = .returned (.slice A (spF q nn).length c) ∧ Own w.heap.size w' A (spF q nn).length c (spF q nn) ∧ Below w.heap.size w w' := by
  have hmf : ∀ (fn : Fn) (first cap : Array Value) (w : World), (Instr.makeFunc fn first cap).run Try.prog w = .ok (.func fn first cap) w := fun _ _ _ _ => rfl
  have hb0 := (((Below.refl w.heap.size w).alloc (Nat.le_refl _) (.cells #[.slice (some ⟨g, 0, none⟩) N N, .int .i64 n] 44)).alloc (by simp) (.cells #[.int .i64 ((q : Int) + 4)] 2)).alloc (by simp; omega) (.cells #[.int .i64 nn] 2)
  have XT := Lib.hid (((Box.new w 44 #[.slice (some ⟨g, 0, none⟩) N N, .int .i64 n]).alloc (.cells #[.int .i64 ((q : Int) + 4)] 2)).alloc (.cells #[.int .i64 nn] 2))
  have xp := (Box.new (w.alloc (.cells #[.slice (some ⟨g, 0, none⟩) N N, .int .i64 n] 44)) 2 #[.int .i64 ((q : Int) + 4)]).alloc (.cells #[.int .i64 nn] 2)
  have xn := Box.new ((w.alloc (.cells #[.slice (some ⟨g, 0, none⟩) N N, .int .i64 n] 44)).alloc (.cells #[.int .i64 ((q : Int) + 4)] 2)) 2 #[.int .i64 nn]
  simp only [World.size_alloc] at xp xn
  have XP := Lib.hid xp
  have XN := Lib.hid xn
  have HB0 := Lib.hid hb0
  have HR0 := Lib.hid (hR.below hb0)
  clear xp xn hb0 hR
  obtain ⟨n0, _⟩ := XN.out.one
  go_enter Try.func40, Try.ntmps40
  go_wp2_with fail
  refine (numbersFrom_calls 1 _ (nn - 1) _ (by omega) (by omega) (by unfold Hid; omega)).mono ?_
  rintro e w1 ⟨A1, c1, rfl, hO, hb⟩
  have HO1 := Lib.hid hO
  have HB1 := Lib.hid (HB0.out.trans (hb.mono HB0.out.size))
  have XT1 := Lib.hid (XT.out.below hb XT.out.lt)
  have XP1 := Lib.hid (XP.out.below hb XP.out.lt)
  have XN1 := Lib.hid (XN.out.below hb XN.out.lt)
  have HR1 := Lib.hid (HR0.out.below hb)
  clear hO hb n0
  go_wp2_with fail
  refine (leastOnes_calls _ _ _ _ (sN (pnF (q + 1)) (pnF q) nn) A1 (nn - 1) c1 w1 (by omega) HO1.out ?_).mono ?_
  · intro i hi W hW
    have hr := HR1.out.below hW
    obtain ⟨d, hd⟩ : ∃ d, nn = i + 1 + d := ⟨nn - (i + 1), by omega⟩
    have := splits1_calls w.heap.size (w.heap.size + 1) (w.heap.size + 1 + 1) g N n q M0 M1 i d nn (pnF (q + 1) (i + 1)) (pnF q d) W hM0 hM1 hN hNb hq hn (by omega) hd (by omega) (pn_lim (by omega)) (pn_lim (by omega)) (XT1.out.below hW XT1.out.lt) (XP1.out.below hW XP1.out.lt) (XN1.out.below hW XN1.out.lt) (hr.2 (i + 1) (by omega)).1 (hr.2 d (by omega)).2
    have e : sN (pnF (q + 1)) (pnF q) nn (i + 1) = 2 * pnF (q + 1) (i + 1) + pnF q d := by unfold sN; rw [show nn - (i + 1) = d by omega]
    rw [e]
    exact this
  · rw [lsL_sp h2]
    rintro e w2 ⟨A2, c2, rfl, hO, hb⟩
    have HO2 := Lib.hid hO
    have HB2 := Lib.hid (HB1.out.trans (hb.mono HB1.out.size))
    clear hO hb
    go_wp2
    go_ret
    exact ⟨_, _, rfl, HO2.out.mono HB1.out.size, HB2.out⟩

end Go.Proofs.Ytfllbdpdfgkkaaa
