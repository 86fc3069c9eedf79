/- Contracts: the greatest place at which two words differ. -/
import Derived.Test.YtnfjdggiaodhmaaArr4
import Derived.Test.YtnfjdggiaodhmaaToE
import Derived.BigQuiet
import Derived.StillTailTactics
namespace Go.Proofs.Ytnfjdggiaodhmaa
open Go.RowKit
set_option linter.unusedVariables false

theorem grq_eq {L M : List Int} {k : Nat} (h : L[k]?.getD 0 = M[k]?.getD 0) : grt L M (k + 1) = grt L M k := by rw [grt, if_pos h]
theorem grq_ne {L M : List Int} {k : Nat} (h : ¬ L[k]?.getD 0 = M[k]?.getD 0) : grt L M (k + 1) = k := by rw [grt, if_neg h]
/-- No place differs: the lists are the same. -/
theorem grt_neg {L M : List Int} : ∀ k, grt L M k = -1 → ∀ i, i < k → L[i]?.getD 0 = M[i]?.getD 0
  | 0, _, i, hi => absurd hi (by omega)
  | k + 1, h, i, hi => by
    by_cases he : L[k]?.getD 0 = M[k]?.getD 0
    · rw [grq_eq he] at h
      by_cases hik : i = k
      · rw [hik]; exact he
      · exact grt_neg k h i (by omega)
    · rw [grq_ne he] at h; omega
theorem grt_same (L : List Int) : ∀ k, grt L L k = -1
  | 0 => rfl
  | k + 1 => by rw [grq_eq rfl]; exact grt_same L k
theorem grt_at {L M : List Int} {g : Nat} : ∀ k, grt L M k = g → g < k ∧ L[g]?.getD 0 ≠ M[g]?.getD 0
  | 0, h => by simp [grt] at h
  | k + 1, h => by
    by_cases he : L[k]?.getD 0 = M[k]?.getD 0
    · rw [grq_eq he] at h
      have := grt_at k h
      exact ⟨by omega, this.2⟩
    · rw [grq_ne he] at h
      obtain rfl : g = k := by omega
      exact ⟨by omega, he⟩
theorem grt_lists {L M : List Int} {n : Nat} (hL : L.length = n) (hM : M.length = n) (h : grt L M n = -1) : L = M :=
  list_ext hL hM (fun j hj => by rw [List.getD_eq_getElem?_getD, List.getD_eq_getElem?_getD]; exact grt_neg n h j hj)

set_option maxHeartbeats 1000000 in
theorem l04Place_calls (A : Option Addr) (n c : Nat) (L : List Int) (B : Option Addr) (d : Nat) (M : List Int) (w : World) (hL : L.length = n) (hM : M.length = n) (hn : n ≤ 1048576) (hI : Ints w A L) (hJ : Ints w B M) :
    Calls Try.prog 29 #[.slice A n c, .slice B n d] w fun e w' => e = .returned (.int .i64 (grt L M n)) ∧ ∃ k, w' = w.drewN k := by
  have HL := Lib.hid hL
  have HM := Lib.hid hM
  have HI := Lib.hid hI
  have HJ := Lib.hid hJ
  clear hL hM hI hJ
  go_enter Try.func29, Try.ntmps29
  go_wp2
  go_loopw [5] (fun i wr => ∃ m : Nat, m ≤ n ∧ i = .int .i64 ((m : Int) - 1) ∧ Hid (grt L M n = grt L M m) ∧ ∃ k, wr = w.drewN k) (fun i _ => (intOf i + 1).toNat)
  case atStart => exact ⟨n, Nat.le_refl _, rfl, Lib.hid rfl, 0, rfl⟩
  case round =>
    obtain ⟨m, hm, rfl, HG, k0, rfl⟩ := hrel
    cases m with
    | zero =>
      go_wp2
      go_ret
      exact ⟨ret_intW HG.out, k0, rfl⟩
    | succ k =>
      obtain ⟨ad, rfl, had, hc⟩ := HI.out k (by rw [HL.out]; omega)
      obtain ⟨ad', rfl, had', hc'⟩ := HJ.out k (by rw [HM.out]; omega)
      have hi0 : (0 : Int) ≤ (k : Int) := by omega
      have hi1 : (k : Int) < (n : Int) := by omega
      have hi2 : ((k + 1 : Nat) : Int) - 1 = (k : Int) := by omega
      rw [hi2]
      clear hi2
      by_cases he : L[k]?.getD 0 = M[k]?.getD 0
      · have ht : (L[k]?.getD 0 != M[k]?.getD 0) = false := by simpa using he
        have HS := Lib.hid (HG.out.trans (grq_eq he))
        clear he
        go_wp2_with fail
        go_quiet (fail)
        go_wp2
        go_roundw
        case rel => exact ⟨k, by omega, rfl, HS, by first | exact ⟨_, rfl⟩ | exact ⟨_, World.drewN_drewN _ _ _⟩⟩
        case measure => simp [intOf]
      · have ht : (L[k]?.getD 0 != M[k]?.getD 0) = true := by simpa using he
        have HS := Lib.hid (HG.out.trans (grq_ne he))
        clear he
        go_wp2_with fail
        go_quiet (fail)
        go_wp2
        go_ret
        exact ⟨ret_intW HS.out, by first | exact ⟨_, rfl⟩ | exact ⟨_, World.drewN_drewN _ _ _⟩⟩

theorem padW_bd {p : Int} {L : List Int} (h : stateB p L = true) (i : Nat) : 0 ≤ padI L i ∧ padI L i ≤ 4 := by
  obtain ⟨h3, h5, _, _⟩ := state_facts h rfl
  unfold padI
  by_cases hi : i < L.length
  · have := state_at h i hi; omega
  · rw [List.getElem?_eq_none (by omega)]; simp
theorem padW_wf {p : Int} {L : List Int} (h : stateB p L = true) : ∀ i, i < 8 → (Lit.int .i64 (padI L i)).wf = true := fun i _ => WalkArith.wf_i64 (by have := padW_bd h i; omega)

set_option maxHeartbeats 2000000 in
theorem partingOf_same (A : Option Addr) (n c : Nat) (p : Int) (L : List Int) (B : Option Addr) (d : Nat) (w : World) (hs : stateB p L = true) (hL : L.length = n) (hI : Ints w A L) (hJ : Ints w B L) :
    Calls Try.prog 32 #[.slice A n c, .slice B n d] w fun e w' => e = .returned (.tuple #[.agg #[.int .i64 0, .int .i64 0, .int .i64 0], .bool false]) ∧ Below w.heap.size w w' := by
  have HL := Lib.hid hL
  have h8 := (state_facts hs hL).2.2.1
  have hEq := eq8W_yes (padI L) (padI L) (padW_wf hs) (padW_wf hs) (fun i _ => rfl)
  have X0 := Lib.hid (Box.new w 50 #[.int .i64 0, .int .i64 0, .int .i64 0])
  have HB0 := Lib.hid ((Below.refl w.heap.size w).alloc (Nat.le_refl _) (.cells #[.int .i64 0, .int .i64 0, .int .i64 0] 50))
  have HI := Lib.hid (hI.below HB0.out)
  have HJ := Lib.hid (hJ.below HB0.out)
  clear hL hI hJ hs
  go_enter Try.func32, Try.ntmps32
  go_wp2_with fail
  refine (arrayOf_calls A n c L _ HL.out h8 HI.out).mono ?_
  rintro e w1 ⟨rfl, hb1⟩
  have X1 := Lib.hid (X0.out.below hb1 X0.out.lt)
  have HB1 := Lib.hid (HB0.out.trans (hb1.mono HB0.out.size))
  have HJ1 := Lib.hid (HJ.out.below hb1)
  clear hb1
  go_wp2_with fail
  refine (arrayOf_calls B n d L _ HL.out h8 HJ1.out).mono ?_
  rintro e w2 ⟨rfl, hb2⟩
  have X2 := Lib.hid (X1.out.below hb2 X1.out.lt)
  have HB2 := Lib.hid (HB1.out.trans (hb2.mono HB1.out.size))
  clear hb2
  obtain ⟨x0, x1, x2⟩ := X2.out.three
  have f0 := X2.out.frozen 0
  have f1 := X2.out.frozen 1
  have f2 := X2.out.frozen 2
  go_wp2
  have hb3 : Hid (Box (((w2.setCell ⟨w.heap.size, 0, none⟩ (.int .i64 0)).setCell ⟨w.heap.size, 1, none⟩ (.int .i64 0)).setCell ⟨w.heap.size, 2, none⟩ (.int .i64 0)) w.heap.size 50 #[.int .i64 0, .int .i64 0, .int .i64 0]) := ((X2.out.set 0 _).set 1 _).set 2 _
  obtain ⟨z0, z1, z2⟩ := hb3.out.three
  refine bodyPost_ret (v := .tuple #[.agg #[.int .i64 0, .int .i64 0, .int .i64 0], .bool false]) (by simp [results, Try.results32, go_sem, z0, z1, z2]) rfl ⟨rfl, ?_⟩
  exact ((HB2.out.setCell (Nat.le_refl _) _).setCell (Nat.le_refl _) _).setCell (Nat.le_refl _) _

theorem pad_neW {L M : List Int} {g : Nat} {n : Nat} (h : grt L M n = g) (hn : n ≤ 8) : ∃ k, k < 8 ∧ padI L k ≠ padI M k := by
  have := grt_at n h
  exact ⟨g, by omega, this.2⟩

set_option maxHeartbeats 4000000 in
theorem partingOf_diff (A : Option Addr) (n c : Nat) (p : Int) (L : List Int) (B : Option Addr) (d : Nat) (M : List Int) (g : Nat) (w : World) (hs : stateB p L = true) (hs' : stateB p M = true) (hL : L.length = n) (hM : M.length = n) (hg : grt L M n = g) (hI : Ints w A L) (hJ : Ints w B M) :
    Calls Try.prog 32 #[.slice A n c, .slice B n d] w fun e w' => e = .returned (.tuple #[.agg #[.int .i64 g, .int .i64 (L[g]?.getD 0), .int .i64 (M[g]?.getD 0)], .bool true]) ∧ Below w.heap.size w w' := by
  have HL := Lib.hid hL
  have HM := Lib.hid hM
  have HG := Lib.hid hg
  have h8 := (state_facts hs hL).2.2.1
  obtain ⟨kk, hk8, hkn⟩ := pad_neW hg h8
  have hEq := eq8W_no (padI L) (padI M) (padW_wf hs) (padW_wf hs') hk8 hkn
  have X0 := Lib.hid (Box.new w 50 #[.int .i64 0, .int .i64 0, .int .i64 0])
  have HB0 := Lib.hid ((Below.refl w.heap.size w).alloc (Nat.le_refl _) (.cells #[.int .i64 0, .int .i64 0, .int .i64 0] 50))
  have HI := Lib.hid (hI.below HB0.out)
  have HJ := Lib.hid (hJ.below HB0.out)
  clear hL hM hg hI hJ hs hs' hkn hk8
  go_enter Try.func32, Try.ntmps32
  go_wp2_with fail
  refine (arrayOf_calls A n c L _ HL.out h8 HI.out).mono ?_
  rintro e w1 ⟨rfl, hb1⟩
  have X1 := Lib.hid (X0.out.below hb1 X0.out.lt)
  have HB1 := Lib.hid (HB0.out.trans (hb1.mono HB0.out.size))
  have HI1 := Lib.hid (HI.out.below hb1)
  have HJ1 := Lib.hid (HJ.out.below hb1)
  clear hb1
  go_wp2_with fail
  refine (arrayOf_calls B n d M _ HM.out h8 HJ1.out).mono ?_
  rintro e w2 ⟨rfl, hb2⟩
  have X2 := Lib.hid (X1.out.below hb2 X1.out.lt)
  have HB2 := Lib.hid (HB1.out.trans (hb2.mono HB1.out.size))
  have HI2 := Lib.hid (HI1.out.below hb2)
  have HJ2 := Lib.hid (HJ1.out.below hb2)
  clear hb2 X0 X1 HB0 HB1 HI HJ HI1 HJ1
  generalize padI L 0 = u0 at *
  generalize padI L 1 = u1 at *
  generalize padI L 2 = u2 at *
  generalize padI L 3 = u3 at *
  generalize padI L 4 = u4 at *
  generalize padI L 5 = u5 at *
  generalize padI L 6 = u6 at *
  generalize padI L 7 = u7 at *
  generalize padI M 0 = v0 at *
  generalize padI M 1 = v1 at *
  generalize padI M 2 = v2 at *
  generalize padI M 3 = v3 at *
  generalize padI M 4 = v4 at *
  generalize padI M 5 = v5 at *
  generalize padI M 6 = v6 at *
  generalize padI M 7 = v7 at *
  go_wp2
  clear hEq
  go_loopw [6] (fun i wr => ∃ m : Nat, m < n ∧ i = .int .i64 m ∧ Hid (grt L M n = grt L M (m + 1)) ∧ ∃ k, wr = w2.drewN k) (fun i _ => (intOf i).toNat)
  case atStart =>
    have h1 := HG.out
    have h2 := grt_bd L M n
    have hn1 : 1 ≤ n := by omega
    exact ⟨n - 1, by omega, by go_num, by rw [show n - 1 + 1 = n by omega]; exact Lib.hid rfl, 0, rfl⟩
  case round =>
    obtain ⟨k, hk, rfl, HS, k0, rfl⟩ := hrel
    obtain ⟨ad, rfl, had, hc⟩ := HI2.out k (by rw [HL.out]; omega)
    obtain ⟨ad', rfl, had', hc'⟩ := HJ2.out k (by rw [HM.out]; omega)
    have hi0 : (0 : Int) ≤ (k : Int) := by omega
    have hi1 : (k : Int) < (n : Int) := by omega
    by_cases he : L[k]?.getD 0 = M[k]?.getD 0
    · have ht : (L[k]?.getD 0 == M[k]?.getD 0) = true := by simpa using he
      have HS' := Lib.hid (HS.out.trans (grq_eq he))
      clear he
      have hk1 : 1 ≤ k := by
        have h1 := HS'.out
        have h2 := HG.out
        have h3 := grt_bd L M k
        omega
      go_wp2_with fail
      go_quiet (fail)
      go_wp2
      go_roundw
      case rel => exact ⟨k - 1, by omega, by go_num, by have := HS'.out; rwa [show k - 1 + 1 = k by omega], by first | exact ⟨_, rfl⟩ | exact ⟨_, World.drewN_drewN _ _ _⟩⟩
      case measure => simp [intOf]; omega
    · have ht : (L[k]?.getD 0 == M[k]?.getD 0) = false := by simpa using he
      have HS' := Lib.hid (HS.out.trans (grq_ne he))
      clear he
      have hkg : k = g := by
        have h1 := HS'.out
        have h2 := HG.out
        omega
      subst hkg
      go_wp2_with fail
      go_quiet (fail)
      obtain ⟨x0, x1, x2⟩ := X2.out.three
      have f0 := X2.out.frozen 0
      have f1 := X2.out.frozen 1
      have f2 := X2.out.frozen 2
      go_wp2_with fail
      have X3 : Hid (Box ((w2.drewN k0).drewN nq) w.heap.size 50 #[.int .i64 0, .int .i64 0, .int .i64 0]) := X2.out
      have HB3 : Hid (Below w.heap.size w ((w2.drewN k0).drewN nq)) := Lib.hid (belowDraws (belowDraws HB2.out _) _)
      have c3 : ((w2.drewN k0).drewN nq).cell? (ad.add k) = some (.int .i64 (L.getD k 0)) := hc
      have c3' : ((w2.drewN k0).drewN nq).cell? (ad'.add k) = some (.int .i64 (M.getD k 0)) := hc'
      clear hc hc' X2 HB2 x0 x1 x2 f0 f1 f2 HI2 HJ2
      generalize (w2.drewN k0).drewN nq = w3 at *
      go_still_tail 10, (by kernel_rfl)
      change wpList _ _ _ _ _ w3.drew
      have X4 : Hid (Box w3.drew w.heap.size 50 #[.int .i64 0, .int .i64 0, .int .i64 0]) := X3
      have HB4 : Hid (Below w.heap.size w w3.drew) := Lib.hid HB3.out.drew
      clear X3 HB3 c3 c3'
      generalize w3.drew = w4 at *
      obtain ⟨x0, x1, x2⟩ := X4.out.three
      have f0 := X4.out.frozen 0
      have f1 := X4.out.frozen 1
      have f2 := X4.out.frozen 2
      go_wp2
      have hb5 : Hid (Box (((w4.setCell ⟨w.heap.size, 0, none⟩ (.int .i64 k)).setCell ⟨w.heap.size, 1, none⟩ (.int .i64 (L[k]?.getD 0))).setCell ⟨w.heap.size, 2, none⟩ (.int .i64 (M[k]?.getD 0))) w.heap.size 50 #[.int .i64 k, .int .i64 (L[k]?.getD 0), .int .i64 (M[k]?.getD 0)]) := ((X4.out.set 0 _).set 1 _).set 2 _
      obtain ⟨z0, z1, z2⟩ := hb5.out.three
      refine bodyPost_ret (v := .tuple #[.agg #[.int .i64 k, .int .i64 (L[k]?.getD 0), .int .i64 (M[k]?.getD 0)], .bool true]) (by simp [results, Try.results32, go_sem, z0, z1, z2]) rfl ⟨rfl, ?_⟩
      exact ((HB4.out.setCell (Nat.le_refl _) _).setCell (Nat.le_refl _) _).setCell (Nat.le_refl _) _

end Go.Proofs.Ytnfjdggiaodhmaa
