/- Contracts: TimeOf. -/
import Derived.Test.YtcicjnpnhaddcaaDoorTmOf
namespace Go.Proofs.YtcicjnpnhaddcaaDoor
open Go.RowKit
open Go.RowKit (wrap64)
set_option linter.unusedVariables false

set_option maxHeartbeats 2000000 in
theorem specTimeOf_calls (A : Option Addr) (n c : Nat) (p : Int) (L : List Int) (w : World) (hL : L.length = n) (hn : n ≤ 1048576) (hI : Ints w A L) :
    Calls Tryd.prog 11 #[.agg #[.int .i64 p, .slice A n c]] w fun e w' => e = .returned (.tuple #[.int .i64 (toV p L), .int .i64 (toC p L)]) ∧ Below w.heap.size w w' := by
  have HL := Lib.hid hL
  have X0 := Lib.hid (Box.new w 28 #[.int .i64 p, .slice A n c])
  have HB0 := Lib.hid ((Below.refl w.heap.size w).alloc (Nat.le_refl _) (.cells #[.int .i64 p, .slice A n c] 28))
  have HI0 := Lib.hid (hI.below HB0.out)
  have HIw := Lib.hid hI
  clear hL hI
  by_cases hs : stateB p L = true
  · have h8 := (state_facts hs HL.out).2.2.1
    by_cases hp : p = 3
    · subst hp
      have hz : code1 3 L = 0 := by unfold code1; rw [if_pos hs, if_pos rfl]
      have HS := Lib.hid hs
      have HZ := Lib.hid hz
      obtain ⟨N, hN⟩ : ∃ N : Nat, Hid (N = 2 ^ n) := ⟨_, rfl⟩
      have hNb : 1 ≤ N ∧ N ≤ 256 := by rw [hN.out]; exact pow2n8' h8
      have HW : Hid (wrap64 ((2 : Int) ^ n) = (N : Int)) := by unfold Hid; rw [hN.out]; exact wrap_pow41 (by omega)
      clear hs hz
      go_enter Tryd.func11, Tryd.ntmps11
      go_wp2_with fail
      refine (l01Is_calls A n c 3 L _ HL.out hn HI0.out).mono ?_
      rintro e w1 ⟨rfl, hb1⟩
      have X1 := Lib.hid (X0.out.below hb1 X0.out.lt)
      have HB1 := Lib.hid (HB0.out.trans (hb1.mono HB0.out.size))
      rw [HS.out]
      clear hb1
      obtain ⟨x0, x1, _, _⟩ := X1.out.two
      go_wp2
      clear x0 x1
      go_loopw [5] (fun i wr => ∃ k : Nat, k ≤ N ∧ i = .int .i64 k ∧ Hid (∀ j, j < k → atL j n ≠ L) ∧ Box wr w.heap.size 28 #[.int .i64 3, .slice A n c] ∧ Below w.heap.size w wr) (fun i _ => N - (intOf i).toNat)
      case atStart => exact ⟨0, Nat.zero_le _, rfl, fun j hj => absurd hj (by omega), X1.out, HB1.out⟩
      case round =>
        obtain ⟨k, hk, rfl, hall, hx, hb⟩ := hrel
        have X := Lib.hid hx
        have HB := Lib.hid hb
        have HIr := Lib.hid (HIw.out.below hb)
        have hsz := hb.size
        clear hx hb
        obtain ⟨x0, x1, _, _⟩ := X.out.two
        have hw := HW.out
        by_cases hlt : k < N
        · by_cases he : atL k n = L
          · have HSA : Hid (sameB (atL k n) L = true) := decide_eq_true he
            obtain ⟨q1, q2⟩ := tm_of HL.out h8 (by rw [← hN.out]; exact hlt) he
            have H := Lib.hid (to_yes HZ.out q1)
            rw [q2] at H
            clear he q1 q2
            go_wp2_with fail
            clear hw
            go_region_held3 (fun w' => w'.cell? ⟨w.heap.size, 0, none⟩ = some (.int .i64 3) ∧ w'.cell? ⟨w.heap.size, 1, none⟩ = some (.slice A n c))
              (first | exact ⟨X.out.two.1, X.out.two.2.1⟩ | exact ⟨X3.out.two.1, X3.out.two.2.1⟩ | exact ⟨X4.out.two.1, X4.out.two.2.1⟩ | go_keep)
              (first
              | (go_at_call 30; refine (l10State_calls k n _ h8 (by omega)).mono ?_; rintro e w3 ⟨A3, c3, rfl, hO3, hb3⟩; have X3 := Lib.hid (Box.below X.out (undrew hb3) (Box.lt X.out)))
              | (go_at_call 37; refine (l01Same_calls A3 A n c3 c (atL k n) L _ (atL_len _ _) HL.out h8 ?_ ?_).mono ?_; (exact hO3.ints); (exact HIr.out.below (undrew hb3)); rintro e w4 ⟨rfl, hb4⟩; have X4 := Lib.hid (Box.below X3.out hb4 (Box.lt X3.out))))
            all_goals
              rw [HSA.out]
              have q3 := Below.size (undrew hb3)
              have HB4 := Lib.hid ((HB.out.trans ((undrew hb3).mono hsz)).trans (hb4.mono (Nat.le_trans hsz q3)))
              clear hb3 hb4 q3
              go_wp2
              go_ret2
              exact ⟨ret_two H.out.1 H.out.2, by first | exact HB4.out | exact HB4.out.drew⟩
          · have HSA : Hid (sameB (atL k n) L = false) := decide_eq_false he
            have HN : Hid (∀ j, j < k + 1 → atL j n ≠ L) := fun j hj => by
              by_cases h : j = k
              · rw [h]; exact he
              · exact hall.out j (by omega)
            clear he
            go_wp2_with fail
            clear hw
            go_region_held3 (fun w' => w'.cell? ⟨w.heap.size, 0, none⟩ = some (.int .i64 3) ∧ w'.cell? ⟨w.heap.size, 1, none⟩ = some (.slice A n c))
              (first | exact ⟨X.out.two.1, X.out.two.2.1⟩ | exact ⟨X3.out.two.1, X3.out.two.2.1⟩ | exact ⟨X4.out.two.1, X4.out.two.2.1⟩ | go_keep)
              (first
              | (go_at_call 30; refine (l10State_calls k n _ h8 (by omega)).mono ?_; rintro e w3 ⟨A3, c3, rfl, hO3, hb3⟩; have X3 := Lib.hid (Box.below X.out (undrew hb3) (Box.lt X.out)))
              | (go_at_call 37; refine (l01Same_calls A3 A n c3 c (atL k n) L _ (atL_len _ _) HL.out h8 ?_ ?_).mono ?_; (exact hO3.ints); (exact HIr.out.below (undrew hb3)); rintro e w4 ⟨rfl, hb4⟩; have X4 := Lib.hid (Box.below X3.out hb4 (Box.lt X3.out))))
            all_goals
              rw [HSA.out]
              have q3 := Below.size (undrew hb3)
              have HB4 := Lib.hid ((HB.out.trans ((undrew hb3).mono hsz)).trans (hb4.mono (Nat.le_trans hsz q3)))
              clear hb3 hb4 q3
              go_wp2
              go_roundw
              case rel => exact ⟨k + 1, by omega, by go_num, HN, X4.out, by first | exact HB4.out | exact HB4.out.drew⟩
              case measure => simp [intOf]; omega
        · obtain rfl : k = N := by omega
          have H := Lib.hid (to_none HZ.out (tm_no HL.out h8 (by rw [← hN.out]; exact hall.out)))
          go_wp2
          go_ret2
          exact ⟨ret_two H.out.1 H.out.2, HB.out⟩
    · have hz : code1 p L = 2 := by unfold code1; rw [if_pos hs, if_neg hp]
      have hd : (p != 3) = true := by simpa using hp
      have H := Lib.hid (to_bad (p := p) (L := L) (by omega))
      rw [hz] at H
      have HS := Lib.hid hs
      clear hs hz hp
      go_enter Tryd.func11, Tryd.ntmps11
      go_wp2_with fail
      refine (l01Is_calls A n c p L _ HL.out hn HI0.out).mono ?_
      rintro e w1 ⟨rfl, hb1⟩
      have X1 := Lib.hid (X0.out.below hb1 X0.out.lt)
      have HB1 := Lib.hid (HB0.out.trans (hb1.mono HB0.out.size))
      rw [HS.out]
      clear hb1
      obtain ⟨x0, x1, _, _⟩ := X1.out.two
      go_wp2
      go_ret2
      exact ⟨ret_two H.out.1 H.out.2, HB1.out⟩
  · have hs' : stateB p L = false := by simpa using hs
    have hz : code1 p L = 1 := by unfold code1; rw [if_neg hs]
    have H := Lib.hid (to_bad (p := p) (L := L) (by omega))
    rw [hz] at H
    have HS := Lib.hid hs'
    clear hs hz hs'
    go_enter Tryd.func11, Tryd.ntmps11
    go_wp2_with fail
    refine (l01Is_calls A n c p L _ HL.out hn HI0.out).mono ?_
    rintro e w1 ⟨rfl, hb1⟩
    have HB1 := Lib.hid (HB0.out.trans (hb1.mono HB0.out.size))
    rw [HS.out]
    clear hb1
    go_wp2
    go_ret2
    exact ⟨ret_two H.out.1 H.out.2, HB1.out⟩

theorem atL_bd (t n i : Nat) : 0 ≤ padI (atL t n) i ∧ padI (atL t n) i ≤ 4 := by
  unfold padI
  by_cases h : i < n
  · rw [atL_at t n h]
    have := pgN_lt i (mvN t i)
    omega
  · rw [List.getElem?_eq_none (by rw [atL_len]; omega)]
    exact ⟨by decide, by decide⟩
theorem pads_ne {L M : List Int} {n : Nat} (hL : L.length = n) (hM : M.length = n) (hn : n ≤ 8) (h : L ≠ M) : ∃ k, k < 8 ∧ padI L k ≠ padI M k := by
  apply Classical.byContradiction
  intro hc
  apply h
  refine List.ext_getElem (by omega) fun i h1 h2 => ?_
  have hi : padI L i = padI M i := Classical.byContradiction fun hne => hc ⟨i, by omega, hne⟩
  unfold padI at hi
  rw [List.getElem?_eq_getElem h1, List.getElem?_eq_getElem h2] at hi
  exact hi

set_option maxHeartbeats 2000000 in
theorem implTimeOf_calls (A : Option Addr) (n c : Nat) (p : Int) (L : List Int) (w : World) (hL : L.length = n) (hn : n ≤ 1048576) (hI : Ints w A L) :
    Calls Tryd.prog 10 #[.agg #[.int .i64 p, .slice A n c]] w fun e w' => e = .returned (.tuple #[.int .i64 (toV p L), .int .i64 (toC p L)]) ∧ Below w.heap.size w w' := by
  have HL := Lib.hid hL
  have X0 := Lib.hid ((Box.new w 28 #[.int .i64 p, .slice A n c]).alloc (.cells #[.int .i64 p, .slice A n c] 28))
  have hX : Box ((w.alloc (.cells #[.int .i64 p, .slice A n c] 28)).alloc (.cells #[.int .i64 p, .slice A n c] 28)) (w.heap.size + 1) 28 #[.int .i64 p, .slice A n c] := by
    have := Box.new (w.alloc (.cells #[.int .i64 p, .slice A n c] 28)) 28 #[.int .i64 p, .slice A n c]
    rwa [World.size_alloc] at this
  have Y0 := Lib.hid hX
  have HB0 := Lib.hid (((Below.refl _ w).alloc (Nat.le_refl _) (.cells #[.int .i64 p, .slice A n c] 28)).alloc (by simp) (.cells #[.int .i64 p, .slice A n c] 28))
  have HI0 := Lib.hid (hI.below HB0.out)
  have HIw := Lib.hid hI
  clear hL hI hX
  by_cases hz : code1 p L = 0
  · obtain ⟨hs, hp⟩ := code1_zero hz
    have hz' : (code1 p L != 0) = false := by simpa using hz
    subst hp
    have h8 := (state_facts hs HL.out).2.2.1
    have HP := Lib.hid (state_pegsOk hs)
    have HS := Lib.hid hs
    have HZ := Lib.hid hz
    have hd := distP_lt HL.out h8
    obtain ⟨D, hD⟩ := Int.eq_ofNat_of_zero_le hd.1
    have hDb : D ≤ 256 := by
      have := (pow2n8' h8).2
      omega
    have HTM : Hid (tmB L = decide (atL D n = L)) := by unfold Hid tmB; rw [hD, Int.toNat_natCast, HL.out]
    have HD := Lib.hid hD
    clear hz hs hd hD
    go_enter Tryd.func10, Tryd.ntmps10
    go_wp2_with fail
    refine (codeOfStates_one (w.heap.size + 1) A n c 3 L _ Y0.out HL.out hn HI0.out).mono ?_
    rintro e w1 ⟨rfl, hb1⟩
    have X1 := Lib.hid (X0.out.below hb1 X0.out.lt)
    have HB1 := Lib.hid (HB0.out.trans (hb1.mono HB0.out.size))
    have HI1 := Lib.hid (HI0.out.below hb1)
    clear hb1
    obtain ⟨x0, x1, _, _⟩ := X1.out.two
    go_wp2_with fail
    refine (distanceToPeg_calls A n c L 0 _ HL.out h8 HI1.out HP.out (by omega)).mono ?_
    rintro e w2 ⟨rfl, hb2⟩
    rw [HD.out]
    have X := Lib.hid (X1.out.below hb2 X1.out.lt)
    have HB := Lib.hid (HB1.out.trans (hb2.mono HB1.out.size))
    have HI2 := Lib.hid (HI1.out.below hb2)
    have hsz := HB.out.size
    clear hb2 x0 x1
    obtain ⟨x0, x1, _, _⟩ := X.out.two
    have hfw : ∀ i, i < 8 → (Lit.int .i64 (padI L i)).wf = true := fun i _ => wfOf (by have := padI_bd HS.out i; omega)
    have hgw : ∀ i, i < 8 → (Lit.int .i64 (padI (atL D n) i)).wf = true := fun i _ => wfOf (by have := atL_bd D n i; omega)
    by_cases he : atL D n = L
    · have HH := Lib.hid (to_yes HZ.out (by rw [HTM.out]; exact decide_eq_true he))
      rw [HD.out] at HH
      have hEq := eq8_yes (padI (atL D n)) (padI L) hgw hfw (fun i _ => congrArg (fun x => padI x i) he)
      clear he hfw hgw
      go_wp2_with fail
      go_region_held3 (fun w' => w'.cell? ⟨w.heap.size, 0, none⟩ = some (.int .i64 3) ∧ w'.cell? ⟨w.heap.size, 1, none⟩ = some (.slice A n c))
        (first | exact ⟨X.out.two.1, X.out.two.2.1⟩ | exact ⟨X3.out.two.1, X3.out.two.2.1⟩ | exact ⟨X4.out.two.1, X4.out.two.2.1⟩ | exact ⟨X5.out.two.1, X5.out.two.2.1⟩ | go_keep)
        (first
        | (go_at_call 28; refine (stateAt_calls D n _ h8 (by omega)).mono ?_; rintro e w3 ⟨A3, c3, rfl, hO3, hb3⟩; have X3 := Lib.hid (Box.below X.out (undrew hb3) (Box.lt X.out)))
        | (go_at_call 35; (with_reducible refine (pegsOf_calls A3 n c3 3 (atL D n) _ (atL_len _ _) h8 ?_).mono ?_); (exact hO3.ints); rintro e w4 ⟨rfl, hb4⟩; have X4 := Lib.hid (Box.below X3.out hb4 (Box.lt X3.out)))
        | (go_at_call 35; (with_reducible refine (pegsOf_calls A n c 3 L _ HL.out h8 ?_).mono ?_); (exact (HI2.out.below (undrew hb3)).below hb4); rintro e w5 ⟨rfl, hb5⟩; have X5 := Lib.hid (Box.below X4.out hb5 (Box.lt X4.out))))
      all_goals
        have q3 := Below.size (undrew hb3)
        have q4 := Below.size hb4
        have HB5 := Lib.hid (((HB.out.trans ((undrew hb3).mono hsz)).trans (hb4.mono (Nat.le_trans hsz q3))).trans (hb5.mono (Nat.le_trans (Nat.le_trans hsz q3) q4)))
        clear hb3 hb4 hb5 q3 q4
        go_wp2
        go_ret2
        exact ⟨ret_two HH.out.1 HH.out.2, by first | exact HB5.out | exact HB5.out.drew⟩
    · have HH := Lib.hid (to_none HZ.out (by rw [HTM.out]; exact decide_eq_false he))
      obtain ⟨kk, hk8, hkn⟩ := pads_ne (atL_len _ _) HL.out h8 he
      have hEq := eq8_no (padI (atL D n)) (padI L) hgw hfw hk8 hkn
      clear he hfw hgw hk8 hkn
      go_wp2_with fail
      go_region_held3 (fun w' => w'.cell? ⟨w.heap.size, 0, none⟩ = some (.int .i64 3) ∧ w'.cell? ⟨w.heap.size, 1, none⟩ = some (.slice A n c))
        (first | exact ⟨X.out.two.1, X.out.two.2.1⟩ | exact ⟨X3.out.two.1, X3.out.two.2.1⟩ | exact ⟨X4.out.two.1, X4.out.two.2.1⟩ | exact ⟨X5.out.two.1, X5.out.two.2.1⟩ | go_keep)
        (first
        | (go_at_call 28; refine (stateAt_calls D n _ h8 (by omega)).mono ?_; rintro e w3 ⟨A3, c3, rfl, hO3, hb3⟩; have X3 := Lib.hid (Box.below X.out (undrew hb3) (Box.lt X.out)))
        | (go_at_call 35; (with_reducible refine (pegsOf_calls A3 n c3 3 (atL D n) _ (atL_len _ _) h8 ?_).mono ?_); (exact hO3.ints); rintro e w4 ⟨rfl, hb4⟩; have X4 := Lib.hid (Box.below X3.out hb4 (Box.lt X3.out)))
        | (go_at_call 35; (with_reducible refine (pegsOf_calls A n c 3 L _ HL.out h8 ?_).mono ?_); (exact (HI2.out.below (undrew hb3)).below hb4); rintro e w5 ⟨rfl, hb5⟩; have X5 := Lib.hid (Box.below X4.out hb5 (Box.lt X4.out))))
      all_goals
        have q3 := Below.size (undrew hb3)
        have q4 := Below.size hb4
        have HB5 := Lib.hid (((HB.out.trans ((undrew hb3).mono hsz)).trans (hb4.mono (Nat.le_trans hsz q3))).trans (hb5.mono (Nat.le_trans (Nat.le_trans hsz q3) q4)))
        clear hb3 hb4 hb5 q3 q4
        go_wp2
        go_ret2
        exact ⟨ret_two HH.out.1 HH.out.2, by first | exact HB5.out | exact HB5.out.drew⟩
  · have hz' : (code1 p L != 0) = true := by simpa using hz
    have H := Lib.hid (to_bad hz)
    go_enter Tryd.func10, Tryd.ntmps10
    go_wp2_with fail
    refine (codeOfStates_one (w.heap.size + 1) A n c p L _ Y0.out HL.out hn HI0.out).mono ?_
    rintro e w1 ⟨rfl, hb1⟩
    have HB1 := Lib.hid (HB0.out.trans (hb1.mono HB0.out.size))
    clear hb1
    go_wp2
    go_ret2
    exact ⟨ret_two H.out.1 H.out.2, HB1.out⟩

end Go.Proofs.YtcicjnpnhaddcaaDoor
