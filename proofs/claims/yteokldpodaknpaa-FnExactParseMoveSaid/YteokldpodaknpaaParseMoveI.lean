/- Contracts: ParseMove, by the program. -/
import Derived.Test.YteokldpodaknpaaParseMove
import Derived.Deep.RegionHeld3
import Derived.Deep.DeepCutAuto
namespace Go.Proofs.Yteokldpodaknpaa
open Go.RowKit
set_option linter.unusedVariables false

theorem ops_getP {α : Type} (l : List α) (i : Nat) (o : α) (h : l[i]? = some o) : l.toArray[i]? = some o := by rw [List.getElem?_toArray]; exact h

set_option maxRecDepth 100000 in
set_option maxHeartbeats 8000000 in
theorem implParseMove_ret (s : ByteArray) (w : World) (hs : s.size ≤ 1048576) :
    Calls Try.prog 15 #[.string s] w (RetMv w (pmV s 0) (pmV s 2) (pmV s 4) (pmE s)) := by
  have X0 := Lib.hid (Box.new w 37 #[.int .i64 0, .int .i64 0, .int .i64 0])
  have HB0 := Lib.hid ((Below.refl w.heap.size w).alloc (Nat.le_refl _) (.cells #[.int .i64 0, .int .i64 0, .int .i64 0] 37))
  have hno : ¬ mvT s → Hid (∀ i, pmV s i = 0) ∧ Hid (pmE s = 6) := fun h => ⟨fun i => by unfold pmV; rw [mvB_no h]; rfl, by unfold Hid pmE; rw [mvB_no h]; rfl⟩
  by_cases h5 : s.size = 5
  · have h5' : ((s.size : Int) != 5) = false := by rw [h5]; rfl
    have n0 : 0 < s.size := by omega
    have n1 : 1 < s.size := by omega
    have n2 : 2 < s.size := by omega
    have n3 : 3 < s.size := by omega
    have n4 : 4 < s.size := by omega
    obtain ⟨b1, hb1⟩ : ∃ b : Nat, (s[1]'n1).toNat = b := ⟨_, rfl⟩
    obtain ⟨b3, hb3⟩ : ∃ b : Nat, (s[3]'n3).toNat = b := ⟨_, rfl⟩
    have t1 : btN s 1 = b1 := by rw [btN_at s n1, hb1]
    have t3 : btN s 3 = b3 := by rw [btN_at s n3, hb3]
    have l1 : (1 : Int) < (s.size : Int) := by omega
    have l3 : (3 : Int) < (s.size : Int) := by omega
    by_cases h1 : b1 = 58
    · have h1' : ((b1 : Int) != 58) = false := by rw [h1]; rfl
      by_cases h3 : b3 = 62
      · have h3' : ((b3 : Int) != 62) = false := by rw [h3]; rfl
        obtain ⟨b0, hb0⟩ : ∃ b : Nat, (s[0]'n0).toNat = b := ⟨_, rfl⟩
        obtain ⟨b2, hb2⟩ : ∃ b : Nat, (s[2]'n2).toNat = b := ⟨_, rfl⟩
        obtain ⟨b4, hb4⟩ : ∃ b : Nat, (s[4]'n4).toNat = b := ⟨_, rfl⟩
        have l0 : (0 : Int) < (s.size : Int) := by omega
        have l2 : (2 : Int) < (s.size : Int) := by omega
        have l4 : (4 : Int) < (s.size : Int) := by omega
        have D0 : dgt s 0 = (b0 : Int) - 48 := by rw [btN_dgt, btN_at s n0, hb0]
        have D2 : dgt s 2 = (b2 : Int) - 48 := by rw [btN_dgt, btN_at s n2, hb2]
        have D4 : dgt s 4 = (b4 : Int) - 48 := by rw [btN_dgt, btN_at s n4, hb4]
        have u0 : b0 < 256 := by rw [← hb0]; exact UInt8.toNat_lt _
        have u2 : b2 < 256 := by rw [← hb2]; exact UInt8.toNat_lt _
        have u4 : b4 < 256 := by rw [← hb4]; exact UInt8.toNat_lt _
        have HB : Hid (mvB s = (inB ((b0 : Int) - 48) 0 7 && (inB ((b2 : Int) - 48) 0 4 && inB ((b4 : Int) - 48) 0 4))) := by
          unfold Hid mvB inB
          rw [D0, D2, D4, t1, t3, h1, h3]
          rw [← Bool.decide_and, ← Bool.decide_and, decide_eq_decide]
          exact ⟨fun h => ⟨h.2.2.2.1, h.2.2.2.2.1, h.2.2.2.2.2⟩, fun h => ⟨h5, rfl, rfl, h.1, h.2.1, h.2.2⟩⟩
        have HD : Hid (mvB s = true → pmV s 0 = (b0 : Int) - 48 ∧ pmV s 2 = (b2 : Int) - 48 ∧ pmV s 4 = (b4 : Int) - 48 ∧ pmE s = 0) := fun hm => by
          unfold pmV pmE
          rw [if_pos hm, if_pos hm, if_pos hm, if_pos hm, D0, D2, D4]
          exact ⟨rfl, rfl, rfl, rfl⟩
        have HN := Lib.hid hno
        clear D0 D2 D4 t1 t3 h1 h3 hno h5 hs
        go_enter Try.func15, Try.ntmps15
        go_upto_region 3 with (fail)
        generalize w.alloc (.cells #[.int .i64 0, .int .i64 0, .int .i64 0] 37) = w1 at *
        go_cut [4] (fun t4 wc => MvMade w1 ((b0 : Int) - 48) ((b2 : Int) - 48) ((b4 : Int) - 48) t4 wc)
        case first =>
          obtain ⟨x0, x1, x2⟩ := X0.out.three
          refine wp_region_noPanic ?_
          refine wp_region_held_drew (S := (fun _ => True)) (by kernel_rfl) trivial (fun hHeld => ?_)
          refine wpAnyH_take (i := 0) (v := ?_) (ops_getP _ _ _ rfl) (by kernel_rfl) (by kernel_rfl) (by kernel_rfl) (fun _ _ _ h => h) (Or.inl ⟨by rfl, ?_⟩) (by assumption) ?_
          rotate_left
          · intro w5 hSw
            (try dsimp only at hSw)
            go_simp
            all_goals (with_reducible rfl)
          try simp only [Act.put, List.setIfInBounds_toArray, List.set_cons_zero, List.set_cons_succ]
          refine wpAnyH_take (i := 1) (v := ?_) (ops_getP _ _ _ rfl) (by kernel_rfl) (by kernel_rfl) (by kernel_rfl) (fun _ _ _ h => h) (Or.inl ⟨by rfl, ?_⟩) (by assumption) ?_
          rotate_left
          · intro w5 hSw
            (try dsimp only at hSw)
            go_simp
            all_goals (with_reducible rfl)
          try simp only [Act.put, List.setIfInBounds_toArray, List.set_cons_zero, List.set_cons_succ]
          refine wpAnyH_take (i := 3) (v := ?_) (ops_getP _ _ _ rfl) (by kernel_rfl) (by kernel_rfl) (by kernel_rfl) (fun _ _ _ h => h) (Or.inl ⟨by rfl, ?_⟩) (by assumption) ?_
          rotate_left
          · intro w5 hSw
            (try dsimp only at hSw)
            go_simp
            all_goals (with_reducible rfl)
          try simp only [Act.put, List.setIfInBounds_toArray, List.set_cons_zero, List.set_cons_succ]
          refine wpAnyH_take (i := 4) (v := ?_) (ops_getP _ _ _ rfl) (by kernel_rfl) (by kernel_rfl) (by kernel_rfl) (fun _ _ _ h => h) (Or.inl ⟨by rfl, ?_⟩) (by assumption) ?_
          rotate_left
          · intro w5 hSw
            (try dsimp only at hSw)
            go_simp
            all_goals (with_reducible rfl)
          try simp only [Act.put, List.setIfInBounds_toArray, List.set_cons_zero, List.set_cons_succ]
          refine wpAnyH_take (i := 6) (v := ?_) (ops_getP _ _ _ rfl) (by kernel_rfl) (by kernel_rfl) (by kernel_rfl) (fun _ _ _ h => h) (Or.inl ⟨by rfl, ?_⟩) (by assumption) ?_
          rotate_left
          · intro w5 hSw
            (try dsimp only at hSw)
            go_simp
            all_goals (with_reducible rfl)
          try simp only [Act.put, List.setIfInBounds_toArray, List.set_cons_zero, List.set_cons_succ]
          refine wpAnyH_take (i := 7) (v := ?_) (ops_getP _ _ _ rfl) (by kernel_rfl) (by kernel_rfl) (by kernel_rfl) (fun _ _ _ h => h) (Or.inl ⟨by rfl, ?_⟩) (by assumption) ?_
          rotate_left
          · intro w5 hSw
            (try dsimp only at hSw)
            go_simp
            all_goals (with_reducible rfl)
          try simp only [Act.put, List.setIfInBounds_toArray, List.set_cons_zero, List.set_cons_succ]
          refine wpAnyH_ready (rs := [2, 10]) (by kernel_rfl) (by simp) ?_
          refine AllReadyH.cons (ops_getP _ _ _ rfl) (fun K hK => ?_) (AllReadyH.cons (ops_getP _ _ _ rfl) (fun K hK => ?_) AllReadyH.nil)
          · go_simp
            refine (digitValue_calls (b0 : Int) _ (by omega) (by omega)).mono ?_
            rintro e w3 ⟨rfl, rfl⟩
            try go_simp
            refine hK.out _ _ ?_ (fun hHeld => ?_)
            · (try dsimp only)
              all_goals (first | trivial | simp)
            clear hK K
            refine wpAnyH_ready (rs := [5, 10]) (by kernel_rfl) (by simp) ?_
            refine AllReadyH.cons (ops_getP _ _ _ rfl) (fun K hK => ?_) (AllReadyH.cons (ops_getP _ _ _ rfl) (fun K hK => ?_) AllReadyH.nil)
            · go_simp
              refine (digitValue_calls (b2 : Int) _ (by omega) (by omega)).mono ?_
              rintro e w3 ⟨rfl, rfl⟩
              try go_simp
              refine hK.out _ _ ?_ (fun hHeld => ?_)
              · (try dsimp only)
                all_goals (first | trivial | simp)
              clear hK K
              refine wpAnyH_ready (rs := [8, 10]) (by kernel_rfl) (by simp) ?_
              refine AllReadyH.cons (ops_getP _ _ _ rfl) (fun K hK => ?_) (AllReadyH.cons (ops_getP _ _ _ rfl) (fun K hK => ?_) AllReadyH.nil)
              · go_simp
                refine (digitValue_calls (b4 : Int) _ (by omega) (by omega)).mono ?_
                rintro e w3 ⟨rfl, rfl⟩
                try go_simp
                refine hK.out _ _ ?_ (fun hHeld => ?_)
                · (try dsimp only)
                  all_goals (first | trivial | simp)
                clear hK K
                refine wpAnyH_take (i := 9) (v := ?_) (ops_getP _ _ _ rfl) (by kernel_rfl) (by kernel_rfl) (by kernel_rfl) (fun _ _ _ h => h) (Or.inl ⟨by rfl, ?_⟩) (by assumption) ?_
                rotate_left
                · intro w5 hSw
                  (try dsimp only at hSw)
                  go_simp
                  all_goals (with_reducible rfl)
                try simp only [Act.put, List.setIfInBounds_toArray, List.set_cons_zero, List.set_cons_succ]
                refine wpAnyH_ready (rs := [10]) (by kernel_rfl) (by simp) ?_
                refine AllReadyH.cons (ops_getP _ _ _ rfl) (fun K hK => ?_) AllReadyH.nil
                go_simp
                refine hK.out _ _ ?_ (fun hHeld => ?_)
                · (try dsimp only)
                  all_goals (first | trivial | simp)
                clear hK K
                refine wpAnyH_ready (rs := [11]) (by kernel_rfl) (by simp) ?_
                refine AllReadyH.cons (ops_getP _ _ _ rfl) (fun K hK => ?_) AllReadyH.nil
                go_simp
                refine hK.out _ _ ?_ (fun hHeld => ?_)
                · (try dsimp only)
                  all_goals (first | trivial | simp)
                clear hK K
                refine wpAnyH_done (by kernel_rfl) ?_ _
                refine NoPanic.normal ?_
                go_wp2_with fail
                go_meet
                case rel =>
                  exact ⟨_, rfl, Nat.le_refl _, Box.new w1 _ _, ((Below.refl _ _).alloc (Nat.le_refl _) _).drew⟩
              · go_simp
                refine hK.out _ _ ?_ (fun hHeld => ?_)
                · (try dsimp only)
                  all_goals (first | trivial | simp)
                clear hK K
                refine wpAnyH_ready (rs := [8]) (by kernel_rfl) (by simp) ?_
                refine AllReadyH.cons (ops_getP _ _ _ rfl) (fun K hK => ?_) AllReadyH.nil
                go_simp
                refine (digitValue_calls (b4 : Int) _ (by omega) (by omega)).mono ?_
                rintro e w3 ⟨rfl, rfl⟩
                try go_simp
                refine hK.out _ _ ?_ (fun hHeld => ?_)
                · (try dsimp only)
                  all_goals (first | trivial | simp)
                clear hK K
                refine wpAnyH_take (i := 9) (v := ?_) (ops_getP _ _ _ rfl) (by kernel_rfl) (by kernel_rfl) (by kernel_rfl) (fun _ _ _ h => h) (Or.inl ⟨by rfl, ?_⟩) (by assumption) ?_
                rotate_left
                · intro w5 hSw
                  (try dsimp only at hSw)
                  go_simp
                  all_goals (with_reducible rfl)
                try simp only [Act.put, List.setIfInBounds_toArray, List.set_cons_zero, List.set_cons_succ]
                refine wpAnyH_ready (rs := [11]) (by kernel_rfl) (by simp) ?_
                refine AllReadyH.cons (ops_getP _ _ _ rfl) (fun K hK => ?_) AllReadyH.nil
                go_simp
                refine hK.out _ _ ?_ (fun hHeld => ?_)
                · (try dsimp only)
                  all_goals (first | trivial | simp)
                clear hK K
                refine wpAnyH_done (by kernel_rfl) ?_ _
                refine NoPanic.normal ?_
                go_wp2_with fail
                go_meet
                case rel =>
                  exact ⟨_, rfl, Nat.le_refl _, Box.new w1 _ _, ((Below.refl _ _).alloc (Nat.le_refl _) _).drew⟩
            · go_simp
              refine hK.out _ _ ?_ (fun hHeld => ?_)
              · (try dsimp only)
                all_goals (first | trivial | simp)
              clear hK K
              refine wpAnyH_ready (rs := [5]) (by kernel_rfl) (by simp) ?_
              refine AllReadyH.cons (ops_getP _ _ _ rfl) (fun K hK => ?_) AllReadyH.nil
              go_simp
              refine (digitValue_calls (b2 : Int) _ (by omega) (by omega)).mono ?_
              rintro e w3 ⟨rfl, rfl⟩
              try go_simp
              refine hK.out _ _ ?_ (fun hHeld => ?_)
              · (try dsimp only)
                all_goals (first | trivial | simp)
              clear hK K
              refine wpAnyH_ready (rs := [8]) (by kernel_rfl) (by simp) ?_
              refine AllReadyH.cons (ops_getP _ _ _ rfl) (fun K hK => ?_) AllReadyH.nil
              go_simp
              refine (digitValue_calls (b4 : Int) _ (by omega) (by omega)).mono ?_
              rintro e w3 ⟨rfl, rfl⟩
              try go_simp
              refine hK.out _ _ ?_ (fun hHeld => ?_)
              · (try dsimp only)
                all_goals (first | trivial | simp)
              clear hK K
              refine wpAnyH_take (i := 9) (v := ?_) (ops_getP _ _ _ rfl) (by kernel_rfl) (by kernel_rfl) (by kernel_rfl) (fun _ _ _ h => h) (Or.inl ⟨by rfl, ?_⟩) (by assumption) ?_
              rotate_left
              · intro w5 hSw
                (try dsimp only at hSw)
                go_simp
                all_goals (with_reducible rfl)
              try simp only [Act.put, List.setIfInBounds_toArray, List.set_cons_zero, List.set_cons_succ]
              refine wpAnyH_ready (rs := [11]) (by kernel_rfl) (by simp) ?_
              refine AllReadyH.cons (ops_getP _ _ _ rfl) (fun K hK => ?_) AllReadyH.nil
              go_simp
              refine hK.out _ _ ?_ (fun hHeld => ?_)
              · (try dsimp only)
                all_goals (first | trivial | simp)
              clear hK K
              refine wpAnyH_done (by kernel_rfl) ?_ _
              refine NoPanic.normal ?_
              go_wp2_with fail
              go_meet
              case rel =>
                exact ⟨_, rfl, Nat.le_refl _, Box.new w1 _ _, ((Below.refl _ _).alloc (Nat.le_refl _) _).drew⟩
          · go_simp
            refine hK.out _ _ ?_ (fun hHeld => ?_)
            · (try dsimp only)
              all_goals (first | trivial | simp)
            clear hK K
            refine wpAnyH_ready (rs := [2]) (by kernel_rfl) (by simp) ?_
            refine AllReadyH.cons (ops_getP _ _ _ rfl) (fun K hK => ?_) AllReadyH.nil
            go_simp
            refine (digitValue_calls (b0 : Int) _ (by omega) (by omega)).mono ?_
            rintro e w3 ⟨rfl, rfl⟩
            try go_simp
            refine hK.out _ _ ?_ (fun hHeld => ?_)
            · (try dsimp only)
              all_goals (first | trivial | simp)
            clear hK K
            refine wpAnyH_ready (rs := [5]) (by kernel_rfl) (by simp) ?_
            refine AllReadyH.cons (ops_getP _ _ _ rfl) (fun K hK => ?_) AllReadyH.nil
            go_simp
            refine (digitValue_calls (b2 : Int) _ (by omega) (by omega)).mono ?_
            rintro e w3 ⟨rfl, rfl⟩
            try go_simp
            refine hK.out _ _ ?_ (fun hHeld => ?_)
            · (try dsimp only)
              all_goals (first | trivial | simp)
            clear hK K
            refine wpAnyH_ready (rs := [8]) (by kernel_rfl) (by simp) ?_
            refine AllReadyH.cons (ops_getP _ _ _ rfl) (fun K hK => ?_) AllReadyH.nil
            go_simp
            refine (digitValue_calls (b4 : Int) _ (by omega) (by omega)).mono ?_
            rintro e w3 ⟨rfl, rfl⟩
            try go_simp
            refine hK.out _ _ ?_ (fun hHeld => ?_)
            · (try dsimp only)
              all_goals (first | trivial | simp)
            clear hK K
            refine wpAnyH_take (i := 9) (v := ?_) (ops_getP _ _ _ rfl) (by kernel_rfl) (by kernel_rfl) (by kernel_rfl) (fun _ _ _ h => h) (Or.inl ⟨by rfl, ?_⟩) (by assumption) ?_
            rotate_left
            · intro w5 hSw
              (try dsimp only at hSw)
              go_simp
              all_goals (with_reducible rfl)
            try simp only [Act.put, List.setIfInBounds_toArray, List.set_cons_zero, List.set_cons_succ]
            refine wpAnyH_ready (rs := [11]) (by kernel_rfl) (by simp) ?_
            refine AllReadyH.cons (ops_getP _ _ _ rfl) (fun K hK => ?_) AllReadyH.nil
            go_simp
            refine hK.out _ _ ?_ (fun hHeld => ?_)
            · (try dsimp only)
              all_goals (first | trivial | simp)
            clear hK K
            refine wpAnyH_done (by kernel_rfl) ?_ _
            refine NoPanic.normal ?_
            go_wp2_with fail
            go_meet
            case rel =>
              exact ⟨_, rfl, Nat.le_refl _, Box.new w1 _ _, ((Below.refl _ _).alloc (Nat.le_refl _) _).drew⟩
        case rest =>
          obtain ⟨g6, rfl, hg6, hbx6, hbl6⟩ := hcut
          have Y3 := Lib.hid hbx6
          have X3 := Lib.hid (X0.out.below hbl6 X0.out.lt)
          have HB3 := Lib.hid (HB0.out.trans (hbl6.mono HB0.out.size))
          clear hbx6 hbl6
          obtain ⟨y0, y1, y2⟩ := Y3.out.three
          go_wp2_with fail
          refine (hasText_calls _ _ _ _).mono ?_
          rintro e w4 ⟨rfl, hb4⟩
          have Y4 := Lib.hid (Y3.out.below hb4 Y3.out.lt)
          have X4 := Lib.hid (X3.out.below hb4 X3.out.lt)
          have HB4 := Lib.hid (HB3.out.trans (hb4.mono HB3.out.size))
          rw [← HB.out]
          clear hb4 y0 y1 y2
          obtain ⟨x0, x1, x2⟩ := X4.out.three
          have f0 := X4.out.frozen 0
          have f1 := X4.out.frozen 1
          have f2 := X4.out.frozen 2
          by_cases hm : mvB s = true
          · obtain ⟨v0, v1, v2, v3⟩ := HD.out hm
            have V0 := Lib.hid v0
            have V1 := Lib.hid v1
            have V2 := Lib.hid v2
            have V3 := Lib.hid v3
            clear v0 v1 v2 v3
            obtain ⟨y0, y1, y2⟩ := Y4.out.three
            go_wp2
            have hb9 : Hid (Box (((w4.setCell ⟨w.heap.size, 0, none⟩ (.int .i64 ((b0 : Int) - 48))).setCell ⟨w.heap.size, 1, none⟩ (.int .i64 ((b2 : Int) - 48))).setCell ⟨w.heap.size, 2, none⟩ (.int .i64 ((b4 : Int) - 48))) w.heap.size 37 #[.int .i64 ((b0 : Int) - 48), .int .i64 ((b2 : Int) - 48), .int .i64 ((b4 : Int) - 48)]) := ((X4.out.set 0 _).set 1 _).set 2 _
            obtain ⟨z0, z1, z2⟩ := hb9.out.three
            refine bodyPost_ret (v := .tuple #[.agg #[.int .i64 ((b0 : Int) - 48), .int .i64 ((b2 : Int) - 48), .int .i64 ((b4 : Int) - 48)], .int .i64 0]) (by simp [results, Try.results15, go_sem, z0, z1, z2]) rfl ⟨by rw [V0.out, V1.out, V2.out, V3.out], ?_⟩
            exact ((HB4.out.setCell (Nat.le_refl _) _).setCell (Nat.le_refl _) _).setCell (Nat.le_refl _) _
          · obtain ⟨hz, HE⟩ := HN.out (fun h => hm (mvB_yes h))
            have hm' : mvB s = false := Bool.eq_false_iff.2 hm
            clear hm
            go_wp2
            have hb9 : Hid (Box (((w4.setCell ⟨w.heap.size, 0, none⟩ (.int .i64 0)).setCell ⟨w.heap.size, 1, none⟩ (.int .i64 0)).setCell ⟨w.heap.size, 2, none⟩ (.int .i64 0)) w.heap.size 37 #[.int .i64 0, .int .i64 0, .int .i64 0]) := ((X4.out.set 0 _).set 1 _).set 2 _
            obtain ⟨z0, z1, z2⟩ := hb9.out.three
            refine bodyPost_ret (v := .tuple #[.agg #[.int .i64 0, .int .i64 0, .int .i64 0], .int .i64 6]) (by first | (simp [results, Try.results15, go_sem]; done) | simp [results, Try.results15, go_sem, z0, z1, z2]) rfl ⟨by rw [hz.out, hz.out, hz.out, HE.out], ?_⟩
            exact ((HB4.out.setCell (Nat.le_refl _) _).setCell (Nat.le_refl _) _).setCell (Nat.le_refl _) _
      · have h3' : ((b3 : Int) != 62) = true := by rw [bne_iff_ne]; omega
        obtain ⟨hz, HE⟩ := hno (fun h => h3 (by rw [← t3]; exact h.2.2.1))
        clear t1 t3 hno h1 h3 h5 hs
        obtain ⟨x0, x1, x2⟩ := X0.out.three
        have f0 := X0.out.frozen 0
        have f1 := X0.out.frozen 1
        have f2 := X0.out.frozen 2
        go_enter Try.func15, Try.ntmps15
        go_wp2
        have hb9 : Hid (Box ((((w.alloc (.cells #[.int .i64 0, .int .i64 0, .int .i64 0] 37)).setCell ⟨w.heap.size, 0, none⟩ (.int .i64 0)).setCell ⟨w.heap.size, 1, none⟩ (.int .i64 0)).setCell ⟨w.heap.size, 2, none⟩ (.int .i64 0)) w.heap.size 37 #[.int .i64 0, .int .i64 0, .int .i64 0]) := ((X0.out.set 0 _).set 1 _).set 2 _
        obtain ⟨z0, z1, z2⟩ := hb9.out.three
        refine bodyPost_ret (v := .tuple #[.agg #[.int .i64 0, .int .i64 0, .int .i64 0], .int .i64 6]) (by first | (simp [results, Try.results15, go_sem]; done) | simp [results, Try.results15, go_sem, z0, z1, z2]) rfl ⟨by rw [hz.out, hz.out, hz.out, HE.out], ?_⟩
        first | exact ((HB0.out.setCell (Nat.le_refl _) _).setCell (Nat.le_refl _) _).setCell (Nat.le_refl _) _ | exact HB0.out
    · have h1' : ((b1 : Int) != 58) = true := by rw [bne_iff_ne]; omega
      obtain ⟨hz, HE⟩ := hno (fun h => h1 (by rw [← t1]; exact h.2.1))
      clear t1 t3 hno h1 h5 hs
      obtain ⟨x0, x1, x2⟩ := X0.out.three
      have f0 := X0.out.frozen 0
      have f1 := X0.out.frozen 1
      have f2 := X0.out.frozen 2
      go_enter Try.func15, Try.ntmps15
      go_wp2
      have hb9 : Hid (Box ((((w.alloc (.cells #[.int .i64 0, .int .i64 0, .int .i64 0] 37)).setCell ⟨w.heap.size, 0, none⟩ (.int .i64 0)).setCell ⟨w.heap.size, 1, none⟩ (.int .i64 0)).setCell ⟨w.heap.size, 2, none⟩ (.int .i64 0)) w.heap.size 37 #[.int .i64 0, .int .i64 0, .int .i64 0]) := ((X0.out.set 0 _).set 1 _).set 2 _
      obtain ⟨z0, z1, z2⟩ := hb9.out.three
      refine bodyPost_ret (v := .tuple #[.agg #[.int .i64 0, .int .i64 0, .int .i64 0], .int .i64 6]) (by first | (simp [results, Try.results15, go_sem]; done) | simp [results, Try.results15, go_sem, z0, z1, z2]) rfl ⟨by rw [hz.out, hz.out, hz.out, HE.out], ?_⟩
      first | exact ((HB0.out.setCell (Nat.le_refl _) _).setCell (Nat.le_refl _) _).setCell (Nat.le_refl _) _ | exact HB0.out
  · have h5' : ((s.size : Int) != 5) = true := by rw [bne_iff_ne]; omega
    obtain ⟨hz, HE⟩ := hno (fun h => h5 h.1)
    clear hno h5
    obtain ⟨x0, x1, x2⟩ := X0.out.three
    have f0 := X0.out.frozen 0
    have f1 := X0.out.frozen 1
    have f2 := X0.out.frozen 2
    go_enter Try.func15, Try.ntmps15
    go_wp2
    have hb9 : Hid (Box ((((w.alloc (.cells #[.int .i64 0, .int .i64 0, .int .i64 0] 37)).setCell ⟨w.heap.size, 0, none⟩ (.int .i64 0)).setCell ⟨w.heap.size, 1, none⟩ (.int .i64 0)).setCell ⟨w.heap.size, 2, none⟩ (.int .i64 0)) w.heap.size 37 #[.int .i64 0, .int .i64 0, .int .i64 0]) := ((X0.out.set 0 _).set 1 _).set 2 _
    obtain ⟨z0, z1, z2⟩ := hb9.out.three
    refine bodyPost_ret (v := .tuple #[.agg #[.int .i64 0, .int .i64 0, .int .i64 0], .int .i64 6]) (by first | (simp [results, Try.results15, go_sem]; done) | simp [results, Try.results15, go_sem, z0, z1, z2]) rfl ⟨by rw [hz.out, hz.out, hz.out, HE.out], ?_⟩
    first | exact ((HB0.out.setCell (Nat.le_refl _) _).setCell (Nat.le_refl _) _).setCell (Nat.le_refl _) _ | exact HB0.out

end Go.Proofs.Yteokldpodaknpaa
