/- Contracts: MovesByTurns, by the program. -/
import Derived.Test.YtcicjnpnhaddcaaDoorTnS
import Derived.Test.YtcicjnpnhaddcaaDoorTnO
namespace Go.Proofs.YtcicjnpnhaddcaaDoor
open Go.RowKit
open Go.RowKit (wrap64)
set_option linter.unusedVariables false

theorem nextPeg_of (a : Int) (w : World) (h : 0 ≤ a ∧ a ≤ 2) :
    Calls Tryd.prog 44 #[.int .i64 a] w fun e w' => e = .returned (.int .i64 ((a + 1) % 3)) ∧ w = w' := by
  go_enter Tryd.func44, Tryd.ntmps44
  go_wp2
  go_ret
  exact ⟨ret_int (by first | rfl | (rw [Int.tmod_eq_emod_of_nonneg (by omega)])), rfl⟩

set_option maxRecDepth 100000 in
set_option maxHeartbeats 8000000 in
theorem implMovesByTurns_good (n : Nat) (w : World) (hn : n ≤ 8) :
    Calls Tryd.prog 18 #[.int .i64 n] w (RetMvs w (tnL n (2 ^ n - 1)).length (tnL n (2 ^ n - 1)) 0) := by
  obtain ⟨i0, hi, hz0, hz1, hz2⟩ := info_parts Tryd.infoM
  obtain ⟨N, hN⟩ : ∃ N : Nat, Hid (N = 2 ^ n) := ⟨_, rfl⟩
  have hNb : 1 ≤ N ∧ N ≤ 256 := by rw [hN.out]; exact pow2n8' hn
  have HW : Hid (wrap64 ((2 : Int) ^ n) = (N : Int)) := by unfold Hid; rw [hN.out]; exact wrap_pow41 (by omega)
  rw [tnL_len, ← hN.out]
  go_enter Tryd.func18, Tryd.ntmps18
  go_wp2_with fail
  refine (isUpTo_calls n 8 _).mono ?_
  rintro e w' ⟨rfl, rfl⟩
  rw [inB_yes (a := (n : Int)) (by omega) (by omega)]
  go_wp2_with fail
  refine (perfectState_calls 3 0 n _ hn).mono ?_
  rintro e w1 ⟨A, c, rfl, hO, hb1⟩
  rw [← atL_zero ⟨n, by omega⟩] at hO
  have HO1 := Lib.hid hO
  have HB1 := Lib.hid hb1
  have hs1 := hb1.size
  clear hO hb1
  go_wp2
  go_loopw [4, 6] (fun v i wr => ∃ k : Nat, k + 1 ≤ N ∧ i = .int .i64 ((k : Int) + 1) ∧ (∃ A1 c1, v = .slice A1 k c1 ∧ OwnM w.heap.size wr A1 k c1 (tnL n k)) ∧ (∃ A c, Box wr w1.heap.size 28 #[.int .i64 3, .slice A n c] ∧ Own w.heap.size wr A n c (atL k n)) ∧ Below w.heap.size w wr) (fun _ i _ => N + 1 - (intOf i).toNat)
  case atStart =>
    have e2 := Box.new w1 28 #[.int .i64 3, .slice A n c]
    have hal : Below w1.heap.size w1 (w1.alloc (.cells #[.int .i64 3, .slice A n c] 28)) := (Below.refl _ _).alloc (Nat.le_refl _) _
    exact ⟨0, by omega, rfl, ⟨_, _, rfl, OwnG.nilS _ _ _ _⟩, ⟨A, c, e2, HO1.out.below hal⟩, HB1.out.trans (hal.mono hs1)⟩
  case round =>
    obtain ⟨k, hk, rfl, ⟨A1, c1, rfl, hV⟩, ⟨A, c, hX, hO⟩, hb⟩ := hrel
    have V := Lib.hid hV
    have X := Lib.hid hX
    have O := Lib.hid hO
    have HB := Lib.hid hb
    have hsr := hb.size
    have hxl := hX.lt
    have hcp := OwnG.cap (show OwnG 2 1 w.heap.size wr A n c _ from hO)
    clear hV hX hO hb
    by_cases hlt : k + 1 < N
    · obtain ⟨hs, hfind, hmb1, hmb2, hmb3, hset, hall⟩ := tn_at hn (t := k) (by rw [← hN.out]; exact hlt)
      have hn1 : 0 < n := by
        rcases Nat.eq_zero_or_pos n with h | h
        · have := hN.out
          rw [h] at this
          omega
        · exact h
      have hnx : Hid (tnL n (k + 1) = tnL n k ++ [tnM (atL k n) (k + 1)]) := rfl
      obtain ⟨m, hm⟩ : ∃ m, Hid (m = tnM (atL k n) (k + 1)) := ⟨_, rfl⟩
      rw [← hm.out] at hmb1 hmb2 hmb3 hset hnx
      obtain ⟨md, mf, mt⟩ := m
      obtain ⟨jd, hjd⟩ := Int.eq_ofNat_of_zero_le hmb1.1
      simp only at hmb1 hmb2 hmb3 hset hjd
      subst hjd
      have hjn : jd < n := by omega
      have HSET := Lib.hid (show (atL k n).set jd mt = atL (k + 1) n by simpa using hset)
      have HLl := Lib.hid (atL_len k n)
      have HS := Lib.hid hs
      have ha := state_at hs 0 (by rw [atL_len]; exact hn1)
      obtain ⟨ad, rfl, had, hc0⟩ := (Own.ints O.out) 0 (by rw [HLl.out]; exact hn1)
      rw [List.getD_eq_getElem?_getD] at hc0
      have hc1 : wr.cell? ad = some (.int .i64 ((atL k n)[0]?.getD 0)) := by simpa [Addr.add] using hc0
      clear hset hs hall hfind hc0
      generalize atL k n = L at *
      obtain ⟨a, hae⟩ : ∃ a, Hid (L[0]?.getD 0 = a) := ⟨_, Lib.hid rfl⟩
      rw [hae.out] at hc1 ha
      have h00 : (0 : Int) < (n : Int) := by omega
      obtain ⟨x0, x1, _, _⟩ := X.out.two
      have hltI : (k : Int) + 1 < (N : Int) := by omega
      have hw := HW.out
      go_wp2_with fail
      clear hw
      have SK : Hid (∀ w' : World, Below wr.heap.size wr w' → (w'.cell? ⟨w1.heap.size, 0, none⟩ = some (.int .i64 3) ∧ w'.cell? ⟨w1.heap.size, 1, none⟩ = some (.slice (some ad) n c)) ∧ w'.cell? ad = some (.int .i64 a)) :=
        fun w' h => ⟨⟨(h.cell (p := ⟨w1.heap.size, 0, none⟩) hxl).trans x0, (h.cell (p := ⟨w1.heap.size, 1, none⟩) hxl).trans x1⟩, (h.cell (p := ad) had).trans hc1⟩
      go_region_held3 (fun w' => (w'.cell? ⟨w1.heap.size, 0, none⟩ = some (.int .i64 3) ∧ w'.cell? ⟨w1.heap.size, 1, none⟩ = some (.slice (some ad) n c)) ∧ w'.cell? ad = some (.int .i64 a))
        (first | exact SK.out _ (Below.refl _ _).drew | exact SK.out _ ((Below.refl _ _).drew.alloc (by simp) _) | exact SK.out _ ((((Below.refl _ _).drew.alloc (by simp) _).setCell (by simp) _).setCell (by simp) _) | go_keep)
        ((go_at_call 44; refine (nextPeg_of a _ (by omega)).mono ?_; rintro e w' ⟨rfl, rfl⟩))
      all_goals
        have W8b : Below wr.heap.size wr (wr.alloc (.cells #[.int .i64 0, .int .i64 a, .int .i64 ((a + 1) % 3)] 36)).drew := ((Below.refl wr.heap.size wr).alloc (Nat.le_refl _) _).drew
        have V8' := Lib.hid (V.out.below W8b)
        have X8' := Lib.hid (X.out.below W8b hxl)
        have O8' : Hid (Own w.heap.size (wr.alloc (.cells #[.int .i64 0, .int .i64 a, .int .i64 ((a + 1) % 3)] 36)).drew (some ad) n c L) := Lib.hid (O.out.below W8b)
        have T8' := Lib.hid (show Box (wr.alloc (.cells #[.int .i64 0, .int .i64 a, .int .i64 ((a + 1) % 3)] 36)).drew wr.heap.size 36 #[.int .i64 0, .int .i64 a, .int .i64 ((a + 1) % 3)] from Box.new wr _ _)
        have HB8' := Lib.hid (HB.out.trans (W8b.mono hsr))
        clear W8b X O HB x0 x1 hc1 SK
        generalize (wr.alloc (.cells #[.int .i64 0, .int .i64 a, .int .i64 ((a + 1) % 3)] 36)).drew = W8 at *
        obtain ⟨b8, hb8⟩ : ∃ b, b = wr.heap.size := ⟨_, rfl⟩
        rw [← hb8] at T8' ⊢
        have hxb : w1.heap.size < b8 := by omega
        have hA1 : ∀ g, A1 = some ⟨g, 0, none⟩ → g < b8 := fun g hg => by
          rcases V.out.form with ⟨h, _⟩ | ⟨g', h, _, hl⟩
          · rw [h] at hg; cases hg
          · rw [h] at hg
            injection hg with hg
            injection hg with hg
            omega
        clear hb8
        rcases Nat.mod_two_eq_zero_or_one (k + 1) with ho | ho
        · have HOT : Hid (otM L = ((jd : Int), mf, mt)) := by
            have := hm.out
            unfold tnM at this
            rw [if_pos ho] at this
            exact this.symm
          have e0 : (((k : Int) + 1) % 2 == 0) = true := by simp; omega
          clear ho
          obtain ⟨x0, x1, _, _⟩ := X8'.out.two
          go_wp2_with fail
          have hcall := moveOfOther_calls (some ad) n c L W8 HLl.out hcp.1 (by have := hcp.2; unfold maxLen at this; omega) O8'.out.ints HS.out
          rw [HOT.out] at hcall
          refine hcall.mono ?_
          rintro e w9 ⟨rfl, hb9⟩
          have hs8' := HB8'.out.size
          have X9 := Lib.hid (X8'.out.below hb9 X8'.out.lt)
          have V9 := Lib.hid (V8'.out.below hb9)
          have O9 := Lib.hid (O8'.out.below hb9)
          have T9 := Lib.hid (T8'.out.below hb9 T8'.out.lt)
          have HB9 := Lib.hid (HB8'.out.trans (hb9.mono hs8'))
          clear hcall hb9 x0 x1 X8' V8' O8' T8' HB8'
          obtain ⟨t0, t1, t2⟩ := T9.out.three
          have tf0 := T9.out.frozen 0
          have tf1 := T9.out.frozen 1
          have tf2 := T9.out.frozen 2
          have hnb : ∀ g, A1 = some ⟨g, 0, none⟩ → g ≠ b8 := fun g hg => by have := hA1 g hg; omega
          have T8 := Lib.hid (box_set3 T9.out (a := .int .i64 jd) (c := .int .i64 mf) (d := .int .i64 mt))
          have X8 := Lib.hid (((X9.out.other (a := ⟨b8, 0, none⟩) (by show w1.heap.size ≠ b8; omega) (.int .i64 jd)).other (a := ⟨b8, 1, none⟩) (by show w1.heap.size ≠ b8; omega) (.int .i64 mf)).other (a := ⟨b8, 2, none⟩) (by show w1.heap.size ≠ b8; omega) (.int .i64 mt))
          have V8 := Lib.hid (((OwnG.setBox V9.out (a := ⟨b8, 0, none⟩) hnb (.int .i64 jd)).setBox (a := ⟨b8, 1, none⟩) hnb (.int .i64 mf)).setBox (a := ⟨b8, 2, none⟩) hnb (.int .i64 mt))
          have O8 : Hid (OwnG 2 1 w.heap.size _ (some ad) n c (L.map (Value.int .i64))) := Lib.hid (((OwnG.setBoxed (show OwnG 2 1 w.heap.size w9 (some ad) n c (L.map (Value.int .i64)) from O9.out) T9.out (by decide) 0 (.int .i64 jd)).setBoxed (T9.out.set 0 _) (by decide) 1 (.int .i64 mf)).setBoxed ((T9.out.set 0 _).set 1 _) (by decide) 2 (.int .i64 mt))
          have HB8 := Lib.hid (((HB9.out.setCell (show w.heap.size ≤ (⟨b8, 0, none⟩ : Addr).block by show w.heap.size ≤ b8; omega) (.int .i64 jd)).setCell (show w.heap.size ≤ (⟨b8, 1, none⟩ : Addr).block by show w.heap.size ≤ b8; omega) (.int .i64 mf)).setCell (show w.heap.size ≤ (⟨b8, 2, none⟩ : Addr).block by show w.heap.size ≤ b8; omega) (.int .i64 mt))
          have hs9 : w.heap.size ≤ w9.heap.size := HB9.out.size
          clear X9 V9 O9 HB9
          have hs8 := HB8.out.size
          have hne1 : some b8 ≠ (Value.slice A1 k c1).ownBlock := by
            rcases V.out.form with ⟨h, _⟩ | ⟨g', h, _, _⟩
            · rw [h]; simp [Value.ownBlock]
            · have := hA1 g' h
              rw [h]
              simp [Value.ownBlock]
              omega
          have hk40 : k < 256 := by omega
          go_wp2_with (at_builtin; refine wpList_append_own _ rfl _ _ 40 rfl w.heap.size 36 i0 (.agg #[.int .i64 0, .int .i64 0, .int .i64 0]) 3 24 Tryd.underlying40 hi hz0 hz1 hz2 rfl (by decide) _ _ _ rfl (V8.out.alloc _) ⟨w9.heap.size, 0, none⟩ 1 1 [.int .i64 jd, .int .i64 mf, .int .i64 mt] rfl rfl (World.news_of_block (cs := #[.int .i64 jd, .int .i64 mf, .int .i64 mt]) (t := 36) (fr := (0, 0)) (by have := heap_alloc_new (((w9.setCell ⟨b8, 0, none⟩ (.int .i64 jd)).setCell ⟨b8, 1, none⟩ (.int .i64 mf)).setCell ⟨b8, 2, none⟩ (.int .i64 mt)) (.cells #[.int .i64 jd, .int .i64 mf, .int .i64 mt] 36); simpa using this)) (by simp [Value.oneCell']) (by unfold maxLen; omega) (by omega) (by simp; omega) ?_; intro v' w6 hown' hgrow _; obtain ⟨A6, c6, rfl⟩ := ownG_shape hown'; have V6 := Lib.hid hown'; have X6 := Lib.hid (V8.out.grown_box hgrow X8.out (by decide)); have O6 := Lib.hid (owns_other V8.out O8.out (by decide) hgrow); have T6 : Hid (Box w6 b8 36 #[.int .i64 jd, .int .i64 mf, .int .i64 mt]) := (T8.out.alloc _).grown hgrow hne1; have HB6 := Lib.hid (HB8.out.trans (V8.out.grown_below hgrow (Nat.le_refl _) hs8)); have X6c := X6.out.two; have T6c := T6.out.three; clear hown' hgrow)
          obtain ⟨x0, x1, _, _⟩ := X6c
          obtain ⟨t0, t1, t2⟩ := T6c
          go_wp2_with fail
          refine (afterMove_calls (some ad) n c 3 L jd mf mt _ HLl.out (by omega) hjn (Own.ints (show Own w.heap.size w6 (some ad) n c L from O6.out))).mono ?_
          rintro e w7 ⟨A7, c7, rfl, hO7, hb7⟩
          have hs6 := HB6.out.size
          have X7 := Lib.hid (X6.out.below hb7 X6.out.lt)
          have O7 := Lib.hid (hO7.mono hs6)
          have V7 := Lib.hid (OwnG.below V6.out hb7)
          have HB7 := Lib.hid (HB6.out.trans (hb7.mono hs6))
          clear hO7 hb7 x0 x1 t0 t1 t2
          obtain ⟨x0, x1, xf0, xf1⟩ := X7.out.two
          go_wp2
          go_roundw
          case rel =>
            refine ⟨k + 1, by omega, by go_num, ⟨A6, c6, rfl, ?_⟩, ⟨A7, c7, (X7.out.set 0 _).set 1 _, ?_⟩, (HB7.out.setCell (by show w.heap.size ≤ w1.heap.size; omega) _).setCell (by show w.heap.size ≤ w1.heap.size; omega) _⟩
            · have h9 := (OwnG.setBoxed (OwnG.setBoxed V7.out X7.out (by decide) 0 (.int .i64 3)) (X7.out.set 0 _) (by decide) 1 (.slice A7 n c7))
              unfold OwnM
              rw [hnx.out, mvCells_snoc]
              exact h9
            · rw [← HSET.out]
              exact (O7.out.setBoxed X7.out (by decide) 0 _).setBoxed (X7.out.set 0 _) (by decide) 1 _
          case measure => simp [intOf]; omega
        · have hme := hm.out
          unfold tnM at hme
          rw [if_neg (by omega), hae.out] at hme
          injection hme with h1 hme
          injection hme with h2 h3
          have e0 : (((k : Int) + 1) % 2 == 0) = false := by simp; omega
          clear ho
          have T8 : Hid (Box W8 b8 36 #[.int .i64 jd, .int .i64 mf, .int .i64 mt]) := by rw [h1, h2, h3]; exact T8'
          have X8 := X8'
          have V8 := V8'
          have O8 : Hid (OwnG 2 1 w.heap.size W8 (some ad) n c (L.map (Value.int .i64))) := O8'
          have HB8 := HB8'
          clear h1 h2 h3 T8' X8' V8' O8' HB8'
          
          have hs8 := HB8.out.size
          have hne1 : some b8 ≠ (Value.slice A1 k c1).ownBlock := by
            rcases V.out.form with ⟨h, _⟩ | ⟨g', h, _, _⟩
            · rw [h]; simp [Value.ownBlock]
            · have := hA1 g' h
              rw [h]
              simp [Value.ownBlock]
              omega
          have hk40 : k < 256 := by omega
          obtain ⟨t0, t1, t2⟩ := T8.out.three
          go_wp2_with (at_builtin; refine wpList_append_own _ rfl _ _ 40 rfl w.heap.size 36 i0 (.agg #[.int .i64 0, .int .i64 0, .int .i64 0]) 3 24 Tryd.underlying40 hi hz0 hz1 hz2 rfl (by decide) _ _ _ rfl (V8.out.alloc _) ⟨W8.heap.size, 0, none⟩ 1 1 [.int .i64 jd, .int .i64 mf, .int .i64 mt] rfl rfl (World.news_of_block (cs := #[.int .i64 jd, .int .i64 mf, .int .i64 mt]) (t := 36) (fr := (0, 0)) (heap_alloc_new W8 _)) (by simp [Value.oneCell']) (by unfold maxLen; omega) (by omega) (by simp; omega) ?_; intro v' w6 hown' hgrow _; obtain ⟨A6, c6, rfl⟩ := ownG_shape hown'; have V6 := Lib.hid hown'; have X6 := Lib.hid (V8.out.grown_box hgrow X8.out (by decide)); have O6 := Lib.hid (owns_other V8.out O8.out (by decide) hgrow); have T6 : Hid (Box w6 b8 36 #[.int .i64 jd, .int .i64 mf, .int .i64 mt]) := (T8.out.alloc _).grown hgrow hne1; have HB6 := Lib.hid (HB8.out.trans (V8.out.grown_below hgrow (Nat.le_refl _) hs8)); have X6c := X6.out.two; have T6c := T6.out.three; clear hown' hgrow t0 t1 t2)
          obtain ⟨x0, x1, _, _⟩ := X6c
          obtain ⟨t0, t1, t2⟩ := T6c
          go_wp2_with fail
          refine (afterMove_calls (some ad) n c 3 L jd mf mt _ HLl.out (by omega) hjn (Own.ints (show Own w.heap.size w6 (some ad) n c L from O6.out))).mono ?_
          rintro e w7 ⟨A7, c7, rfl, hO7, hb7⟩
          have hs6 := HB6.out.size
          have X7 := Lib.hid (X6.out.below hb7 X6.out.lt)
          have O7 := Lib.hid (hO7.mono hs6)
          have V7 := Lib.hid (OwnG.below V6.out hb7)
          have HB7 := Lib.hid (HB6.out.trans (hb7.mono hs6))
          clear hO7 hb7 x0 x1 t0 t1 t2
          obtain ⟨x0, x1, xf0, xf1⟩ := X7.out.two
          go_wp2
          go_roundw
          case rel =>
            refine ⟨k + 1, by omega, by go_num, ⟨A6, c6, rfl, ?_⟩, ⟨A7, c7, (X7.out.set 0 _).set 1 _, ?_⟩, (HB7.out.setCell (by show w.heap.size ≤ w1.heap.size; omega) _).setCell (by show w.heap.size ≤ w1.heap.size; omega) _⟩
            · have h9 := (OwnG.setBoxed (OwnG.setBoxed V7.out X7.out (by decide) 0 (.int .i64 3)) (X7.out.set 0 _) (by decide) 1 (.slice A7 n c7))
              unfold OwnM
              rw [hnx.out, mvCells_snoc]
              exact h9
            · rw [← HSET.out]
              exact (O7.out.setBoxed X7.out (by decide) 0 _).setBoxed (X7.out.set 0 _) (by decide) 1 _
          case measure => simp [intOf]; omega
    · have hltI : ¬ (k : Int) + 1 < (N : Int) := by omega
      have hw := HW.out
      go_wp2
      clear hw
      obtain rfl : k + 1 = N := by omega
      go_ret2
      exact ⟨A1, c1, rfl, V.out, HB.out⟩

end Go.Proofs.YtcicjnpnhaddcaaDoor
