/- Contracts: MovesByTurns, by the specification. -/
import Derived.Test.YtcicjnpnhaddcaaDoorTnP
import Derived.Test.YtcicjnpnhaddcaaDoorSpecMoves
import Derived.Test.YtcicjnpnhaddcaaDoorDone
import Derived.Test.YtcicjnpnhaddcaaDoorPerfect
namespace Go.Proofs.YtcicjnpnhaddcaaDoor
open Go.RowKit
open Go.RowKit (wrap64)
set_option linter.unusedVariables false

theorem find_at {M : List Mv} {p : Mv → Bool} {m : Mv} (h : M.find? p = some m) : ∃ j, j < M.length ∧ M[j]? = some m ∧ p m = true ∧ ∀ i x, i < j → M[i]? = some x → p x = false := by
  rw [List.find?_eq_some_iff_getElem] at h
  obtain ⟨hp, j, hj, he, hno⟩ := h
  refine ⟨j, hj, by rw [List.getElem?_eq_getElem hj, he], hp, fun i x hi hx => ?_⟩
  have hil : i < M.length := by omega
  rw [List.getElem?_eq_getElem hil] at hx
  cases hx
  have := hno i hi
  simpa using this
theorem tnP_odd {i : Nat} (h : i % 2 = 1) (m : Mv) : tnP i m = (m.1 == 0 && m.2.2 == (m.2.1 + 1) % 3) := by unfold tnP; simp [h]
theorem tnP_even {i : Nat} (h : i % 2 = 0) (m : Mv) : tnP i m = decide (0 < m.1) := by unfold tnP; simp [h]
theorem owns_other {e e' s s' B B' n n' c c' : Nat} {w w1 : World} {A A' : Option Addr} {xs xs' : List Value} {ob : Obj} (h : OwnG e s B w A n c xs) (h' : OwnG e' s' B' w A' n' c' xs') (ht : e' ≠ e) (hg : (w.alloc ob).grownBy w1 (Value.slice A n c).ownBlock) : OwnG e' s' B' w1 A' n' c' xs' := by
  refine (h'.alloc ob).kept hg (fun g hA he => ?_)
  subst hA
  rcases h'.2 with ⟨hv, _⟩ | ⟨g', cap, cur, hv, _, hh, _⟩
  · simp at hv
  · injection hv with h1 h2 h3
    injection h1 with h1
    injection h1 with h1
    subst h1
    exact h.box_ne (show Box w g e' cur from hh) ht he.symm

set_option maxRecDepth 100000 in
set_option maxHeartbeats 8000000 in
theorem specMovesByTurns_good (n : Nat) (w : World) (hn : n ≤ 8) :
    Calls Tryd.prog 19 #[.int .i64 n] w (RetMvs w (tnL n (2 ^ n - 1)).length (tnL n (2 ^ n - 1)) 0) := by
  obtain ⟨i0, hi, hz0, hz1, hz2⟩ := info_parts Tryd.infoM
  obtain ⟨N, hN⟩ : ∃ N : Nat, Hid (N = 2 ^ n) := ⟨_, rfl⟩
  have hNb : 1 ≤ N ∧ N ≤ 256 := by rw [hN.out]; exact pow2n8' hn
  have HW : Hid (wrap64 ((2 : Int) ^ n) = (N : Int)) := by unfold Hid; rw [hN.out]; exact wrap_pow41 (by omega)
  rw [tnL_len, ← hN.out]
  go_enter Tryd.func19, Tryd.ntmps19
  go_wp2_with fail
  refine (l01In_calls n 0 8 _).mono ?_
  rintro e w' ⟨rfl, rfl⟩
  rw [inB_yes (a := (n : Int)) (by omega) (by omega)]
  go_wp2_with fail
  refine (l01Perfect_calls 3 0 n _ hn).mono ?_
  rintro e w1 ⟨A, c, rfl, hO, hb1⟩
  rw [← atL_zero ⟨n, by omega⟩] at hO
  have HO1 := Lib.hid hO
  have HB1 := Lib.hid hb1
  have hs1 := hb1.size
  clear hO hb1
  go_wp2
  go_loopw [5, 6] (fun v i wr => ∃ k : Nat, k + 1 ≤ N ∧ i = .int .i64 ((k : Int) + 1) ∧ (∃ A1 c1, v = .slice A1 k c1 ∧ OwnM w.heap.size wr A1 k c1 (tnL n k)) ∧ (∃ A c, Box wr (w1.heap.size + 1) 28 #[.int .i64 3, .slice A n c] ∧ Own w.heap.size wr A n c (atL k n)) ∧ Below w.heap.size w wr) (fun _ i _ => N + 1 - (intOf i).toNat)
  case atStart =>
    have e1 := Box.new w1 36 #[]
    have e2 := Box.new (w1.alloc (.cells #[] 36)) 28 #[.int .i64 3, .slice A n c]
    rw [World.size_alloc] at e2
    have hal : Below w1.heap.size w1 ((w1.alloc (.cells #[] 36)).alloc (.cells #[.int .i64 3, .slice A n c] 28)) := ((Below.refl _ _).alloc (Nat.le_refl _) _).alloc (by simp) _
    exact ⟨0, by omega, rfl, ⟨_, _, rfl, OwnG.emptyAt (e1.alloc _) hs1⟩, ⟨A, c, e2, HO1.out.below hal⟩, HB1.out.trans (hal.mono hs1)⟩
  case round =>
    obtain ⟨k, hk, rfl, ⟨A1, c1, rfl, hV⟩, ⟨A, c, hX, hO⟩, hb⟩ := hrel
    have V := Lib.hid hV
    have X := Lib.hid hX
    have O := Lib.hid hO
    have HB := Lib.hid hb
    have hsr := hb.size
    clear hV hX hO hb
    have hw := HW.out
    by_cases hlt : k + 1 < N
    · obtain ⟨hs, hfind, hmb1, hmb2, hmb3, hset, hall⟩ := tn_at hn (t := k) (by rw [← hN.out]; exact hlt)
      obtain ⟨J, hJ, hMJ, hpJ, hno⟩ := find_at hfind
      have hnx : Hid (tnL n (k + 1) = tnL n k ++ [tnM (atL k n) (k + 1)]) := rfl
      obtain ⟨m, hm⟩ : ∃ m, Hid (m = tnM (atL k n) (k + 1)) := ⟨_, rfl⟩
      rw [← hm.out] at hmb1 hmb2 hmb3 hset hMJ hpJ hnx
      obtain ⟨md, mf, mt⟩ := m
      obtain ⟨jd, hjd⟩ := Int.eq_ofNat_of_zero_le hmb1.1
      simp only at hmb1 hmb2 hmb3 hset hpJ hjd
      subst hjd
      have hjn : jd < n := by omega
      have HSET := Lib.hid (show (atL k n).set jd mt = atL (k + 1) n by simpa using hset)
      have HLl := Lib.hid (atL_len k n)
      have HS := Lib.hid hs
      have HNO := Lib.hid hno
      have HALL := Lib.hid hall
      have HMJ := Lib.hid hMJ
      have HPJ := Lib.hid hpJ
      clear hset hs hno hall hfind hm hMJ hpJ
      generalize atL k n = L at *
      obtain ⟨x0, x1, _, _⟩ := X.out.two
      obtain ⟨wm, rfl⟩ : ∃ x, x = wr := ⟨wr, rfl⟩
      go_wp2_with fail
      clear hw
      refine (l01Moves_calls A n c 3 L _ HLl.out (Own.ints O.out) HS.out).mono ?_
      rintro e w3 ⟨A2, c2, rfl, hOM, hb3⟩
      have HMv := Lib.hid (OwnM.mvs hOM)
      have V3 := Lib.hid (V.out.below hb3)
      have X3 := Lib.hid (X.out.below hb3 X.out.lt)
      have O3 := Lib.hid (O.out.below hb3)
      have HB3 := Lib.hid (HB.out.trans (hb3.mono hsr))
      have hs3 := HB3.out.size
      clear hb3 hOM V X O HB x0 x1
      obtain ⟨M, hM⟩ : ∃ M, Hid (M = movesL 3 L) := ⟨_, rfl⟩
      rw [← hM.out] at HMv HNO HALL HMJ hJ
      rw [← hM.out]
      have hM40 : M.length ≤ 40 := by rw [hM.out]; exact movesL_len HS.out
      go_wp2
      go_loopw [5, 8] (fun v q wr => ∃ j : Nat, j ≤ J ∧ q = .int .i64 j ∧ v = .slice A1 k c1 ∧ Below w3.heap.size w3 wr) (fun _ q _ => M.length - (intOf q).toNat)
      case atStart => exact ⟨0, Nat.zero_le _, rfl, rfl, Below.refl _ _⟩
      case round =>
        obtain ⟨j, hjJ, rfl, rfl, hb⟩ := hrel
        have HB4 := Lib.hid hb
        have hs4 := hb.size
        have hjM : j < M.length := by omega
        obtain ⟨gM, rfl, hgM, m0, m1, m2⟩ := (HMv.out.below hb) j hjM
        obtain ⟨x, hx⟩ : ∃ x, M[j]? = some x := ⟨M[j], List.getElem?_eq_getElem hjM⟩
        rw [hx] at m0 m1 m2
        simp only [Option.getD_some] at m0 m1 m2
        have HX := Lib.hid hx
        have hxb := HALL.out x (List.mem_of_getElem? hx)
        clear hx hb
        obtain ⟨dd, ff, tt⟩ := x
        simp only at m0 m1 m2 hxb
        have hj0 : (0 : Int) ≤ (j : Int) := by omega
        have hjM2 : (j : Int) < (M.length : Int) := by omega
        by_cases hjj : j = J
        · have hxm : some (dd, ff, tt) = some ((jd : Int), mf, mt) := by rw [← HX.out, ← HMJ.out, hjj]
          injection hxm with hxm
          injection hxm with h1 hxm
          injection hxm with h2 h3
          subst h1 h2 h3
          clear hjj
          rcases Nat.mod_two_eq_zero_or_one (k + 1) with ho | ho
          · have hp := HPJ.out
            rw [tnP_even ho] at hp
            have hd0 : (0 : Int) < (jd : Int) := of_decide_eq_true hp
            have e0 : (((k : Int) + 1) % 2 == 1) = false := by simp; omega
            have e1 : (((k : Int) + 1) % 2 == 0) = true := by simp; omega
            clear hp ho
            have W4 := HB4.out
            have V5 := Lib.hid (((V3.out.below W4)).alloc (.cells #[.int .i64 jd, .int .i64 ff, .int .i64 tt] 36))
            have X5 := Lib.hid ((X3.out.below W4 X3.out.lt).alloc (.cells #[.int .i64 jd, .int .i64 ff, .int .i64 tt] 36))
            have O5 : Hid (OwnG 2 1 w.heap.size (wr.alloc (.cells #[.int .i64 jd, .int .i64 ff, .int .i64 tt] 36)) A n c (L.map (Value.int .i64))) := OwnG.alloc (show OwnG 2 1 w.heap.size wr A n c (L.map (Value.int .i64)) from O3.out.below W4) (.cells #[.int .i64 jd, .int .i64 ff, .int .i64 tt] 36)
            have T5 := Lib.hid (Box.new wr 36 #[.int .i64 jd, .int .i64 ff, .int .i64 tt])
            have HB5 := Lib.hid ((HB3.out.trans (W4.mono hs3)).alloc (Nat.le_trans hs3 hs4) (.cells #[.int .i64 jd, .int .i64 ff, .int .i64 tt] 36))
            have hs5 : w.heap.size ≤ (wr.alloc (.cells #[.int .i64 jd, .int .i64 ff, .int .i64 tt] 36)).heap.size := HB5.out.size
            have hA1 : ∀ g, A1 = some ⟨g, 0, none⟩ → g < wr.heap.size := fun g hg => by
              rcases V3.out.form with ⟨h, _⟩ | ⟨g', h, _, hl⟩
              · rw [h] at hg; cases hg
              · rw [h] at hg
                injection hg with hg
                injection hg with hg
                omega
            have hne1 : some wr.heap.size ≠ (Value.slice A1 k c1).ownBlock := by
              rcases V3.out.form with ⟨h, _⟩ | ⟨g', h, _, _⟩
              · rw [h]; simp [Value.ownBlock]
              · have := hA1 g' h
                rw [h]
                simp [Value.ownBlock]
                omega
            have hk40 : k < 256 := by omega
            clear W4
            go_wp2_with (at_builtin; go_loud (refine wpList_append_own _ rfl _ _ 40 rfl w.heap.size 36 i0 (.agg #[.int .i64 0, .int .i64 0, .int .i64 0]) 3 24 Tryd.underlying40 hi hz0 hz1 hz2 rfl (by decide) _ _ _ rfl (V5.out.alloc _) ⟨wr.heap.size + 1, 0, none⟩ 1 1 [.int .i64 jd, .int .i64 ff, .int .i64 tt] rfl rfl (World.news_of_block (cs := #[.int .i64 jd, .int .i64 ff, .int .i64 tt]) (t := 36) (fr := (0, 0)) (by have := heap_alloc_new (wr.alloc (.cells #[.int .i64 jd, .int .i64 ff, .int .i64 tt] 36)) (.cells #[.int .i64 jd, .int .i64 ff, .int .i64 tt] 36); rw [World.size_alloc] at this; exact this)) (by simp [Value.oneCell']) (by unfold maxLen; omega) (by omega) (by simp; omega) ?_; intro v' w6 hown' hgrow _; obtain ⟨A6, c6, rfl⟩ := ownG_shape hown'; have V6 := Lib.hid hown'; have X6 := Lib.hid (V5.out.grown_box hgrow X5.out (by decide)); have O6 := Lib.hid (owns_other V5.out O5.out (by decide) hgrow); have T6 : Hid (Box w6 wr.heap.size 36 #[.int .i64 jd, .int .i64 ff, .int .i64 tt]) := (T5.out.alloc _).grown hgrow hne1; have HB6 := Lib.hid (HB5.out.trans (V5.out.grown_below hgrow (Nat.le_refl _) hs5)); have X6c := X6.out.two; have T6c := T6.out.three; clear hown' hgrow))
            obtain ⟨x0, x1, _, _⟩ := X6c
            obtain ⟨t0, t1, t2⟩ := T6c
            go_wp2_with fail
            refine (l01Done_calls A n c 3 L jd ff tt _ HLl.out (by omega) hjn (Own.ints (show Own w.heap.size w6 A n c L from O6.out))).mono ?_
            rintro e w7 ⟨A7, c7, rfl, hO7, hb7⟩
            have hs6 := HB6.out.size
            have X7 := Lib.hid (X6.out.below hb7 X6.out.lt)
            have O7 := Lib.hid (hO7.mono hs6)
            have V7 := Lib.hid (OwnG.below V6.out hb7)
            have HB7 := Lib.hid (HB6.out.trans (hb7.mono hs6))
            clear hO7 hb7 x0 x1 t0 t1 t2
            obtain ⟨x0, x1, xf0, xf1⟩ := X7.out.two
            go_wp2
            go_roundw
            case rel =>
              refine ⟨k + 1, by omega, by go_num, ⟨A6, c6, rfl, ?_⟩, ⟨A7, c7, (X7.out.set 0 _).set 1 _, ?_⟩, (HB7.out.setCell (by show w.heap.size ≤ w1.heap.size + 1; omega) _).setCell (by show w.heap.size ≤ w1.heap.size + 1; omega) _⟩
              · have h9 := (OwnG.setBoxed (OwnG.setBoxed V7.out X7.out (by decide) 0 (.int .i64 3)) (X7.out.set 0 _) (by decide) 1 (.slice A7 n c7))
                unfold OwnM
                rw [hnx.out, mvCells_snoc]
                exact h9
              · rw [← HSET.out]
                exact (O7.out.setBoxed X7.out (by decide) 0 _).setBoxed (X7.out.set 0 _) (by decide) 1 _
            case measure => simp [intOf]; omega
          · have hp := HPJ.out
            rw [tnP_odd ho] at hp
            simp only [Bool.and_eq_true] at hp
            obtain ⟨hd0, hd1⟩ := hp
            have e0 : (((k : Int) + 1) % 2 == 1) = true := by simp; omega
            clear ho
            have W4 := HB4.out
            have V5 := Lib.hid (((V3.out.below W4)).alloc (.cells #[.int .i64 jd, .int .i64 ff, .int .i64 tt] 36))
            have X5 := Lib.hid ((X3.out.below W4 X3.out.lt).alloc (.cells #[.int .i64 jd, .int .i64 ff, .int .i64 tt] 36))
            have O5 : Hid (OwnG 2 1 w.heap.size (wr.alloc (.cells #[.int .i64 jd, .int .i64 ff, .int .i64 tt] 36)) A n c (L.map (Value.int .i64))) := OwnG.alloc (show OwnG 2 1 w.heap.size wr A n c (L.map (Value.int .i64)) from O3.out.below W4) (.cells #[.int .i64 jd, .int .i64 ff, .int .i64 tt] 36)
            have T5 := Lib.hid (Box.new wr 36 #[.int .i64 jd, .int .i64 ff, .int .i64 tt])
            have HB5 := Lib.hid ((HB3.out.trans (W4.mono hs3)).alloc (Nat.le_trans hs3 hs4) (.cells #[.int .i64 jd, .int .i64 ff, .int .i64 tt] 36))
            have hs5 : w.heap.size ≤ (wr.alloc (.cells #[.int .i64 jd, .int .i64 ff, .int .i64 tt] 36)).heap.size := HB5.out.size
            have hA1 : ∀ g, A1 = some ⟨g, 0, none⟩ → g < wr.heap.size := fun g hg => by
              rcases V3.out.form with ⟨h, _⟩ | ⟨g', h, _, hl⟩
              · rw [h] at hg; cases hg
              · rw [h] at hg
                injection hg with hg
                injection hg with hg
                omega
            have hne1 : some wr.heap.size ≠ (Value.slice A1 k c1).ownBlock := by
              rcases V3.out.form with ⟨h, _⟩ | ⟨g', h, _, _⟩
              · rw [h]; simp [Value.ownBlock]
              · have := hA1 g' h
                rw [h]
                simp [Value.ownBlock]
                omega
            have hk40 : k < 256 := by omega
            clear W4
            go_wp2_with (at_builtin; go_loud (refine wpList_append_own _ rfl _ _ 40 rfl w.heap.size 36 i0 (.agg #[.int .i64 0, .int .i64 0, .int .i64 0]) 3 24 Tryd.underlying40 hi hz0 hz1 hz2 rfl (by decide) _ _ _ rfl (V5.out.alloc _) ⟨wr.heap.size + 1, 0, none⟩ 1 1 [.int .i64 jd, .int .i64 ff, .int .i64 tt] rfl rfl (World.news_of_block (cs := #[.int .i64 jd, .int .i64 ff, .int .i64 tt]) (t := 36) (fr := (0, 0)) (by have := heap_alloc_new (wr.alloc (.cells #[.int .i64 jd, .int .i64 ff, .int .i64 tt] 36)) (.cells #[.int .i64 jd, .int .i64 ff, .int .i64 tt] 36); rw [World.size_alloc] at this; exact this)) (by simp [Value.oneCell']) (by unfold maxLen; omega) (by omega) (by simp; omega) ?_; intro v' w6 hown' hgrow _; obtain ⟨A6, c6, rfl⟩ := ownG_shape hown'; have V6 := Lib.hid hown'; have X6 := Lib.hid (V5.out.grown_box hgrow X5.out (by decide)); have O6 := Lib.hid (owns_other V5.out O5.out (by decide) hgrow); have T6 : Hid (Box w6 wr.heap.size 36 #[.int .i64 jd, .int .i64 ff, .int .i64 tt]) := (T5.out.alloc _).grown hgrow hne1; have HB6 := Lib.hid (HB5.out.trans (V5.out.grown_below hgrow (Nat.le_refl _) hs5)); have X6c := X6.out.two; have T6c := T6.out.three; clear hown' hgrow))
            obtain ⟨x0, x1, _, _⟩ := X6c
            obtain ⟨t0, t1, t2⟩ := T6c
            go_wp2_with fail
            refine (l01Done_calls A n c 3 L jd ff tt _ HLl.out (by omega) hjn (Own.ints (show Own w.heap.size w6 A n c L from O6.out))).mono ?_
            rintro e w7 ⟨A7, c7, rfl, hO7, hb7⟩
            have hs6 := HB6.out.size
            have X7 := Lib.hid (X6.out.below hb7 X6.out.lt)
            have O7 := Lib.hid (hO7.mono hs6)
            have V7 := Lib.hid (OwnG.below V6.out hb7)
            have HB7 := Lib.hid (HB6.out.trans (hb7.mono hs6))
            clear hO7 hb7 x0 x1 t0 t1 t2
            obtain ⟨x0, x1, xf0, xf1⟩ := X7.out.two
            go_wp2
            go_roundw
            case rel =>
              refine ⟨k + 1, by omega, by go_num, ⟨A6, c6, rfl, ?_⟩, ⟨A7, c7, (X7.out.set 0 _).set 1 _, ?_⟩, (HB7.out.setCell (by show w.heap.size ≤ w1.heap.size + 1; omega) _).setCell (by show w.heap.size ≤ w1.heap.size + 1; omega) _⟩
              · have h9 := (OwnG.setBoxed (OwnG.setBoxed V7.out X7.out (by decide) 0 (.int .i64 3)) (X7.out.set 0 _) (by decide) 1 (.slice A7 n c7))
                unfold OwnM
                rw [hnx.out, mvCells_snoc]
                exact h9
              · rw [← HSET.out]
                exact (O7.out.setBoxed X7.out (by decide) 0 _).setBoxed (X7.out.set 0 _) (by decide) 1 _
            case measure => simp [intOf]; omega
        · have hnp := HNO.out j _ (by omega) HX.out
          have hjJ2 : j + 1 ≤ J := by omega
          clear hjj
          rcases Nat.mod_two_eq_zero_or_one (k + 1) with ho | ho
          · rw [tnP_even ho] at hnp
            have hd0 : ¬ (0 : Int) < dd := of_decide_eq_false hnp
            have e0 : (((k : Int) + 1) % 2 == 1) = false := by simp; omega
            have e1 : (((k : Int) + 1) % 2 == 0) = true := by simp; omega
            clear hnp ho
            go_wp2
            go_roundw
            case rel => exact ⟨j + 1, by omega, by go_num, rfl, HB4.out.alloc hs4 _⟩
            case measure => simp [intOf]; omega
          · rw [tnP_odd ho] at hnp
            have e0 : (((k : Int) + 1) % 2 == 1) = true := by simp; omega
            have e1 : (((k : Int) + 1) % 2 == 0) = false := by simp; omega
            clear ho
            cases hd0 : (dd == 0) with
            | false =>
              clear hnp
              go_wp2
              go_roundw
              case rel => exact ⟨j + 1, by omega, by go_num, rfl, HB4.out.alloc hs4 _⟩
              case measure => simp [intOf]; omega
            | true =>
              have hd1 : (tt == (ff + 1) % 3) = false := by simpa [hd0] using hnp
              clear hnp
              go_wp2
              go_roundw
              case rel => exact ⟨j + 1, by omega, by go_num, rfl, HB4.out.alloc hs4 _⟩
              case measure => simp [intOf]; omega
    · obtain rfl : k + 1 = N := by omega
      go_wp2
      go_ret2
      exact ⟨A1, c1, rfl, V.out, HB.out⟩

end Go.Proofs.YtcicjnpnhaddcaaDoor
