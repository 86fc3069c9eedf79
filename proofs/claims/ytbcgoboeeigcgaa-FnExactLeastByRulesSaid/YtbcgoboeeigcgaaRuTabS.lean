/- Contracts: the tables of the specification. -/
import Derived.Test.YtbcgoboeeigcgaaRuTabW
namespace Go.Proofs.Ytbcgoboeeigcgaa
open Go.RowKit
set_option linter.unusedVariables false

set_option maxRecDepth 100000 in
set_option maxHeartbeats 8000000 in
theorem l07Tables_calls (r : Nat → Int) (n : Nat) (hn : n ≤ 8) (ha : ∀ i j : Int, 0 ≤ i ∧ i < 3 → 0 ≤ j ∧ j < 3 → i ≠ j → alR r i j = true ∨ (alR r i (3 - i - j) && alR r (3 - i - j) j) = true) (hT : ∀ m, m ≤ 8 → ∀ k, 0 ≤ tbl (alR r) m k ∧ tbl (alR r) m k ≤ 1000000) (w : World) :
    Calls Try.prog 20 #[.agg (z9 r), .int .i64 n] w fun e w' => ∃ A c5 vals, e = .returned (.slice A (n + 1) c5) ∧ OwnG 24 1 w.heap.size w' A (n + 1) c5 vals ∧ (∀ d, d < n + 1 → ∃ v, vals[d]? = some v ∧ TabB w' v (tbl (alR r) d)) ∧ Below w.heap.size w w' := by
  obtain ⟨i1, hi1, hy0, hy1, hy2⟩ := info_parts Try.infoS1
  obtain ⟨i2, hi2, hz0, hz1, hz2⟩ := info_parts Try.infoS2
  have HA := Lib.hid ha
  have HT := Lib.hid hT
  clear ha hT
  have X0 := Lib.hid ((((((Box.new w 27 (z9 r)).alloc (.cells (t3 (fun _ => 0)) 2)).alloc (.cells (t3 (fun _ => 0)) 2)).alloc (.cells (t3 (fun _ => 0)) 2)).alloc (.cells #[.slice (some ⟨w.heap.size + 1, 0, none⟩) 3 3, .slice (some ⟨w.heap.size + 1 + 1, 0, none⟩) 3 3, .slice (some ⟨w.heap.size + 1 + 1 + 1, 0, none⟩) 3 3] 48)).alloc (.cells #[.slice (some ⟨w.heap.size + 1 + 1 + 1 + 1, 0, none⟩) 3 3] 24))
  have R1 := ((((Box.new (w.alloc (.cells (z9 r) 27)) 2 (t3 (fun _ => 0))).alloc (.cells (t3 (fun _ => 0)) 2)).alloc (.cells (t3 (fun _ => 0)) 2)).alloc (.cells #[.slice (some ⟨w.heap.size + 1, 0, none⟩) 3 3, .slice (some ⟨w.heap.size + 1 + 1, 0, none⟩) 3 3, .slice (some ⟨w.heap.size + 1 + 1 + 1, 0, none⟩) 3 3] 48)).alloc (.cells #[.slice (some ⟨w.heap.size + 1 + 1 + 1 + 1, 0, none⟩) 3 3] 24)
  have R2 := (((Box.new ((w.alloc (.cells (z9 r) 27)).alloc (.cells (t3 (fun _ => 0)) 2)) 2 (t3 (fun _ => 0))).alloc (.cells (t3 (fun _ => 0)) 2)).alloc (.cells #[.slice (some ⟨w.heap.size + 1, 0, none⟩) 3 3, .slice (some ⟨w.heap.size + 1 + 1, 0, none⟩) 3 3, .slice (some ⟨w.heap.size + 1 + 1 + 1, 0, none⟩) 3 3] 48)).alloc (.cells #[.slice (some ⟨w.heap.size + 1 + 1 + 1 + 1, 0, none⟩) 3 3] 24)
  have R3 := ((Box.new (((w.alloc (.cells (z9 r) 27)).alloc (.cells (t3 (fun _ => 0)) 2)).alloc (.cells (t3 (fun _ => 0)) 2)) 2 (t3 (fun _ => 0))).alloc (.cells #[.slice (some ⟨w.heap.size + 1, 0, none⟩) 3 3, .slice (some ⟨w.heap.size + 1 + 1, 0, none⟩) 3 3, .slice (some ⟨w.heap.size + 1 + 1 + 1, 0, none⟩) 3 3] 48)).alloc (.cells #[.slice (some ⟨w.heap.size + 1 + 1 + 1 + 1, 0, none⟩) 3 3] 24)
  have R4 := (Box.new ((((w.alloc (.cells (z9 r) 27)).alloc (.cells (t3 (fun _ => 0)) 2)).alloc (.cells (t3 (fun _ => 0)) 2)).alloc (.cells (t3 (fun _ => 0)) 2)) 48 #[.slice (some ⟨w.heap.size + 1, 0, none⟩) 3 3, .slice (some ⟨w.heap.size + 1 + 1, 0, none⟩) 3 3, .slice (some ⟨w.heap.size + 1 + 1 + 1, 0, none⟩) 3 3]).alloc (.cells #[.slice (some ⟨w.heap.size + 1 + 1 + 1 + 1, 0, none⟩) 3 3] 24)
  have R5 := Box.new (((((w.alloc (.cells (z9 r) 27)).alloc (.cells (t3 (fun _ => 0)) 2)).alloc (.cells (t3 (fun _ => 0)) 2)).alloc (.cells (t3 (fun _ => 0)) 2)).alloc (.cells #[.slice (some ⟨w.heap.size + 1, 0, none⟩) 3 3, .slice (some ⟨w.heap.size + 1 + 1, 0, none⟩) 3 3, .slice (some ⟨w.heap.size + 1 + 1 + 1, 0, none⟩) 3 3] 48)) 24 #[.slice (some ⟨w.heap.size + 1 + 1 + 1 + 1, 0, none⟩) 3 3]
  simp only [World.size_alloc] at R1 R2 R3 R4 R5
  have O0 := Lib.hid (ownG_one R5 (B := w.heap.size) (by omega))
  have T0 : Hid (TabB ((((((w.alloc (.cells (z9 r) 27)).alloc (.cells (t3 (fun _ => 0)) 2)).alloc (.cells (t3 (fun _ => 0)) 2)).alloc (.cells (t3 (fun _ => 0)) 2)).alloc (.cells #[.slice (some ⟨w.heap.size + 1, 0, none⟩) 3 3, .slice (some ⟨w.heap.size + 1 + 1, 0, none⟩) 3 3, .slice (some ⟨w.heap.size + 1 + 1 + 1, 0, none⟩) 3 3] 48)).alloc (.cells #[.slice (some ⟨w.heap.size + 1 + 1 + 1 + 1, 0, none⟩) 3 3] 24)) (.slice (some ⟨w.heap.size + 1 + 1 + 1 + 1, 0, none⟩) 3 3) (tbl (alR r) 0)) := ⟨_, _, _, rfl, R4, fun i hi => by
    match i, hi with
    | 0, _ => exact ⟨_, rfl, R1⟩
    | 1, _ => exact ⟨_, rfl, R2⟩
    | 2, _ => exact ⟨_, rfl, R3⟩⟩
  have HB0 : Hid (Below w.heap.size w ((((((w.alloc (.cells (z9 r) 27)).alloc (.cells (t3 (fun _ => 0)) 2)).alloc (.cells (t3 (fun _ => 0)) 2)).alloc (.cells (t3 (fun _ => 0)) 2)).alloc (.cells #[.slice (some ⟨w.heap.size + 1, 0, none⟩) 3 3, .slice (some ⟨w.heap.size + 1 + 1, 0, none⟩) 3 3, .slice (some ⟨w.heap.size + 1 + 1 + 1, 0, none⟩) 3 3] 48)).alloc (.cells #[.slice (some ⟨w.heap.size + 1 + 1 + 1 + 1, 0, none⟩) 3 3] 24))) := ((((((Below.refl _ _).alloc (Nat.le_refl _) _).alloc (by simp) _).alloc (by simp; omega) _).alloc (by simp; omega) _).alloc (by simp; omega) _).alloc (by simp; omega) _
  clear R1 R2 R3 R4 R5
  go_enter Try.func20, Try.ntmps20
  go_wp2
  go_loopw [5, 6] (fun v5 v6 wr => ∃ q : Nat, q ≤ n ∧ v6 = .int .i64 ((q : Int) + 1) ∧ ∃ A5 c5 vals, v5 = .slice A5 (q + 1) c5 ∧ OwnG 24 1 w.heap.size wr A5 (q + 1) c5 vals ∧ (∀ d, d < q + 1 → ∃ v, vals[d]? = some v ∧ TabB wr v (tbl (alR r) d)) ∧ Box wr w.heap.size 27 (z9 r) ∧ Below w.heap.size w wr) (fun _ v6 _ => n + 2 - (intOf v6).toNat)
  case atStart =>
    refine ⟨0, Nat.zero_le _, rfl, _, _, _, rfl, O0.out, fun d hd => ?_, X0.out, HB0.out⟩
    obtain rfl : d = 0 := by omega
    exact ⟨_, rfl, T0.out⟩
  case round =>
    obtain ⟨wo, rfl⟩ : ∃ x, x = wr := ⟨wr, rfl⟩
    obtain ⟨q, hq, rfl, A5, c5, vals, rfl, hO, hTs, hX, hb⟩ := hrel
    have HO := Lib.hid hO
    have HTs := Lib.hid hTs
    have HX := Lib.hid hX
    have HB := Lib.hid hb
    have hsz := hb.size
    have hcap := hO.cap
    clear hO hTs hX hb X0 O0 T0 HB0
    by_cases hlt : q < n
    · obtain ⟨v, hv, htb⟩ := HTs.out q (by omega)
      obtain ⟨g, c8, rfl, htab⟩ := htb.tabI
      obtain ⟨g5, rfl, hg5, hg5l, hcell⟩ := HO.out.cell q (by omega)
      rw [hv] at hcell
      have HTab := Lib.hid htab
      clear hv htb htab
      have hq1 : (q : Int) + 1 ≤ (n : Int) := by omega
      go_wp2
      go_loopw [8, 9] (fun v8 v9 wm => ∃ i : Nat, i ≤ 3 ∧ v9 = .int .i64 i ∧ ∃ A8 d8 rows, v8 = .slice A8 i d8 ∧ OwnG 48 1 wo.heap.size wm A8 i d8 rows ∧ (∀ d, d < i → ∃ b, rows[d]? = some (.slice (some ⟨b, 0, none⟩) 3 3) ∧ Box wm b 2 (t3 (rowF (alR r) (tbl (alR r) q) d 3))) ∧ Below wo.heap.size wo wm) (fun _ v9 _ => 3 - (intOf v9).toNat)
      case atStart =>
        exact ⟨0, by omega, rfl, _, _, [], rfl, OwnG.emptyAt (Box.new wo 48 #[]) (Nat.le_refl _), fun d hd => absurd hd (by omega), (Below.refl _ _).alloc (Nat.le_refl _) _⟩
      case round =>
        obtain ⟨wm, rfl⟩ : ∃ x, x = wr := ⟨wr, rfl⟩
        obtain ⟨i, hi, rfl, A8, d8, rows, rfl, hO8, hR8, hb8⟩ := hrel
        have HO8 := Lib.hid hO8
        have HR8 := Lib.hid hR8
        have HB8 := Lib.hid hb8
        have hz8 := hb8.size
        have hcap8 := hO8.cap
        clear hO8 hR8 hb8 hcell
        by_cases hi3 : i < 3
        · have hi3' : (i : Int) < 3 := by omega
          go_wp2
          go_loopw [11] (fun v11 wj => ∃ j : Nat, j ≤ 3 ∧ v11 = .int .i64 j ∧ Box wj wm.heap.size 2 (t3 (rowF (alR r) (tbl (alR r) q) i j)) ∧ Below wm.heap.size wm wj) (fun v11 _ => 3 - (intOf v11).toNat)
          case atStart =>
            exact ⟨0, by omega, rfl, (t3_congr (f := fun _ => 0) (g := rowF (alR r) (tbl (alR r) q) i 0) (fun k _ => by unfold rowF; rw [if_neg (by omega)])) ▸ Box.new wm 2 (t3 (fun _ => 0)), (Below.refl _ _).alloc (Nat.le_refl _) _⟩
          case round =>
            obtain ⟨wj, rfl⟩ : ∃ x, x = wr := ⟨wr, rfl⟩
            obtain ⟨j, hj, rfl, hbx, hbj⟩ := hrel
            have HBX := Lib.hid hbx
            have HBJ := Lib.hid hbj
            have hzj := hbj.size
            have hzx := hbx.lt
            clear hbx hbj
            by_cases hj3 : j < 3
            · have hj3' : (j : Int) < 3 := by omega
              by_cases hij : i = j
              · subst hij
                go_wp2
                go_roundw
                case rel => exact ⟨i + 1, by omega, by go_num, by rw [rowF_same]; exact HBX.out, HBJ.out⟩
                case measure => simp [intOf]; omega
              · have hij' : ¬ (i : Int) = (j : Int) := by omega
                have XJ := Lib.hid ((HX.out.below HB8.out HX.out.lt).below HBJ.out (HX.out.below HB8.out HX.out.lt).lt)
                obtain ⟨x0, x1, x2, x3, x4, x5, x6, x7, x8⟩ := XJ.out.nine
                have TJ := Lib.hid ((HTab.out.below HB8.out).below HBJ.out)
                go_wp2_with fail
                refine (l07Both_calls r (tbl (alR r) q) _ c8 i j hi3 hj3 hij _ TJ.out (HT.out q (by omega))).mono ?_
                have hsel := sel_eq (a := alR r) (c := tbl (alR r) q) (i := i) (j := j) (HA.out i j (by omega) (by omega) hij') (HT.out q (by omega))
                obtain ⟨o, ho⟩ : ∃ o, bOne (alR r) (tbl (alR r) q) i j = o := ⟨_, rfl⟩
                obtain ⟨t, ht⟩ : ∃ t, bTwo (alR r) (tbl (alR r) q) i j = t := ⟨_, rfl⟩
                rw [ho, ht] at hsel ⊢
                have HSEL := Lib.hid hsel
                clear ho ht hsel
                rintro e w1 ⟨rfl, hb1⟩
                have HBX1 := Lib.hid (HBX.out.below hb1 HBX.out.lt)
                have HBJ1 := Lib.hid (HBJ.out.trans (hb1.mono hzj))
                clear hb1 x0 x1 x2 x3 x4 x5 x6 x7 x8
                have k0 := HBX1.out.at3 hj3
                have kf := HBX1.out.frozen j
                by_cases h1 : o < 0
                · go_wp2
                  go_roundw
                  case rel =>
                    refine ⟨j + 1, by omega, by go_num, ?_, ((HBJ1.out.setCell (Nat.le_refl _) _).setCell (Nat.le_refl _) _)⟩
                    have e := ((HBX1.out.set3 (k := j) hj3 o).set3 (k := j) hj3 t)
                    rwa [t3_congr (g := rowF (alR r) (tbl (alR r) q) i (j + 1)) (fun k _ => by
                      have hm : t = mV (alR r) (tbl (alR r) q) i j := by rw [← HSEL.out]; unfold selV; rw [if_pos (by omega)]
                      rw [← rowF_next _ _ (Ne.symm hij), ← hm]
                      by_cases hk : k = j
                      · rw [if_pos hk, if_pos hk]
                      · rw [if_neg hk, if_neg hk, if_neg hk])] at e
                  case measure => simp [intOf]; omega
                · by_cases h2 : 0 ≤ t
                  · by_cases h3 : t < o
                    · go_wp2
                      go_roundw
                      case rel =>
                        refine ⟨j + 1, by omega, by go_num, ?_, ((HBJ1.out.setCell (Nat.le_refl _) _).setCell (Nat.le_refl _) _)⟩
                        have e := ((HBX1.out.set3 (k := j) hj3 o).set3 (k := j) hj3 t)
                        rwa [t3_congr (g := rowF (alR r) (tbl (alR r) q) i (j + 1)) (fun k _ => by
                          have hm : t = mV (alR r) (tbl (alR r) q) i j := by rw [← HSEL.out]; unfold selV; rw [if_pos (by omega)]
                          rw [← rowF_next _ _ (Ne.symm hij), ← hm]
                          by_cases hk : k = j
                          · rw [if_pos hk, if_pos hk]
                          · rw [if_neg hk, if_neg hk, if_neg hk])] at e
                      case measure => simp [intOf]; omega
                    · go_wp2
                      go_roundw
                      case rel =>
                        refine ⟨j + 1, by omega, by go_num, ?_, (HBJ1.out.setCell (Nat.le_refl _) _)⟩
                        have e := (HBX1.out.set3 (k := j) hj3 o)
                        rwa [t3_congr (g := rowF (alR r) (tbl (alR r) q) i (j + 1)) (fun k _ => by
                          have hm : o = mV (alR r) (tbl (alR r) q) i j := by rw [← HSEL.out]; unfold selV; rw [if_neg (by omega)]
                          rw [← rowF_next _ _ (Ne.symm hij), ← hm])] at e
                      case measure => simp [intOf]; omega
                  · go_wp2
                    go_roundw
                    case rel =>
                      refine ⟨j + 1, by omega, by go_num, ?_, (HBJ1.out.setCell (Nat.le_refl _) _)⟩
                      have e := (HBX1.out.set3 (k := j) hj3 o)
                      rwa [t3_congr (g := rowF (alR r) (tbl (alR r) q) i (j + 1)) (fun k _ => by
                        have hm : o = mV (alR r) (tbl (alR r) q) i j := by rw [← HSEL.out]; unfold selV; rw [if_neg (by omega)]
                        rw [← rowF_next _ _ (Ne.symm hij), ← hm])] at e
                    case measure => simp [intOf]; omega
            · obtain rfl : j = 3 := by omega
              have HO8J := Lib.hid (HO8.out.below HBJ.out)
              go_wp2_with (at_builtin; refine wpList_append_own _ rfl _ _ 24 rfl wo.heap.size 48 i1 (.slice none 0 0) 1 24 Try.underlying24 hi1 hy0 hy1 hy2 rfl (by decide) _ _ _ rfl (HO8J.out.alloc _) ⟨wj.heap.size, 0, none⟩ 1 1 [.slice (some ⟨wm.heap.size, 0, none⟩) 3 3] rfl rfl (World.news_of_block (cs := #[.slice (some ⟨wm.heap.size, 0, none⟩) 3 3]) (t := 48) (fr := (0, 0)) (heap_alloc_new wj _)) (by simp [Value.oneCell']) (by unfold maxLen; omega) (by omega) (by simp; omega) ?_; intro v' w3 hown' hgrow _; obtain ⟨A2, c2, rfl⟩ := ownG_shape hown'; have HO9 := Lib.hid (show OwnG 48 1 wo.heap.size w3 A2 (i + 1) c2 (rows ++ [Value.slice (some ⟨wm.heap.size, 0, none⟩) 3 3]) from hown'); have HBX9 := Lib.hid (HO8J.out.grown_box hgrow HBX.out (by decide)); have HB9 := Lib.hid ((HB8.out.trans (HBJ.out.mono hz8)).trans (HO8J.out.grown_below hgrow (Nat.le_refl _) (by omega))); have HR9 := Lib.hid (fun d hd => by obtain ⟨b, e1, e2⟩ := HR8.out d hd; exact (⟨b, e1, HO8J.out.grown_box hgrow (e2.below HBJ.out e2.lt) (by decide)⟩ : ∃ b, rows[d]? = some (.slice (some ⟨b, 0, none⟩) 3 3) ∧ Box w3 b 2 (t3 (rowF (alR r) (tbl (alR r) q) d 3)))); clear hown' hgrow)
              have hl8 : rows.length = i := by have := HO8.out.len; omega
              go_roundw
              case rel =>
                refine ⟨i + 1, by omega, by go_num, A2, c2, rows ++ [Value.slice (some ⟨wm.heap.size, 0, none⟩) 3 3], rfl, HO9.out, fun d hd => ?_, HB9.out⟩
                by_cases hdi : d < i
                · obtain ⟨b, e1, e2⟩ := HR9.out d hdi
                  exact ⟨b, by rw [List.getElem?_append_left (by omega)]; exact e1, e2⟩
                · obtain rfl : d = i := by omega
                  exact ⟨_, by rw [List.getElem?_append_right (by omega)]; simp [hl8], HBX9.out⟩
              case measure => simp [intOf]; omega
        · obtain rfl : i = 3 := by omega
          have HO5 := Lib.hid (HO.out.below HB8.out)
          have TN := Lib.hid (tab_of_own HO8.out HR8.out)
          have hl5 : vals.length = q + 1 := by have := HO.out.len; omega
          go_wp2_with (at_builtin; refine wpList_append_own _ rfl _ _ 41 rfl w.heap.size 24 i2 (.slice none 0 0) 1 24 Try.underlying41 hi2 hz0 hz1 hz2 rfl (by decide) _ _ _ rfl (HO5.out.alloc _) ⟨wm.heap.size, 0, none⟩ 1 1 [.slice A8 3 d8] rfl rfl (World.news_of_block (cs := #[.slice A8 3 d8]) (t := 24) (fr := (0, 0)) (heap_alloc_new wm _)) (by simp [Value.oneCell']) (by unfold maxLen; omega) (by omega) (by simp; omega) ?_; intro v' w3 hown' hgrow _; obtain ⟨A2, c2, rfl⟩ := ownG_shape hown'; have HO6 := Lib.hid (show OwnG 24 1 w.heap.size w3 A2 (q + 1 + 1) c2 (vals ++ [Value.slice A8 3 d8]) from hown'); have TN6 := Lib.hid (TN.out.grown HO5.out hgrow); have HX6 := Lib.hid (HO5.out.grown_box hgrow (HX.out.below HB8.out HX.out.lt) (by decide)); have HB6 := Lib.hid ((HB.out.trans (HB8.out.mono hsz)).trans (HO5.out.grown_below hgrow (Nat.le_refl _) (by omega))); have HT6 := Lib.hid (fun d hd => by obtain ⟨v, e1, e2⟩ := HTs.out d hd; exact (⟨v, e1, (e2.below HB8.out).grown HO5.out hgrow⟩ : ∃ v, vals[d]? = some v ∧ TabB w3 v (tbl (alR r) d))); clear hown' hgrow)
          go_roundw
          case rel =>
            refine ⟨q + 1, by omega, by go_num, A2, c2, vals ++ [Value.slice A8 3 d8], rfl, HO6.out, fun d hd => ?_, HX6.out, HB6.out⟩
            by_cases hdi : d < q + 1
            · obtain ⟨v, e1, e2⟩ := HT6.out d hdi
              exact ⟨v, by rw [List.getElem?_append_left (by omega)]; exact e1, e2⟩
            · obtain rfl : d = q + 1 := by omega
              exact ⟨_, by rw [List.getElem?_append_right (by omega)]; simp [hl5], TN6.out⟩
          case measure => simp [intOf]; omega
    · obtain rfl : q = n := by omega
      go_wp2
      go_ret
      exact ⟨_, _, _, rfl, HO.out, HTs.out, HB.out⟩

end Go.Proofs.Ytbcgoboeeigcgaa
