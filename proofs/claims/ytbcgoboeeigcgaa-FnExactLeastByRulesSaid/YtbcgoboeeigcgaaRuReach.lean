/- Contracts: which pegs are reached from which, by rules; strong rules, of the program. -/
import Derived.Test.YtbcgoboeeigcgaaRuReachE
namespace Go.Proofs.Ytbcgoboeeigcgaa
open Go.RowKit Go.Shelf
set_option linter.unusedVariables false
set_option linter.unusedSimpArgs false
attribute [local go_sem] Oper.semAt_some

theorem itT_fix {a : Int → Int → Bool} {m : Nat} (h : l9 (itT a (m + 1)) = l9 (itT a m)) (hm : m ≤ 2) : ∀ k, k < 9 → itT a m k = itT a 2 k := by
  have h0 := l9_at h
  have h1 : ∀ k, k < 9 → itT a (m + 2) k = itT a (m + 1) k := fun k hk => stT_congr h0 k hk
  intro k hk
  rcases (by omega : m = 0 ∨ m = 1 ∨ m = 2) with rfl | rfl | rfl
  · rw [← h0 k hk, ← h1 k hk]
  · rw [← h0 k hk]
  · rfl

set_option maxRecDepth 100000 in
set_option maxHeartbeats 8000000 in
theorem reachTable_calls (r : Nat → Int) (w : World) :
    Calls Try.prog 57 #[.iface 27 (.agg (z9 r))] w fun e w' => e = .returned (.agg (z9 (itT (alR r) 2))) ∧ Below w.heap.size w w' := by
  refine (callsIn_wide (n := 6)).1 ?_
  refine callsIn_of_wp_marks Try.func57 rfl trivial ?_ rfl
  simp only [Try.ntmps57, List.size_toArray, List.length_cons, List.length_nil, Nat.reduceAdd, Nat.reduceSub, Array.replicate_succ, Array.replicate_zero, List.push_toArray, List.append_toArray, List.nil_append, List.cons_append]
  have D0 := Box.new w 54 #[.iface 27 (.agg (z9 r))]
  have D1 := D0.alloc (.cells (z9 (fun _ => 0)) 45)
  have D2 := Lib.hid (D1.alloc (.cells (z9 (itT (alR r) 0)) 45))
  have Q0 := Box.new (w.alloc (.cells #[.iface 27 (.agg (z9 r))] 54)) 45 (z9 (fun _ => 0))
  have Q1 := Q0.alloc (.cells (z9 (itT (alR r) 0)) 45)
  have R0 := Box.new ((w.alloc (.cells #[.iface 27 (.agg (z9 r))] 54)).alloc (.cells (z9 (fun _ => 0)) 45)) 45 (z9 (itT (alR r) 0))
  simp only [World.size_alloc] at Q1 R0
  have Q1 := Lib.hid Q1
  have R0 := Lib.hid R0
  have B0 := Lib.hid ((((Below.refl w.heap.size w).alloc (Nat.le_refl _) (.cells #[.iface 27 (.agg (z9 r))] 54)).alloc (by simp) (.cells (z9 (fun _ => 0)) 45)).alloc (by simp; omega) (.cells (z9 (itT (alR r) 0)) 45))
  clear D0 D1 Q0
  gi_wp2
  change Code.wpIn _ _ _ _ _ _ (((w.alloc (.cells #[.iface 27 (.agg (z9 r))] 54)).alloc (.cells (z9 (fun _ => 0)) 45)).alloc (.cells (z9 (itT (alR r) 0)) 45))
  generalize ((w.alloc (.cells #[.iface 27 (.agg (z9 r))] 54)).alloc (.cells (z9 (fun _ => 0)) 45)).alloc (.cells (z9 (itT (alR r) 0)) 45) = wa at *
  refine wpIn_loop (fun (act : Act) (wr : World) => ∃ (m : Nat) (ds : List Nat) (u4 u5 u6 u7 u8 u9 u10 u11 u12 u13 u14 u15 u16 u17 u18 u19 u20 u21 u22 u23 u24 u25 u26 u27 u28 u29 u30 u31 u32 u33 u34 u35 u36 u37 u38 u39 u40 u41 u42 u43 : Value), act = { tmps := #[.iface 27 (.agg (z9 r)), .pointer (some ⟨w.heap.size, 0, none⟩), .pointer (some ⟨w.heap.size + 1, 0, none⟩), .pointer (some ⟨w.heap.size + 1 + 1, 0, none⟩), u4, u5, u6, u7, u8, u9, u10, u11, u12, u13, u14, u15, u16, u17, u18, u19, u20, u21, u22, u23, u24, u25, u26, u27, u28, u29, u30, u31, u32, u33, u34, u35, u36, u37, u38, u39, u40, u41, u42, u43], defers := marks ds } ∧ m ≤ 2 ∧ ds.length = m ∧ ds.Nodup ∧ (∀ D ∈ ds, w.heap.size + 3 ≤ D) ∧ MK ds wr ∧
    (Box wr (w.heap.size + 1 + 1) 45 (z9 (itT (alR r) m)) ∧ Box wr w.heap.size 54 #[.iface 27 (.agg (z9 r))] ∧ Box wr (w.heap.size + 1) 45 (z9 (fun _ => 0))) ∧ Below w.heap.size w wr) (fun act _ => 3 - act.defers.length) ?start ?round
  case start =>
    refine ⟨0, [], _, _, _, _, _, _, _, _, _, _, _, _, _, _, _, _, _, _, _, _, _, _, _, _, _, _, _, _, _, _, _, _, _, _, _, _, _, _, _, _, rfl, by omega, rfl, by simp, by simp, fun D hD => by simp at hD, ⟨R0.out, D2.out, Q1.out⟩, B0.out⟩
  case round =>
    rintro _ wr ⟨m, ds, u4, u5, u6, u7, u8, u9, u10, u11, u12, u13, u14, u15, u16, u17, u18, u19, u20, u21, u22, u23, u24, u25, u26, u27, u28, u29, u30, u31, u32, u33, u34, u35, u36, u37, u38, u39, u40, u41, u42, u43, rfl, hm, hl, hnd, hge, hmk, ⟨hN, hD, hQ⟩, hB⟩
    obtain ⟨x0, x1, x2, x3, x4, x5, x6, x7, x8⟩ := hN.nine
    have hsz := hN.lt
    have HL := Lib.hid hl
    clear hl
    gi_wp2_with (refine ⟨trivial, ?_⟩; gi_at_call 58; refine (pegPairs_calls _ _).mono ?_; rintro e w' ⟨rfl, rfl⟩)
    change Code.wpIn _ _ _ _ _ _ (wr.alloc (.cells (z9 (itT (alR r) m)) 45))
    have NX : Box (wr.alloc (.cells (z9 (itT (alR r) m)) 45)) wr.heap.size 45 (z9 (stT (alR r) (itT (alR r) m) [])) := Box.new wr 45 (z9 (itT (alR r) m))
    have hN2 := hN.alloc (.cells (z9 (itT (alR r) m)) 45)
    have hD2 := hD.alloc (.cells (z9 (itT (alR r) m)) 45)
    have hQ2 := hQ.alloc (.cells (z9 (itT (alR r) m)) 45)
    have hB2 := hB.alloc hB.size (.cells (z9 (itT (alR r) m)) 45)
    have hmk2 := hmk.below ((Below.refl wr.heap.size wr).alloc (Nat.le_refl _) (.cells (z9 (itT (alR r) m)) 45)) hmk.lt
    have hdl := hmk.lt
    have hnbw : wr.heap.size < (wr.alloc (.cells (z9 (itT (alR r) m)) 45)).heap.size := by simp
    clear x0 x1 x2 x3 x4 x5 x6 x7 x8 hN hD hQ hB hmk
    generalize hnow : itT (alR r) m = now at *
    have HNOW := Lib.hid hnow
    clear hnow
    generalize wr.alloc (.cells (z9 now) 45) = wq at *
    generalize wr.heap.size = nb at *
    have HLT := Lib.hid hdl
    have HNX := Lib.hid NX
    have HMK := Lib.hid hmk2
    have HGE := Lib.hid hge
    have HND := Lib.hid hnd
    have HN2 := Lib.hid hN2
    have HD2 := Lib.hid hD2
    have HQ2 := Lib.hid hQ2
    have HB2 := Lib.hid hB2
    clear hdl NX hmk2 hge hnd hN2 hD2 hQ2 hB2
    refine wpIn_rangeFunc_ownG rfl (by omega) (gf := 62) (lb := #[]) rfl trivial (enters_of Try.func62 (by kernel_rfl) rfl)
      (pegPairs_stops _ (by omega) _) (fun _ _ => trivial) (fun _ _ _ _ _ _ _ _ => trivial) (Below.refl _ _) (fun _ => rfl)
      (fun pre W => ((((Box W nb 45 (z9 (stT (alR r) now pre)) ∧ Box W (w.heap.size + 1 + 1) 45 (z9 now)) ∧ Box W w.heap.size 54 #[.iface 27 (.agg (z9 r))]) ∧ Box W (w.heap.size + 1) 45 (z9 (fun _ => 0))) ∧ Below w.heap.size w W) ∧ MK ds W)
      (fun _ _ _ => False)
      (OwnFrom.and (OwnFrom.and (OwnFrom.and (OwnFrom.and (OwnFrom.and (Own.from (box_ownS _ _ (fun pre : List PP => z9 (stT (alR r) now pre))) _) (Own.from (box_own _ _ _) _)) (Own.from (box_own _ _ _) _)) (Own.from (box_own _ _ _) _)) (ownFrom_below (Nat.le_refl _) HB2.out.size)) (mk_own (fun D hD => by have := HLT.out D hD; omega) trivial))
      (fun _ _ _ _ _ hs _ _ => hs)
      ⟨⟨⟨⟨⟨HNX.out, HN2.out⟩, HD2.out⟩, HQ2.out⟩, HB2.out⟩, HMK.out⟩
      (fun x => { tmps := #[.iface 27 (.agg (z9 r)), .pointer (some ⟨w.heap.size, 0, none⟩), .pointer (some ⟨w.heap.size + 1, 0, none⟩), .pointer (some ⟨w.heap.size + 1 + 1, 0, none⟩), .pointer (some ⟨nb, 0, none⟩), .int .i64 x.i, .int .i64 x.j, u7, u8, u9, u10, u11, u12, .agg (z9 now), .func (.func 62) #[] #[], .int .i64 x.i, .int .i64 x.j, u17, u18, u19, u20, u21, u22, u23, u24, u25, u26, u27, u28, u29, u30, u31, u32, u33, u34, u35, u36, u37, u38, u39, u40, u41, u42, u43], defers := [] }) ?assign ?body ?done ?stop
    case assign =>
      intro l x W K hK
      gi_wp2
      simpa [ppV, z9] using hK
    case body =>
      rintro l pre x W ⟨⟨⟨⟨⟨hX, hN⟩, hD⟩, hQ⟩, hB⟩, hMK⟩ hlt
      have hi := x.hi
      have hj := x.hj
      clear hlt
      have HX0 := Lib.hid hX
      have HN0 := Lib.hid hN
      have HD0 := Lib.hid hD
      have HQ0 := Lib.hid hQ
      have HB0 := Lib.hid hB
      have HK0 := Lib.hid hMK
      clear hX hN hD hQ hB hMK
      gi_wp2
      gi_loopw [17] (fun i wq => ∃ t : Nat, t ≤ 3 ∧ i = .int .i64 t ∧ ((((Box wq nb 45 (z9 (stI (alR r) now pre x t)) ∧ Box wq (w.heap.size + 1 + 1) 45 (z9 now)) ∧ Box wq w.heap.size 54 #[.iface 27 (.agg (z9 r))]) ∧ Box wq (w.heap.size + 1) 45 (z9 (fun _ => 0))) ∧ Below w.heap.size w wq) ∧ MK ds wq ∧ KeepsOthers W wq) (fun i _ => 3 - (intOf i).toNat)
      case atStart => exact ⟨0, by omega, rfl, ⟨⟨⟨⟨by rw [stI_zero]; exact HX0.out, HN0.out⟩, HD0.out⟩, HQ0.out⟩, HB0.out⟩, HK0.out, KeepsOthers.refl _⟩
      case round =>
        obtain ⟨t, ht, rfl, ⟨⟨⟨⟨hX, hN⟩, hD⟩, hQ⟩, hB⟩, hMK, hKO⟩ := hrel
        by_cases hlt : t < 3
        · have g1 := hN.get9 (k := t * 3 + x.i.toNat) (by omega)
          obtain ⟨c0, f0⟩ := hD.one
          have HX := Lib.hid hX
          have HN := Lib.hid hN
          have HD := Lib.hid hD
          have HQ := Lib.hid hQ
          have HB := Lib.hid hB
          have HMK := Lib.hid hMK
          have HKO := Lib.hid hKO
          clear hX hN hD hQ hB hMK hKO
          have hm := meth_R r
          by_cases h1 : (now (t * 3 + x.i.toNat) == 1) = true
          · have H1 := Lib.hid h1
            by_cases h2 : alR r x.i x.j = true
            · have H2 := Lib.hid h2
              gi_wp2_with (refine ⟨trivial, ?_⟩; refine (callsIn_wide.2 (allowsR_calls' r x.i x.j hi hj _)).mono ?_; rintro e w1 ⟨rfl, hb⟩; have HX1 := Lib.hid (HX.out.below hb HX.out.lt); have HN1 := Lib.hid (HN.out.below hb HN.out.lt); have HD1 := Lib.hid (HD.out.below hb HD.out.lt); have HQ1 := Lib.hid (HQ.out.below hb HQ.out.lt); have HB1 := Lib.hid (HB.out.trans (hb.mono HB.out.size)); have HK1 := Lib.hid (HMK.out.below hb HMK.out.lt); have KB := Lib.hid (HKO.out.trans (keepsOthers_of_below hb)); clear hb; obtain ⟨v, hv⟩ := HX1.out.at9 (k := t * 3 + x.j.toNat) (by omega); have hfz := HX1.out.frozen (t * 3 + x.j.toNat))
              go_roundw
              case rel =>
                have hnq := HB1.out.size
                refine ⟨t + 1, by omega, by go_num, ⟨⟨⟨⟨?_, HN1.out.other (by simp; omega) _⟩, HD1.out.other (by simp; omega) _⟩, HQ1.out.other (by simp; omega) _⟩, HB1.out.setCell (by simp; omega) _⟩, HK1.out.set (fun D hD => by have := HLT.out D hD; omega) _, KB.out.trans (KeepsOthers.setCell _ _ _)⟩
                have := HX1.out.setz (k := t * 3 + x.j.toNat) (by omega) 1
                rwa [z9_congr (stI_yes H1.out H2.out)] at this
              case measure => simp [intOf]; omega
            · have h2' : alR r x.i x.j = false := by simpa using h2
              have H2 := Lib.hid h2'
              clear h2
              gi_wp2_with (refine ⟨trivial, ?_⟩; refine (callsIn_wide.2 (allowsR_calls' r x.i x.j hi hj _)).mono ?_; rintro e w1 ⟨rfl, hb⟩; have HX1 := Lib.hid (HX.out.below hb HX.out.lt); have HN1 := Lib.hid (HN.out.below hb HN.out.lt); have HD1 := Lib.hid (HD.out.below hb HD.out.lt); have HQ1 := Lib.hid (HQ.out.below hb HQ.out.lt); have HB1 := Lib.hid (HB.out.trans (hb.mono HB.out.size)); have HK1 := Lib.hid (HMK.out.below hb HMK.out.lt); have KB := Lib.hid (HKO.out.trans (keepsOthers_of_below hb)); clear hb)
              go_roundw
              case rel => exact ⟨t + 1, by omega, by go_num, ⟨⟨⟨⟨by rw [← stI_no (by rw [H2.out, Bool.and_false])]; exact HX1.out, HN1.out⟩, HD1.out⟩, HQ1.out⟩, HB1.out⟩, HK1.out, KB.out⟩
              case measure => simp [intOf]; omega
          · have h1' : (now (t * 3 + x.i.toNat) == 1) = false := by simpa using h1
            have H1 := Lib.hid h1'
            clear h1 hm
            gi_wp2
            all_goals
              refine ⟨fun _ _ => trivial, ?_⟩
              gi_wp2
              go_roundw
              case rel => exact ⟨t + 1, by omega, by go_num, ⟨⟨⟨⟨by rw [← stI_no (by rw [H1.out, Bool.false_and])]; exact HX.out, HN.out⟩, HD.out⟩, HQ.out⟩, HB.out⟩, HMK.out, HKO.out⟩
              case measure => simp [intOf]; omega
        · obtain rfl : t = 3 := by omega
          rw [z9_congr (stI_last (alR r) now pre x)] at hX
          gi_wp2
          exact ⟨hKO.from _, trivial, ⟨⟨⟨⟨hX, hN⟩, hD⟩, hQ⟩, hB⟩, hMK⟩
    case done =>
      rintro Dp ys W hDp rfl ⟨⟨⟨⟨⟨hX, hN⟩, hD⟩, hQ⟩, hB⟩, hMK⟩ hK
      have HEQ := eq9T (stT (alR r) now ppAll) now (fun k _ => by have := itT_wf (alR r) (m + 1) k; rwa [show itT (alR r) (m + 1) = stT (alR r) now ppAll by rw [← HNOW.out]; rfl] at this) (fun k _ => by rw [← HNOW.out]; exact itT_wf (alR r) m k)
      have hstep : itT (alR r) (m + 1) = stT (alR r) now ppAll := by rw [← HNOW.out]; rfl
      have HST := Lib.hid hstep
      clear hstep
      obtain ⟨x0, x1, x2, x3, x4, x5, x6, x7, x8⟩ := hX.nine
      obtain ⟨n0, n1, n2, n3, n4, n5, n6, n7, n8⟩ := hN.nine
      have HMK2 := Lib.hid hMK
      have HK2 := Lib.hid hK
      have HDP := Lib.hid hDp
      clear hMK hK hDp
      have HNN := Lib.hid hN
      have HQQ := Lib.hid hQ
      have HDD := Lib.hid hD
      have HXX := Lib.hid hX
      have HBB := Lib.hid hB
      clear hN hD hX hB
      by_cases he : decide (l9 (stT (alR r) now ppAll) = l9 now) = true
      · rw [he] at HEQ
        have HEE : Hid (l9 (itT (alR r) (m + 1)) = l9 (itT (alR r) m)) := by unfold Hid; rw [HST.out, HNOW.out]; exact of_decide_eq_true he
        clear he
        unfold z9 at HEQ
        obtain ⟨y0, y1, y2, y3, y4, y5, y6, y7, y8⟩ := hQ.nine
        obtain ⟨f0, f1, f2, f3, f4, f5, f6, f7, f8⟩ := hQ.frozen9
        gi_wp2
        have hsq := HQQ.out.lt
        have hbx := HQQ.out.set9 now
        have hb9 := below_set9 HBB.out (b := w.heap.size + 1) (by omega) now
        have hsz3 : w.heap.size + 3 ≤ Dp := by have := HDP.out; omega
        have hmk9 : MK (Dp :: ds) (set9 W (w.heap.size + 1) now) := by
          intro D hD
          rcases List.mem_cons.1 hD with rfl | hD'
          · exact (set9_other W _ _ now (by omega)).trans HK2.out
          · exact (set9_other W _ _ now (by have := HGE.out D hD'; omega)).trans (HMK2.out D hD')
        change bodyPostM _ _ _ _ _ _ _ (set9 W (w.heap.size + 1) now)
        generalize set9 W (w.heap.size + 1) now = W9 at *
        refine leavesM (w0 := w) (Dp :: ds) W9 hmk9 (List.nodup_cons.2 ⟨fun hm' => by have := HLT.out Dp hm'; have := HDP.out; omega, HND.out⟩) (fun D hD => ?_) (fun W' h1 h2 => ⟨_, results_cell_row rfl _ _ (w.heap.size + 1) 45 (z9 now) (0, 0) _ rfl ((h1 _ ?_).trans hbx) Try.underlying45 rfl (by kernel_rfl), ?_, hb9.trans h2⟩)
        · rcases List.mem_cons.1 hD with rfl | hD'
          · omega
          · have := HGE.out D hD'; omega
        · intro hm'
          rcases List.mem_cons.1 hm' with e | hD'
          · omega
          · have := HGE.out _ hD'; omega
        · rw [← z9_congr (itT_fix HEE.out hm), HNOW.out]
      · have he' : decide (l9 (stT (alR r) now ppAll) = l9 now) = false := by simpa using he
        rw [he'] at HEQ
        have hm1 : m ≤ 1 := by
          rcases (by omega : m = 0 ∨ m = 1 ∨ m = 2) with rfl | rfl | rfl
          · omega
          · omega
          · exfalso
            rw [← HST.out, ← HNOW.out, itT_stop] at he'
            simp at he'
        clear he he'
        unfold z9 at HEQ
        obtain ⟨f0, f1, f2, f3, f4, f5, f6, f7, f8⟩ := HNN.out.frozen9
        gi_wp2
        have hsz3 : w.heap.size + 3 ≤ Dp := by have := HDP.out; omega
        have hbx := HNN.out.set9 (stT (alR r) now ppAll)
        have hb9 := below_set9 HBB.out (b := w.heap.size + 1 + 1) (by omega) (stT (alR r) now ppAll)
        have hmk9 : MK (Dp :: ds) (set9 W (w.heap.size + 1 + 1) (stT (alR r) now ppAll)) := by
          intro D hD
          rcases List.mem_cons.1 hD with rfl | hD'
          · exact (set9_other W _ _ _ (by omega)).trans HK2.out
          · exact (set9_other W _ _ _ (by have := HGE.out D hD'; omega)).trans (HMK2.out D hD')
        have hD9 : Box (set9 W (w.heap.size + 1 + 1) (stT (alR r) now ppAll)) w.heap.size 54 #[.iface 27 (.agg (z9 r))] := (set9_other W _ _ _ (by omega)).trans HDD.out
        have hQ9 : Box (set9 W (w.heap.size + 1 + 1) (stT (alR r) now ppAll)) (w.heap.size + 1) 45 (z9 (fun _ => 0)) := (set9_other W _ _ _ (by omega)).trans HQQ.out
        refine ⟨⟨m + 1, Dp :: ds, _, _, _, _, _, _, _, _, _, _, _, _, _, _, _, _, _, _, _, _, _, _, _, _, _, _, _, _, _, _, _, _, _, _, _, _, _, _, _, _, rfl, by omega, by rw [List.length_cons, HL.out], List.nodup_cons.2 ⟨fun hm' => by have := HLT.out Dp hm'; have := HDP.out; omega, HND.out⟩, fun D hD => ?_, hmk9, ⟨?_, hD9, hQ9⟩, hb9⟩, ?_⟩
        · rcases List.mem_cons.1 hD with rfl | hD'
          · omega
          · exact HGE.out D hD'
        · rw [HST.out]; exact hbx
        · have := HL.out
          simp [marks]
          omega
    case stop =>
      rintro Dp c pre W _ _ h _
      exact h.elim

end Go.Proofs.Ytbcgoboeeigcgaa
