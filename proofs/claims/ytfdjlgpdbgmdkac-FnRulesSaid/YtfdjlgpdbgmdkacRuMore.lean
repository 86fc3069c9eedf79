/- Contracts: the table for one disc more. -/
import Derived.Test.YtfdjlgpdbgmdkacRuWay
namespace Go.Proofs.Ytfdjlgpdbgmdkac
open Go.RowKit Go.Shelf
set_option linter.unusedVariables false
set_option linter.unusedSimpArgs false
attribute [local go_sem] Oper.semAt_some

/-- The least number of a way, and the table after the pairs that have come. -/
def mV (a : Int → Int → Bool) (c : Nat → Int) (i j : Int) : Int := min (wOne a c i j) (wTwo a c i j)
def mP (a : Int → Int → Bool) (c : Nat → Int) (pre : List PP) : Nat → Int := pre.foldl (fun f x k => if k = ixP x.i x.j then mV a c x.i x.j else f k) (fun _ => 0)
theorem mP_next (a : Int → Int → Bool) (c : Nat → Int) (pre : List PP) (x : PP) : mP a c (pre ++ [x]) = fun k => if k = ixP x.i x.j then mV a c x.i x.j else mP a c pre k := by
  unfold mP
  rw [List.foldl_append]
  rfl
/-- The table for one disc more. -/
def moreT (a : Int → Int → Bool) (c : Nat → Int) : Nat → Int := mP a c ppAll

set_option maxRecDepth 100000 in
set_option maxHeartbeats 4000000 in
theorem withOneMore_calls (r c : Nat → Int) (hc : ∀ k, 0 ≤ c k ∧ c k ≤ 1000000) (w : World) :
    Calls Try.prog 50 #[.agg (z9 c), .iface 26 (.agg (z9 r))] w fun e w' => e = .returned (.agg (z9 (moreT (alR r) c))) ∧ Below w.heap.size w w' := by
  have HC := Lib.hid hc
  clear hc
  refine (callsIn_wide (n := 6)).1 ?_
  refine callsIn_of_wp_marks Try.func50 rfl trivial ?_ rfl
  simp only [Try.ntmps50, List.size_toArray, List.length_cons, List.length_nil, Nat.reduceAdd, Nat.reduceSub, Array.replicate_succ, Array.replicate_zero, List.push_toArray, List.append_toArray, List.nil_append, List.cons_append]
  have T1 := (((Box.new w 54 (z9 c)).alloc (.cells #[.iface 26 (.agg (z9 r))] 64)).alloc (.cells (z9 (fun _ => 0)) 54)).alloc (.cells (z9 (fun _ => 0)) 54)
  have D1 := ((Box.new (w.alloc (.cells (z9 c) 54)) 64 #[.iface 26 (.agg (z9 r))]).alloc (.cells (z9 (fun _ => 0)) 54)).alloc (.cells (z9 (fun _ => 0)) 54)
  have Q1 := (Box.new ((w.alloc (.cells (z9 c) 54)).alloc (.cells #[.iface 26 (.agg (z9 r))] 64)) 54 (z9 (fun _ => 0))).alloc (.cells (z9 (fun _ => 0)) 54)
  have R0 := Box.new (((w.alloc (.cells (z9 c) 54)).alloc (.cells #[.iface 26 (.agg (z9 r))] 64)).alloc (.cells (z9 (fun _ => 0)) 54)) 54 (z9 (fun _ => 0))
  simp only [World.size_alloc] at T1 D1 Q1 R0
  have B0 : Below w.heap.size w ((((w.alloc (.cells (z9 c) 54)).alloc (.cells #[.iface 26 (.agg (z9 r))] 64)).alloc (.cells (z9 (fun _ => 0)) 54)).alloc (.cells (z9 (fun _ => 0)) 54)) := ((((Below.refl _ _).alloc (Nat.le_refl _) _).alloc (by simp) _).alloc (by simp; omega) _).alloc (by simp; omega) _
  gi_wp2_with (refine ⟨trivial, ?_⟩; gi_at_call 53; refine (pegPairs_calls _ _).mono ?_; rintro e w' ⟨rfl, rfl⟩)
  change Box _ _ _ (z9 (mP (alR r) c [])) at R0
  refine wpIn_rangeFunc_ownG rfl (by omega) (gf := 59) (lb := #[]) rfl trivial (enters_of Try.func59 (by kernel_rfl) rfl)
    (pegPairs_stops _ (by omega) _) (fun _ _ => trivial) (fun _ _ _ _ _ _ _ _ => trivial) (Below.refl _ _) (fun _ => rfl)
    (fun pre W => (((Box W (w.heap.size + 1 + 1 + 1) 54 (z9 (mP (alR r) c pre)) ∧ Box W w.heap.size 54 (z9 c)) ∧ Box W (w.heap.size + 1) 64 #[.iface 26 (.agg (z9 r))]) ∧ Box W (w.heap.size + 1 + 1) 54 (z9 (fun _ => 0))) ∧ Below w.heap.size w W)
    (fun _ _ _ => False)
    (OwnFrom.and (OwnFrom.and (OwnFrom.and (OwnFrom.and (Own.from (box_ownS _ _ (fun pre : List PP => z9 (mP (alR r) c pre))) _) (Own.from (box_own _ _ _) _)) (Own.from (box_own _ _ _) _)) (Own.from (box_own _ _ _) _)) (ownFrom_below (Nat.le_refl _) (by simp; omega)))
    (fun _ _ _ _ _ hs _ _ => hs)
    ⟨⟨⟨⟨R0, T1⟩, D1⟩, Q1⟩, B0⟩
    (fun x => { tmps := #[.agg (z9 c), .iface 26 (.agg (z9 r)), .pointer (some ⟨w.heap.size, 0, none⟩), .pointer (some ⟨w.heap.size + 1, 0, none⟩), .pointer (some ⟨w.heap.size + 1 + 1, 0, none⟩), .pointer (some ⟨w.heap.size + 1 + 1 + 1, 0, none⟩), .int .i64 x.i, .int .i64 x.j, undef, undef, .func (.func 59) #[] #[], .int .i64 x.i, .int .i64 x.j, undef, undef, undef, undef, undef, undef, undef, undef, undef, undef, undef, undef, undef, undef, undef, undef, undef], defers := [] }) ?assign ?body ?done ?stop
  case assign =>
    intro l x W K hK
    gi_wp2
    simpa [ppV, z9] using hK
  case body =>
    rintro l pre x W ⟨⟨⟨⟨hr, ht⟩, hd⟩, hq⟩, hB⟩ hlt
    obtain ⟨xi, xj, hi, hj, hne⟩ := x
    obtain ⟨c0, f0⟩ := hd.one
    obtain ⟨x0, x1, x2, x3, x4, x5, x6, x7, x8⟩ := ht.nine
    have hsz := hr.lt
    have HR := Lib.hid hr
    have HT := Lib.hid ht
    have HD := Lib.hid hd
    have HQ := Lib.hid hq
    have HB := Lib.hid hB
    clear hr hd hq hB ht
    dsimp only
    gi_wp2_with (refine ⟨trivial, ?_⟩; gi_at_call 58; refine (callsIn_wide.2 (wayNumbers_calls r c xi xj hi hj HC.out _ hne)).mono ?_; rintro e w1 ⟨rfl, hb⟩; have HR1 := Lib.hid (HR.out.below hb HR.out.lt); have HT1 := Lib.hid (HT.out.below hb HT.out.lt); have HD1 := Lib.hid (HD.out.below hb HD.out.lt); have HQ1 := Lib.hid (HQ.out.below hb HQ.out.lt); have HB1 := Lib.hid (HB.out.trans (hb.mono HB.out.size)); have KB := Lib.hid (keepsOthers_of_below hb); clear hb; obtain ⟨v, hv⟩ := HR1.out.at9 (k := xi.toNat * 3 + xj.toNat) (by omega); have hfz := HR1.out.frozen (xi.toNat * 3 + xj.toNat))
    all_goals
      refine ⟨(KB.out.trans (KeepsOthers.setCell _ _ _)).from _, trivial, ?_, HB1.out.setCell (by simp; omega) _⟩
      refine ⟨⟨⟨?_, HT1.out.other (by simp; omega) _⟩, HD1.out.other (by simp) _⟩, HQ1.out.other (by simp) _⟩
      rw [mP_next]
      first
      | rw [show wTwo (alR r) c xi xj = mV (alR r) c xi xj by unfold mV; omega]
      | rw [show wOne (alR r) c xi xj = mV (alR r) c xi xj by unfold mV; omega]
      exact HR1.out.setz (k := xi.toNat * 3 + xj.toNat) (by omega) (mV (alR r) c xi xj)
  case done =>
    rintro Dp ys W hDp rfl ⟨⟨⟨⟨hr, ht⟩, hd⟩, hq⟩, hB⟩ hK
    obtain ⟨x0, x1, x2, x3, x4, x5, x6, x7, x8⟩ := hr.nine
    obtain ⟨y0, y1, y2, y3, y4, y5, y6, y7, y8⟩ := hq.nine
    obtain ⟨f0, f1, f2, f3, f4, f5, f6, f7, f8⟩ := hq.frozen9
    clear ht hd
    gi_wp2
    have hsz := hq.lt
    have hDq : w.heap.size + 1 + 1 ≠ Dp := by simp at hDp; omega
    have hbx := hq.set9 (mP (alR r) c ppAll)
    have hK9 := (set9_other W _ Dp (mP (alR r) c ppAll) hDq).trans hK
    have hB9 := below_set9 hB (b := w.heap.size + 1 + 1) (by omega) (mP (alR r) c ppAll)
    change bodyPostM _ _ _ _ _ _ _ (set9 W (w.heap.size + 1 + 1) (mP (alR r) c ppAll))
    generalize set9 W (w.heap.size + 1 + 1) (mP (alR r) c ppAll) = W9 at *
    refine ⟨by simp, .inl ⟨_, _, rfl, run_takeDeferred hK9, ?_⟩⟩
    refine ⟨_, results_cell_row rfl _ _ (w.heap.size + 1 + 1) 54 (z9 (mP (alR r) c ppAll)) (0, 0) _ rfl ((World.putObj_heap_other hDq).trans hbx) Try.underlying54 rfl (by kernel_rfl), rfl, hB9.trans (belowK_b (w := w) (Nat.le_refl _) W9 Dp _ _ (by simp at hDp; omega) hK9 rfl rfl)⟩
  case stop =>
    rintro Dp c' pre W _ _ h _
    exact h.elim

end Go.Proofs.Ytfdjlgpdbgmdkac
