/- Contracts: the walk of the great law FnRules, of a code of at most 4096 bytes. -/
import Derived.Test.YtfdjlgpdbgmdkacDrawRu
import Derived.Deep.Cut
import Derived.Test.YtfdjlgpdbgmdkacFrA
import Derived.Test.YtfdjlgpdbgmdkacGreat
import Derived.BigQuiet
import Derived.IntWalk
import Derived.Deep.RegionHeld3
namespace Go.Proofs.Ytfdjlgpdbgmdkac
open Go.RowKit
set_option linter.unusedVariables false

theorem results_row4 {P : Program} {fn : Func} {p q q2 q3 : Tmp} {ty : TypeId} (h : fn.results = #[.cell p ty, .tmp q, .tmp q2, .tmp q3]) (tmps : Array Value) (w : World) (g : Nat) (t : TypeId) (cs : Array Value) (fr : Nat × Nat) (d : TypeDesc)
    (hp : tmps.getD p undef = .pointer (some ⟨g, 0, none⟩)) (hg : w.heap[g]? = some (.cells cs t fr))
    (hu : P.underlying ty = some d) (hd : (match d with | .struct _ | .array _ _ => true | _ => false) = true) (hi : (P.info? ty).map (·.size) = some cs.size) :
    (results fn tmps).run P w = .ok (.tuple #[.agg cs, tmps.getD q undef, tmps.getD q2 undef, tmps.getD q3 undef]) w := by
  have hp' : tmps[p]?.getD undef = .pointer (some ⟨g, 0, none⟩) := by simpa using hp
  simp [results, h, hp', asAddr, run_loadVar_row w g t ty cs fr d hg hu hd hi]
theorem own_set9 {B b n c : Nat} {w : World} {A : Option Addr} {L : List Int} (h : Own B w A n c L) (hb : b < B) (r : Nat → Int) : Own B (set9 w b r) A n c L :=
  OwnG.setBelow (OwnG.setBelow (OwnG.setBelow (OwnG.setBelow (OwnG.setBelow (OwnG.setBelow (OwnG.setBelow (OwnG.setBelow (OwnG.setBelow h hb _) hb _) hb _) hb _) hb _) hb _) hb _) hb _) hb _
/-- Rules that have been drawn. -/
def RetDu (w : World) (e : Ending) (w' : World) : Prop := ∃ r : Nat → Int, e = .returned (.agg (z9 r)) ∧ RB r ∧ Below w.heap.size w w'

set_option maxRecDepth 100000 in
set_option maxHeartbeats 1000000 in
theorem DrawAreStrong_ret (A : Option Addr) (n c : Nat) (w : World) (hn : n ≤ 4096) (hA : By w A n) (hl : ∀ ad, A = some ad → 0 < n → ad.block < w.heap.size) :
    Calls Try.prog 19 #[.slice A n c] w (RetDu w) := by
  have X0 := Lib.hid (Box.new w 26 (z9 (fun _ => 0)))
  have HB0 := Lib.hid ((Below.refl w.heap.size w).alloc (Nat.le_refl _) (.cells (z9 (fun _ => 0)) 26))
  have hA0 := Lib.hid (hA.below HB0.out)
  have hl0 : Hid (∀ ad, A = some ad → 0 < n → ad.block < (w.alloc (.cells (z9 (fun _ => 0)) 26)).heap.size) := fun ad e h0 => by rw [World.size_alloc]; exact Nat.lt_succ_of_lt (hl ad e h0)
  have hs0 : (w.alloc (.cells (z9 (fun _ => 0)) 26)).heap.size = w.heap.size + 1 := by simp
  go_enter Try.func19, Try.ntmps19
  go_wp2_with fail
  refine (l01From_calls A n c (w.alloc (.cells (z9 (fun _ => 0)) 26)) hn hA0.out hl0.out).mono ?_
  rintro e w1 ⟨g, rfl, hgB, hS, hb⟩
  have HS1 := Lib.hid hS
  have hz1 := hb.size
  have X1 := Lib.hid (X0.out.below hb X0.out.lt)
  have HB1 := Lib.hid (HB0.out.trans (hb.mono HB0.out.size))
  rw [hs0] at hgB hz1
  clear hS hb X0 HB0 hA0 hl0 hs0
  go_wp2_with fail
  refine (l07Draw_ret g A n c w1 hn HS1.out).mono ?_
  rintro e w2 ⟨r, rfl, hR, hS, hG⟩
  have RBr := Lib.hid hR
  have hz2 := hG.size
  have X2 := Lib.hid (X1.out.grown hG (by intro e; injection e with e; omega))
  have HS2 := Lib.hid hS
  have HB2 := Lib.hid (HB1.out.trans (grown_below hG (by omega) (by omega)))
  clear hR hS hG X1 HS1 HB1
  obtain ⟨y0, y1, y2, y3, y4, y5, y6, y7, y8⟩ := X2.out.nine
  obtain ⟨f0, f1, f2, f3, f4, f5, f6, f7, f8⟩ := X2.out.frozen9
  unfold z9
  go_wp2
  clear y0 y1 y2 y3 y4 y5 y6 y7 y8 f0 f1 f2 f3 f4 f5 f6 f7 f8
  have hbx := Lib.hid (X2.out.set9 r)
  have hb9 := Lib.hid (below_set9 HB2.out (b := w.heap.size) (Nat.le_refl _) r)
  change bodyPost _ _ _ _ _ (set9 _ w.heap.size r)
  generalize set9 _ w.heap.size r = w9 at *
  refine bodyPost_ret (results_row1 rfl _ _ w.heap.size 26 (z9 r) (0, 0) _ rfl hbx.out Try.underlying26 rfl (by kernel_rfl)) rfl ⟨r, rfl, RBr.out, hb9.out⟩

set_option maxRecDepth 100000 in
set_option maxHeartbeats 1000000 in
theorem DrawTurnRules_ret (A : Option Addr) (n c : Nat) (w : World) (hn : n ≤ 4096) (hA : By w A n) (hl : ∀ ad, A = some ad → 0 < n → ad.block < w.heap.size) :
    Calls Try.prog 22 #[.slice A n c] w (RetDu w) := by
  have X0 := Lib.hid (Box.new w 26 (z9 (fun _ => 0)))
  have HB0 := Lib.hid ((Below.refl w.heap.size w).alloc (Nat.le_refl _) (.cells (z9 (fun _ => 0)) 26))
  have hA0 := Lib.hid (hA.below HB0.out)
  have hl0 : Hid (∀ ad, A = some ad → 0 < n → ad.block < (w.alloc (.cells (z9 (fun _ => 0)) 26)).heap.size) := fun ad e h0 => by rw [World.size_alloc]; exact Nat.lt_succ_of_lt (hl ad e h0)
  have hs0 : (w.alloc (.cells (z9 (fun _ => 0)) 26)).heap.size = w.heap.size + 1 := by simp
  go_enter Try.func22, Try.ntmps22
  go_wp2_with fail
  refine (l01From_calls A n c (w.alloc (.cells (z9 (fun _ => 0)) 26)) hn hA0.out hl0.out).mono ?_
  rintro e w1 ⟨g, rfl, hgB, hS, hb⟩
  have HS1 := Lib.hid hS
  have hz1 := hb.size
  have X1 := Lib.hid (X0.out.below hb X0.out.lt)
  have HB1 := Lib.hid (HB0.out.trans (hb.mono HB0.out.size))
  rw [hs0] at hgB hz1
  clear hS hb X0 HB0 hA0 hl0 hs0
  go_wp2_with fail
  refine (l07Draw_ret g A n c w1 hn HS1.out).mono ?_
  rintro e w2 ⟨r, rfl, hR, hS, hG⟩
  have RBr := Lib.hid hR
  have hz2 := hG.size
  have X2 := Lib.hid (X1.out.grown hG (by intro e; injection e with e; omega))
  have HS2 := Lib.hid hS
  have HB2 := Lib.hid (HB1.out.trans (grown_below hG (by omega) (by omega)))
  clear hR hS hG X1 HS1 HB1
  obtain ⟨y0, y1, y2, y3, y4, y5, y6, y7, y8⟩ := X2.out.nine
  obtain ⟨f0, f1, f2, f3, f4, f5, f6, f7, f8⟩ := X2.out.frozen9
  unfold z9
  go_wp2
  clear y0 y1 y2 y3 y4 y5 y6 y7 y8 f0 f1 f2 f3 f4 f5 f6 f7 f8
  have hbx := Lib.hid (X2.out.set9 r)
  have hb9 := Lib.hid (below_set9 HB2.out (b := w.heap.size) (Nat.le_refl _) r)
  change bodyPost _ _ _ _ _ (set9 _ w.heap.size r)
  generalize set9 _ w.heap.size r = w9 at *
  refine bodyPost_ret (results_row1 rfl _ _ w.heap.size 26 (z9 r) (0, 0) _ rfl hbx.out Try.underlying26 rfl (by kernel_rfl)) rfl ⟨r, rfl, RBr.out, hb9.out⟩

def RetDt (w : World) (e : Ending) (w' : World) : Prop := ∃ (r : Nat → Int) (m : Int), e = .returned (.tuple #[.agg (z9 r), .int .i64 m]) ∧ RB r ∧ Below w.heap.size w w'
def RetDo (w : World) (e : Ending) (w' : World) : Prop := ∃ (r : Nat → Int) (A' : Option Addr) (m c' : Nat) (L : List Int), e = .returned (.tuple #[.agg (z9 r), .slice A' m c']) ∧ RB r ∧ Own w.heap.size w' A' m c' L ∧ m ≤ 7 ∧ Below w.heap.size w w'
def RetD4 (w : World) (e : Ending) (w' : World) : Prop := ∃ (r : Nat → Int) (m i j : Int), e = .returned (.tuple #[.agg (z9 r), .int .i64 m, .int .i64 i, .int .i64 j]) ∧ RB r ∧ Below w.heap.size w w'

set_option maxRecDepth 100000 in
set_option maxHeartbeats 1000000 in
theorem DrawTableByRules_ret (A : Option Addr) (n c : Nat) (w : World) (hn : n ≤ 4096) (hA : By w A n) (hl : ∀ ad, A = some ad → 0 < n → ad.block < w.heap.size) :
    Calls Try.prog 5 #[.slice A n c] w (RetDt w) := by
  have X0 := Lib.hid (Box.new w 26 (z9 (fun _ => 0)))
  have HB0 := Lib.hid ((Below.refl w.heap.size w).alloc (Nat.le_refl _) (.cells (z9 (fun _ => 0)) 26))
  have hA0 := Lib.hid (hA.below HB0.out)
  have hl0 : Hid (∀ ad, A = some ad → 0 < n → ad.block < (w.alloc (.cells (z9 (fun _ => 0)) 26)).heap.size) := fun ad e h0 => by rw [World.size_alloc]; exact Nat.lt_succ_of_lt (hl ad e h0)
  have hs0 : (w.alloc (.cells (z9 (fun _ => 0)) 26)).heap.size = w.heap.size + 1 := by simp
  go_enter Try.func5, Try.ntmps5
  go_wp2_with fail
  refine (l01From_calls A n c (w.alloc (.cells (z9 (fun _ => 0)) 26)) hn hA0.out hl0.out).mono ?_
  rintro e w1 ⟨g, rfl, hgB, hS, hb⟩
  have HS1 := Lib.hid hS
  have hz1 := hb.size
  have X1 := Lib.hid (X0.out.below hb X0.out.lt)
  have HB1 := Lib.hid (HB0.out.trans (hb.mono HB0.out.size))
  rw [hs0] at hgB hz1
  clear hS hb X0 HB0 hA0 hl0 hs0
  go_wp2_with fail
  refine (l07Draw_ret g A n c w1 hn HS1.out).mono ?_
  rintro e w2 ⟨r, rfl, hR, hS, hG⟩
  have RBr := Lib.hid hR
  have hz2 := hG.size
  have X2 := Lib.hid (X1.out.grown hG (by intro e; injection e with e; omega))
  have HS2 := Lib.hid hS
  have HB2 := Lib.hid (HB1.out.trans (grown_below hG (by omega) (by omega)))
  clear hR hS hG X1 HS1 HB1
  have O2 := Lib.hid (Box.new w2 26 (z9 r))
  have X3 := Lib.hid (X2.out.alloc (.cells (z9 r) 26))
  have HS3 := Lib.hid (HS2.out.alloc (.cells (z9 r) 26))
  have HB3 := Lib.hid (HB2.out.alloc HB2.out.size (.cells (z9 r) 26))
  have hob : w.heap.size < w2.heap.size := X2.out.lt
  have hgo : g < w2.heap.size := HS2.out.lt
  clear X2 HS2 HB2
  unfold z9
  go_upto_region 3 with (fail)
  change Code.wp _ _ _ _ (w2.alloc (.cells (z9 r) 26))
  generalize w2.alloc (.cells (z9 r) 26) = wo at *
  have hzo := O2.out.lt
  generalize w2.heap.size = ob at *
  obtain ⟨x0, x1, x2, x3, x4, x5, x6, x7, x8⟩ := O2.out.nine
  have hxo := X3.out.lt
  go_region_law (go_simp; go_at_call 28; refine (l01Near_calls g A n c 8 _ hn (by omega) (by omega) (Src.drews HS3.out)).mono ?_; rintro e w' ⟨m, rfl, _, hS, hG⟩; have Xn := X3.out.grown (w' := w') (w := wo.drew) hG (by intro e; injection e with e; omega); have On := O2.out.grown (w' := w') (w := wo.drew) hG (by intro e; injection e with e; omega); obtain ⟨u0, u1, u2, u3, u4, u5, u6, u7, u8⟩ := On.nine; obtain ⟨y0, y1, y2, y3, y4, y5, y6, y7, y8⟩ := Xn.nine; obtain ⟨f0, f1, f2, f3, f4, f5, f6, f7, f8⟩ := Xn.frozen9; try dsimp only)
  all_goals (
    have Xm := Lib.hid Xn
    have HBm := Lib.hid (HB3.out.drew.trans (grown_below hG (by omega) (show w.heap.size ≤ wo.drew.heap.size from Nat.le_of_lt hxo)))
    skip
    clear Xn On hG u0 u1 u2 u3 u4 u5 u6 u7 u8 y0 y1 y2 y3 y4 y5 y6 y7 y8 f0 f1 f2 f3 f4 f5 f6 f7 f8 x0 x1 x2 x3 x4 x5 x6 x7 x8 X3 O2 HS3 HB3
    go_wp2
    have hbx := Lib.hid (Xm.out.set9 r)
    have hb9 := Lib.hid (below_set9 HBm.out (b := w.heap.size) (Nat.le_refl _) r)
    change bodyPost _ _ _ _ _ (set9 _ w.heap.size r)
    generalize set9 _ w.heap.size r = w9 at *
    refine bodyPost_ret (results_row_tmp rfl _ _ w.heap.size 26 (z9 r) (0, 0) _ rfl hbx.out Try.underlying26 rfl (by kernel_rfl)) rfl ⟨r, m, rfl, RBr.out, hb9.out⟩)

set_option maxRecDepth 100000 in
set_option maxHeartbeats 1000000 in
theorem DrawRenameRules_ret (A : Option Addr) (n c : Nat) (w : World) (hn : n ≤ 4096) (hA : By w A n) (hl : ∀ ad, A = some ad → 0 < n → ad.block < w.heap.size) :
    Calls Try.prog 24 #[.slice A n c] w (RetDo w) := by
  have X0 := Lib.hid (Box.new w 26 (z9 (fun _ => 0)))
  have HB0 := Lib.hid ((Below.refl w.heap.size w).alloc (Nat.le_refl _) (.cells (z9 (fun _ => 0)) 26))
  have hA0 := Lib.hid (hA.below HB0.out)
  have hl0 : Hid (∀ ad, A = some ad → 0 < n → ad.block < (w.alloc (.cells (z9 (fun _ => 0)) 26)).heap.size) := fun ad e h0 => by rw [World.size_alloc]; exact Nat.lt_succ_of_lt (hl ad e h0)
  have hs0 : (w.alloc (.cells (z9 (fun _ => 0)) 26)).heap.size = w.heap.size + 1 := by simp
  go_enter Try.func24, Try.ntmps24
  go_wp2_with fail
  refine (l01From_calls A n c (w.alloc (.cells (z9 (fun _ => 0)) 26)) hn hA0.out hl0.out).mono ?_
  rintro e w1 ⟨g, rfl, hgB, hS, hb⟩
  have HS1 := Lib.hid hS
  have hz1 := hb.size
  have X1 := Lib.hid (X0.out.below hb X0.out.lt)
  have HB1 := Lib.hid (HB0.out.trans (hb.mono HB0.out.size))
  rw [hs0] at hgB hz1
  clear hS hb X0 HB0 hA0 hl0 hs0
  go_wp2_with fail
  refine (l07Draw_ret g A n c w1 hn HS1.out).mono ?_
  rintro e w2 ⟨r, rfl, hR, hS, hG⟩
  have RBr := Lib.hid hR
  have hz2 := hG.size
  have X2 := Lib.hid (X1.out.grown hG (by intro e; injection e with e; omega))
  have HS2 := Lib.hid hS
  have HB2 := Lib.hid (HB1.out.trans (grown_below hG (by omega) (by omega)))
  clear hR hS hG X1 HS1 HB1
  have O2 := Lib.hid (Box.new w2 26 (z9 r))
  have X3 := Lib.hid (X2.out.alloc (.cells (z9 r) 26))
  have HS3 := Lib.hid (HS2.out.alloc (.cells (z9 r) 26))
  have HB3 := Lib.hid (HB2.out.alloc HB2.out.size (.cells (z9 r) 26))
  have hob : w.heap.size < w2.heap.size := X2.out.lt
  have hgo : g < w2.heap.size := HS2.out.lt
  clear X2 HS2 HB2
  unfold z9
  go_upto_region 3 with (fail)
  change Code.wp _ _ _ _ (w2.alloc (.cells (z9 r) 26))
  generalize w2.alloc (.cells (z9 r) 26) = wo at *
  have hzo := O2.out.lt
  generalize w2.heap.size = ob at *
  obtain ⟨x0, x1, x2, x3, x4, x5, x6, x7, x8⟩ := O2.out.nine
  have hxo := X3.out.lt
  go_region_law (go_simp; go_at_call 44; refine (l01DrawOrder_ret g A n c 3 _ hn (Src.drews HS3.out) (by omega) (by omega)).mono ?_; rintro e w' ⟨A', m, c', L, rfl, hO, hm, hS, hG⟩; have Xn := X3.out.grown (w' := w') (w := wo.drew) hG (by intro e; injection e with e; omega); have On := O2.out.grown (w' := w') (w := wo.drew) hG (by intro e; injection e with e; omega); obtain ⟨u0, u1, u2, u3, u4, u5, u6, u7, u8⟩ := On.nine; obtain ⟨y0, y1, y2, y3, y4, y5, y6, y7, y8⟩ := Xn.nine; obtain ⟨f0, f1, f2, f3, f4, f5, f6, f7, f8⟩ := Xn.frozen9; try dsimp only)
  all_goals (
    have Xm := Lib.hid Xn
    have HBm := Lib.hid (HB3.out.drew.trans (grown_below hG (by omega) (show w.heap.size ≤ wo.drew.heap.size from Nat.le_of_lt hxo)))
    have hO9 := Lib.hid (own_set9 hO (show w.heap.size < wo.drew.heap.size from hxo) r)
    clear hO
    clear Xn On hG u0 u1 u2 u3 u4 u5 u6 u7 u8 y0 y1 y2 y3 y4 y5 y6 y7 y8 f0 f1 f2 f3 f4 f5 f6 f7 f8 x0 x1 x2 x3 x4 x5 x6 x7 x8 X3 O2 HS3 HB3
    go_wp2
    have hbx := Lib.hid (Xm.out.set9 r)
    have hb9 := Lib.hid (below_set9 HBm.out (b := w.heap.size) (Nat.le_refl _) r)
    change bodyPost _ _ _ _ _ (set9 _ w.heap.size r)
    generalize set9 _ w.heap.size r = w9 at *
    refine bodyPost_ret (results_row_tmp rfl _ _ w.heap.size 26 (z9 r) (0, 0) _ rfl hbx.out Try.underlying26 rfl (by kernel_rfl)) rfl ⟨r, A', m, c', L, rfl, RBr.out, hO9.out.mono (show w.heap.size ≤ wo.drew.heap.size from Nat.le_of_lt hxo), hm, hb9.out⟩)

set_option maxRecDepth 100000 in
set_option maxHeartbeats 2000000 in
theorem l07With_ret (A : Option Addr) (n c : Nat) (w : World) (hn : n ≤ 4096) (hA : By w A n) (hl : ∀ ad, A = some ad → 0 < n → ad.block < w.heap.size) :
    Calls Try.prog 39 #[.slice A n c, .int .i64 8] w (RetD4 w) := by
  have X0 := Lib.hid (Box.new w 26 (z9 (fun _ => 0)))
  have HB0 := Lib.hid ((Below.refl w.heap.size w).alloc (Nat.le_refl _) (.cells (z9 (fun _ => 0)) 26))
  have hA0 := Lib.hid (hA.below HB0.out)
  have hl0 : Hid (∀ ad, A = some ad → 0 < n → ad.block < (w.alloc (.cells (z9 (fun _ => 0)) 26)).heap.size) := fun ad e h0 => by rw [World.size_alloc]; exact Nat.lt_succ_of_lt (hl ad e h0)
  have hs0 : (w.alloc (.cells (z9 (fun _ => 0)) 26)).heap.size = w.heap.size + 1 := by simp
  go_enter Try.func39, Try.ntmps39
  go_wp2_with fail
  refine (l01From_calls A n c (w.alloc (.cells (z9 (fun _ => 0)) 26)) hn hA0.out hl0.out).mono ?_
  rintro e w1 ⟨g, rfl, hgB, hS, hb⟩
  have HS1 := Lib.hid hS
  have hz1 := hb.size
  have X1 := Lib.hid (X0.out.below hb X0.out.lt)
  have HB1 := Lib.hid (HB0.out.trans (hb.mono HB0.out.size))
  rw [hs0] at hgB hz1
  clear hS hb X0 HB0 hA0 hl0 hs0
  go_wp2_with fail
  refine (l07Draw_ret g A n c w1 hn HS1.out).mono ?_
  rintro e w2 ⟨r, rfl, hR, hS, hG⟩
  have RBr := Lib.hid hR
  have hz2 := hG.size
  have X2 := Lib.hid (X1.out.grown hG (by intro e; injection e with e; omega))
  have HS2 := Lib.hid hS
  have HB2 := Lib.hid (HB1.out.trans (grown_below hG (by omega) (by omega)))
  clear hR hS hG X1 HS1 HB1
  have O2 := Lib.hid (Box.new w2 26 (z9 r))
  have X3 := Lib.hid (X2.out.alloc (.cells (z9 r) 26))
  have HS3 := Lib.hid (HS2.out.alloc (.cells (z9 r) 26))
  have HB3 := Lib.hid (HB2.out.alloc HB2.out.size (.cells (z9 r) 26))
  have hob : w.heap.size < w2.heap.size := X2.out.lt
  have hgo : g < w2.heap.size := HS2.out.lt
  clear X2 HS2 HB2
  unfold z9
  go_wp2_with fail
  refine (l01Next_calls g A n c 9 (w2.alloc (.cells (z9 r) 26)) hn HS3.out).mono ?_
  rintro e w4 ⟨m, rfl, hm, hS, hG⟩
  generalize w2.heap.size = ob at *
  have O := Lib.hid (O2.out.grown hG (by intro e; injection e with e; omega))
  have X := Lib.hid (X3.out.grown hG (by intro e; injection e with e; omega))
  have HS := Lib.hid hS
  have HB := Lib.hid (HB3.out.trans (grown_below hG (by omega) HB3.out.size))
  clear hS hG O2 X3 HS3 HB3 hm
  go_wp2_with fail
  refine (l01Near_calls g A n c 2 _ hn (by omega) (by omega) HS.out).mono ?_
  rintro e w5 ⟨i, rfl, hx, hS, hG⟩
  have O1 := Lib.hid (O.out.grown hG (by intro e; injection e with e; omega))
  have X1 := Lib.hid (X.out.grown hG (by intro e; injection e with e; omega))
  have HB1 := Lib.hid (HB.out.trans (grown_below hG (by omega) HB.out.size))
  clear O X HB HS
  have O := O1
  have X := X1
  have HB := HB1
  have HS := Lib.hid hS
  clear hS hG O1 X1 HB1 hx
  go_wp2_with fail
  refine (l01Next_calls g A n c 2 _ hn HS.out).mono ?_
  rintro e w6 ⟨x, rfl, hx, hS, hG⟩
  have O1 := Lib.hid (O.out.grown hG (by intro e; injection e with e; omega))
  have X1 := Lib.hid (X.out.grown hG (by intro e; injection e with e; omega))
  have HB1 := Lib.hid (HB.out.trans (grown_below hG (by omega) HB.out.size))
  clear O X HB HS
  have O := O1
  have X := X1
  have HB := HB1
  have HS := Lib.hid hS
  clear hS hG O1 X1 HB1 hx
  go_wp2_with fail
  refine (l01Next_calls g A n c 24 _ hn HS.out).mono ?_
  rintro e w7 ⟨y, rfl, hx, hS, hG⟩
  have O1 := Lib.hid (O.out.grown hG (by intro e; injection e with e; omega))
  have X1 := Lib.hid (X.out.grown hG (by intro e; injection e with e; omega))
  have HB1 := Lib.hid (HB.out.trans (grown_below hG (by omega) HB.out.size))
  clear O X HB HS
  have O := O1
  have X := X1
  have HB := HB1
  have HS := Lib.hid hS
  clear hS hG O1 X1 HB1
  by_cases h0 : y = 0
  · subst h0
    clear hx
    obtain ⟨x0, x1, x2, x3, x4, x5, x6, x7, x8⟩ := O.out.nine
    obtain ⟨y0, y1, y2, y3, y4, y5, y6, y7, y8⟩ := X.out.nine
    obtain ⟨f0, f1, f2, f3, f4, f5, f6, f7, f8⟩ := X.out.frozen9
    go_wp2
    clear x0 x1 x2 x3 x4 x5 x6 x7 x8 y0 y1 y2 y3 y4 y5 y6 y7 y8 f0 f1 f2 f3 f4 f5 f6 f7 f8
    have hbx := Lib.hid (X.out.set9 r)
    have hb9 := Lib.hid (below_set9 HB.out (b := w.heap.size) (Nat.le_refl _) r)
    change bodyPost _ _ _ _ _ (set9 _ w.heap.size r)
    generalize set9 _ w.heap.size r = w9 at *
    refine bodyPost_ret (results_row4 rfl _ _ w.heap.size 26 (z9 r) (0, 0) _ rfl hbx.out Try.underlying26 rfl (by kernel_rfl)) rfl ⟨r, _, _, _, rfl, RBr.out, hb9.out⟩
  · have hy0 : (y == 0) = false := by simpa using h0
    by_cases h1 : y = 1
    · subst h1
      clear hx h0
      have hlt := HS.out.lt
      go_wp2_with fail
      refine (l01Pick_calls g A n c _ 2 _ [-1, 9] _ hn (by omega) (by omega) rfl (ints_new w7 2 _) (fun ad e => by injection e with e; subst e; exact Nat.ne_of_gt hlt) (HS.out.alloc _)).mono ?_
      rintro e w8 ⟨m2, rfl, _, hS, hG⟩
      have O1 := Lib.hid ((O.out.alloc _).grown hG (by intro e; injection e with e; omega))
      have X1 := Lib.hid ((X.out.alloc _).grown hG (by intro e; injection e with e; omega))
      have HB1 := Lib.hid ((HB.out.alloc HB.out.size _).trans (grown_below hG (by omega) (HB.out.alloc HB.out.size _).size))
      clear hS hG HS O X HB hlt
      have O := O1
      have X := X1
      have HB := HB1
      clear O1 X1 HB1
      obtain ⟨x0, x1, x2, x3, x4, x5, x6, x7, x8⟩ := O.out.nine
      obtain ⟨y0, y1, y2, y3, y4, y5, y6, y7, y8⟩ := X.out.nine
      obtain ⟨f0, f1, f2, f3, f4, f5, f6, f7, f8⟩ := X.out.frozen9
      go_wp2
      clear x0 x1 x2 x3 x4 x5 x6 x7 x8 y0 y1 y2 y3 y4 y5 y6 y7 y8 f0 f1 f2 f3 f4 f5 f6 f7 f8
      have hbx := Lib.hid (X.out.set9 r)
      have hb9 := Lib.hid (below_set9 HB.out (b := w.heap.size) (Nat.le_refl _) r)
      change bodyPost _ _ _ _ _ (set9 _ w.heap.size r)
      generalize set9 _ w.heap.size r = w9 at *
      refine bodyPost_ret (results_row4 rfl _ _ w.heap.size 26 (z9 r) (0, 0) _ rfl hbx.out Try.underlying26 rfl (by kernel_rfl)) rfl ⟨r, _, _, _, rfl, RBr.out, hb9.out⟩
    · have hy1 : (y == 1) = false := by simpa using h1
      clear hx
      obtain ⟨x0, x1, x2, x3, x4, x5, x6, x7, x8⟩ := O.out.nine
      obtain ⟨y0, y1, y2, y3, y4, y5, y6, y7, y8⟩ := X.out.nine
      obtain ⟨f0, f1, f2, f3, f4, f5, f6, f7, f8⟩ := X.out.frozen9
      go_wp2
      clear x0 x1 x2 x3 x4 x5 x6 x7 x8 y0 y1 y2 y3 y4 y5 y6 y7 y8 f0 f1 f2 f3 f4 f5 f6 f7 f8
      have hbx := Lib.hid (X.out.set9 r)
      have hb9 := Lib.hid (below_set9 HB.out (b := w.heap.size) (Nat.le_refl _) r)
      change bodyPost _ _ _ _ _ (set9 _ w.heap.size r)
      generalize set9 _ w.heap.size r = w9 at *
      refine bodyPost_ret (results_row4 rfl _ _ w.heap.size 26 (z9 r) (0, 0) _ rfl hbx.out Try.underlying26 rfl (by kernel_rfl)) rfl ⟨r, _, _, _, rfl, RBr.out, hb9.out⟩

set_option maxRecDepth 100000 in
set_option maxHeartbeats 1000000 in
theorem DrawNumberByRules_ret (A : Option Addr) (n c : Nat) (w : World) (hn : n ≤ 4096) (hA : By w A n) (hl : ∀ ad, A = some ad → 0 < n → ad.block < w.heap.size) :
    Calls Try.prog 15 #[.slice A n c] w (RetD4 w) := by
  have X0 := Lib.hid (Box.new w 26 (z9 (fun _ => 0)))
  have HB0 := Lib.hid ((Below.refl w.heap.size w).alloc (Nat.le_refl _) (.cells (z9 (fun _ => 0)) 26))
  have hA0 := Lib.hid (hA.below HB0.out)
  have hl0 : Hid (∀ ad, A = some ad → 0 < n → ad.block < (w.alloc (.cells (z9 (fun _ => 0)) 26)).heap.size) := fun ad e h0 => by rw [World.size_alloc]; exact Nat.lt_succ_of_lt (hl ad e h0)
  go_enter Try.func15, Try.ntmps15
  go_wp2_with fail
  refine (l07With_ret A n c (w.alloc (.cells (z9 (fun _ => 0)) 26)) hn hA0.out hl0.out).mono ?_
  rintro e w2 ⟨r, m, i, j, rfl, hR, hb⟩
  have RBr := Lib.hid hR
  have X2 := Lib.hid (X0.out.below hb X0.out.lt)
  have HB2 := Lib.hid (HB0.out.trans (hb.mono HB0.out.size))
  clear hR hb X0 HB0 hA0 hl0
  have O2 := Lib.hid (Box.new w2 26 (z9 r))
  have X3 := Lib.hid (X2.out.alloc (.cells (z9 r) 26))
  have HB3 := Lib.hid (HB2.out.alloc HB2.out.size (.cells (z9 r) 26))
  have hob : w.heap.size < w2.heap.size := X2.out.lt
  clear X2 HB2
  unfold z9
  go_upto_region 2 with (fail)
  change Code.wp _ _ _ _ (w2.alloc (.cells (z9 r) 26))
  generalize w2.alloc (.cells (z9 r) 26) = wo at *
  generalize w2.heap.size = ob at *
  obtain ⟨x0, x1, x2, x3, x4, x5, x6, x7, x8⟩ := O2.out.nine
  obtain ⟨y0, y1, y2, y3, y4, y5, y6, y7, y8⟩ := X3.out.nine
  obtain ⟨f0, f1, f2, f3, f4, f5, f6, f7, f8⟩ := X3.out.frozen9
  go_wp2
  clear x0 x1 x2 x3 x4 x5 x6 x7 x8 y0 y1 y2 y3 y4 y5 y6 y7 y8 f0 f1 f2 f3 f4 f5 f6 f7 f8
  have hbx := Lib.hid (X3.out.set9 r)
  have hb9 := Lib.hid (below_set9 HB3.out (b := w.heap.size) (Nat.le_refl _) r)
  change bodyPost _ _ _ _ _ (set9 _ w.heap.size r)
  generalize set9 _ w.heap.size r = w9 at *
  refine bodyPost_ret (results_row4 rfl _ _ w.heap.size 26 (z9 r) (0, 0) _ rfl hbx.out Try.underlying26 rfl (by kernel_rfl)) rfl ⟨r, m, i, j, rfl, RBr.out, hb9.out⟩

theorem Try.infoStr : (Try.prog.info? 9).map (fun i => (i.zero, i.size, i.bytes)) = some (some (.string ⟨#[]⟩), 1, 16) := by kernel_rfl
theorem own_bkS {e s B : Nat} {w : World} {A : Option Addr} {n c : Nat} {xs : List Value} (h : OwnG e s B w A n c xs) : ∀ k, (Value.slice A n c).ownBlock = some k → B ≤ k := fun k hk => by
  rcases h.form with ⟨rfl, _⟩ | ⟨g, rfl, hB, _⟩
  · cases hk
  · have hk' : some g = some k := hk
    injection hk' with hk'
    omega
/-- Three names more. -/
def nms3 : List Value := [.string ⟨#[]⟩, .string ⟨#[102, 97, 114]⟩, .string ⟨#[65, 108, 108]⟩]
theorem nms8_at {j : Nat} (h : j < 8) : ∃ s, (nmsV ++ nms3)[j]? = some (.string s) := by
  match j, h with
  | 0, _ => exact ⟨_, rfl⟩
  | 1, _ => exact ⟨_, rfl⟩
  | 2, _ => exact ⟨_, rfl⟩
  | 3, _ => exact ⟨_, rfl⟩
  | 4, _ => exact ⟨_, rfl⟩
  | 5, _ => exact ⟨_, rfl⟩
  | 6, _ => exact ⟨_, rfl⟩
  | 7, _ => exact ⟨_, rfl⟩
theorem nms3_new (w : World) (t : Nat) : ∀ j u, nms3[j]? = some u → (w.alloc (.cells nms3.toArray t)).cell? ((⟨w.heap.size, 0, none⟩ : Addr).add j) = some u := by
  intro j u hj
  rw [add_zeroO, (Box.new w t nms3.toArray).cell j]
  simpa using hj

set_option maxRecDepth 100000 in
set_option maxHeartbeats 1000000 in
theorem DrawNamedRules_calls (A : Option Addr) (n c : Nat) (w : World) (hn : n ≤ 4096) (hA : By w A n) (hl : ∀ ad, A = some ad → 0 < n → ad.block < w.heap.size) :
    Calls Try.prog 17 #[.slice A n c] w fun e w' => ∃ s : ByteArray, e = .returned (.string s) ∧ Below w.heap.size w w' := by
  obtain ⟨i0, hi, hz0, hz1, hz2⟩ := info_parts Try.infoStr
  go_enter Try.func17, Try.ntmps17
  go_wp2_with fail
  refine (l01From_calls A n c w hn hA hl).mono ?_
  rintro e w1 ⟨g, rfl, hgB, hS, hb⟩
  have HS1 := Lib.hid hS
  have HB1 := Lib.hid hb
  have hz1q := hb.size
  have hg1 := hS.lt
  clear hS hb
  go_wp2_with fail
  refine (l07Names_calls w1).mono ?_
  rintro e w2 ⟨gN, rfl, hN, hb, hgN⟩
  have HN2 := Lib.hid hN
  have HS2 := Lib.hid (HS1.out.below hb)
  have HB2 := Lib.hid (HB1.out.trans (hb.mono HB1.out.size))
  have hz2q := hb.size
  clear hN hb HS1 HB1
  obtain ⟨AN, hAN⟩ : ∃ AN : Option Addr, some (⟨gN, 0, none⟩ : Addr) = AN := ⟨_, rfl⟩
  rw [hAN] at HN2 ⊢
  clear hAN
  go_wp2_with (at_builtin; refine Hid.out ?_)
  refine Lib.hid ?_
  (refine wpList_append_own _ rfl _ _ 71 rfl w1.heap.size 9 i0 (.string ⟨#[]⟩) 1 16 Try.underlying71 hi hz0 hz1 hz2 rfl (by decide) _ _ _ rfl (OwnG.alloc HN2.out (.cells nms3.toArray 9)) ⟨w2.heap.size, 0, none⟩ 3 3 nms3 rfl rfl (nms3_new w2 9) (by decide) (by unfold maxLen; omega) (by omega) (by simp; omega) ?_; intro v' w4 hown' hgrow _; obtain ⟨A4, c4, rfl⟩ := ownG_shape hown'; have HO4 := Lib.hid hown'; have HG4 := Lib.hid hgrow; clear hown' hgrow)
  have HS4 := Lib.hid ((HS2.out.alloc (.cells nms3.toArray 9)).grownHi HG4.out (fun k hk => by have := own_bkS HN2.out k hk; omega))
  have HB4 := Lib.hid (HB2.out.trans (OwnG.grown_below HN2.out HG4.out (by omega) (by omega)))
  have hz4 := HB4.out.size
  clear HG4 HN2 HS2 HB2
  go_wp2_with fail
  refine (l01Next_calls g A n c 8 _ hn HS4.out).mono ?_
  rintro e w5 ⟨x, rfl, hx, hS, hG⟩
  obtain ⟨j, rfl⟩ := Int.eq_ofNat_of_zero_le hx.1
  have hj : j < 8 := by omega
  have hN5 := OwnG.kept HO4.out hG (fun g' e he => by injection he with he; subst he; have := ownG_ge (e ▸ HO4.out); omega)
  obtain ⟨gq, hq1, _, hq3, hcell⟩ := OwnG.cell hN5 j (by omega)
  obtain ⟨s, hs⟩ := nms8_at hj
  rw [hs] at hcell
  obtain ⟨ad, had⟩ : ∃ ad : Addr, (⟨gq, 0, none⟩ : Addr) = ad := ⟨_, rfl⟩
  have hca : w5.cell? (ad.add j) = some (.string s) := by rw [← had, add_zeroO]; exact hcell
  have hi0 : (0 : Int) ≤ (j : Int) := by omega
  have hi1 : (j : Int) < (8 : Int) := by omega
  rw [had] at hq1
  subst hq1
  have HB5 := Lib.hid (HB4.out.trans (grown_below hG (by omega) (by omega)))
  clear hx hS hG HS4 HB4 hcell hs hq3 had hN5 HO4
  go_wp2
  go_ret
  exact ⟨s, rfl, HB5.out⟩

theorem add0 (a : Addr) : a.add 0 = a := by first | rfl | simp
theorem add1 (a : Addr) : a.add 1 = ⟨a.block, a.off + 1, none⟩ := by first | rfl | simp [Addr.add]
theorem add2 (a : Addr) : a.add 2 = ⟨a.block, a.off + 2, none⟩ := by first | rfl | simp [Addr.add]

set_option maxRecDepth 100000 in
set_option maxHeartbeats 40000000 in
theorem fnRules_core (A : Option Addr) (n c : Nat) (w : World) (hn : n ≤ 4096) (hA : By w A n) (hl : ∀ ad, A = some ad → 0 < n → ad.block < w.heap.size) :
    Calls Try.prog 3 #[.slice A n c] w fun e w' => e = .returned (.bool true) ∧ Below w.heap.size w w' := by
  have HN := Lib.hid hn
  have HA0 := Lib.hid hA
  have HL := Lib.hid hl
  have HB0 := Lib.hid (Below.refl w.heap.size w)
  clear hn hA hl
  go_enter Try.func3, Try.ntmps3
  go_wp2_with fail
  refine (big_no A n c _ HN.out).mono ?_
  rintro e w0 ⟨rfl, rfl⟩
  go_wp2_with fail
  refine (DrawTableByRules_ret A n c _ HN.out HA0.out (fun ad e h => Nat.lt_of_lt_of_le (HL.out ad e h) HB0.out.size)).mono ?_
  rintro e w1 ⟨r, m, rfl, hR, hb⟩
  have HB1 := Lib.hid (HB0.out.trans ((hb).mono HB0.out.size))
  have HA1 := Lib.hid (HA0.out.below hb)
  clear HB0 HA0
  clear hb
  have hal : Below w1.heap.size w1 (w1.alloc (.cells (z9 r) 26)) := (Below.refl _ _).alloc (Nat.le_refl _) _
  have hbx := Box.new w1 26 (z9 r)
  have HB2 := Lib.hid (HB1.out.trans ((hal).mono HB1.out.size))
  have HA2 := Lib.hid (HA1.out.below hal)
  clear HB1 HA1
  have D0 := Lib.hid (hbx)
  clear hal hbx
  unfold z9
  obtain ⟨LT, E, bb, g1, g2, g3, g4, hgood⟩ := fr_all r m hR
  clear hR
  have G1 := Lib.hid g1
  have G2 := Lib.hid g2
  have G3 := Lib.hid g3
  have G4 := Lib.hid g4
  have HGD := Lib.hid hgood
  clear g1 g2 g3 g4 hgood
  obtain ⟨x0_0, x0_1, x0_2, x0_3, x0_4, x0_5, x0_6, x0_7, x0_8⟩ := D0.out.nine
  try simp only [z9] at x0_0 x0_1 x0_2 x0_3 x0_4 x0_5 x0_6 x0_7 x0_8
  go_wp2_with fail
  refine (G1.out _).mono ?_
  rintro e w2 ⟨A1, n1, c1, rs1, rfl, hI, hl, hL, hs, hb⟩
  clear x0_0 x0_1 x0_2 x0_3 x0_4 x0_5 x0_6 x0_7 x0_8
  have HB3 := Lib.hid (HB2.out.trans ((hb).mono HB2.out.size))
  have HA3 := Lib.hid (HA2.out.below hb)
  have D1 := Lib.hid (D0.out.below hb D0.out.lt)
  clear HB2 HA2 D0
  have X0 := Lib.hid (hI)
  clear hb
  have Hl1 := Lib.hid hl
  have HL1 := Lib.hid hL
  have Hs1 := Lib.hid hs
  clear hl hL hs
  clear hI
  obtain ⟨x0_0, x0_1, x0_2, x0_3, x0_4, x0_5, x0_6, x0_7, x0_8⟩ := D1.out.nine
  try simp only [z9] at x0_0 x0_1 x0_2 x0_3 x0_4 x0_5 x0_6 x0_7 x0_8
  go_wp2_with fail
  refine (G2.out _).mono ?_
  rintro e w3 ⟨A2, n2, c2, rs2, rfl, hI, hl, hL, hs, hb⟩
  clear x0_0 x0_1 x0_2 x0_3 x0_4 x0_5 x0_6 x0_7 x0_8
  have HB4 := Lib.hid (HB3.out.trans ((hb).mono HB3.out.size))
  have HA4 := Lib.hid (HA3.out.below hb)
  have D2 := Lib.hid (D1.out.below hb D1.out.lt)
  have X1 := Lib.hid (X0.out.below hb)
  clear HB3 HA3 D1 X0
  have Y0 := Lib.hid (hI)
  clear hb
  have Hl2 := Lib.hid hl
  have HL2 := Lib.hid hL
  have Hs2 := Lib.hid hs
  clear hl hL hs
  clear hI G1 G2
  have D7 := D2
  have X7 := X1
  have Y7 := Y0
  obtain ⟨x0, x1, x2, x3, x4, x5, x6, x7, x8⟩ := D7.out.nine
  have zd := D7.out.lt
  have HE12 : Hid (LLof rs1 = LLof rs2) := by unfold Hid; rw [HL1.out, HL2.out]
  go_wp2_with fail
  go_region_held3 (fun w' => w'.cell? ⟨w1.heap.size, 0, none⟩ = some (.int .i64 (r 0)) ∧ w'.cell? ⟨w1.heap.size, 1, none⟩ = some (.int .i64 (r 1)) ∧ w'.cell? ⟨w1.heap.size, 2, none⟩ = some (.int .i64 (r 2)) ∧ w'.cell? ⟨w1.heap.size, 3, none⟩ = some (.int .i64 (r 3)) ∧ w'.cell? ⟨w1.heap.size, 4, none⟩ = some (.int .i64 (r 4)) ∧ w'.cell? ⟨w1.heap.size, 5, none⟩ = some (.int .i64 (r 5)) ∧ w'.cell? ⟨w1.heap.size, 6, none⟩ = some (.int .i64 (r 6)) ∧ w'.cell? ⟨w1.heap.size, 7, none⟩ = some (.int .i64 (r 7)) ∧ w'.cell? ⟨w1.heap.size, 8, none⟩ = some (.int .i64 (r 8)))
    (first | exact ⟨x0, x1, x2, x3, x4, x5, x6, x7, x8⟩ | exact D8.out.nine | exact D9.out.nine | exact D10.out.nine | go_keep)
    (first
    | (go_at_call 8; refine (rows5_same A1 A2 n1 c1 n2 c2 rs1 rs2 _ Hl1.out Hl2.out Hs1.out Hs2.out ?_ ?_ HE12.out).mono ?_; (exact X7.out); (exact Y7.out); rintro e w8 ⟨rfl, hb8⟩; have D8 := Lib.hid (Box.below D7.out (undrew hb8) zd))
    | (go_at_call 9; refine (G3.out _).mono ?_; rintro e w9 ⟨rfl, hb9⟩; have D9 := Lib.hid (Box.below D8.out hb9 (Box.lt D8.out)))
    | (go_at_call 10; refine (G4.out _).mono ?_; rintro e w10 ⟨rfl, hb10⟩; have D10 := Lib.hid (Box.below D9.out hb10 (Box.lt D9.out))))
  clear D8 D9 D10 D7 X7 Y7 zd HE12 x0 x1 x2 x3 x4 x5 x6 x7 x8
  have HB5 := Lib.hid (HB4.out.trans (((undrew hb8)).mono HB4.out.size))
  have HA5 := Lib.hid (HA4.out.below (undrew hb8))
  have D3 := Lib.hid (D2.out.below (undrew hb8) D2.out.lt)
  have X2 := Lib.hid (X1.out.below (undrew hb8))
  have Y1 := Lib.hid (Y0.out.below (undrew hb8))
  clear HB4 HA4 D2 X1 Y0
  have HB6 := Lib.hid (HB5.out.trans ((hb9).mono HB5.out.size))
  have HA6 := Lib.hid (HA5.out.below hb9)
  have D4 := Lib.hid (D3.out.below hb9 D3.out.lt)
  have X3 := Lib.hid (X2.out.below hb9)
  have Y2 := Lib.hid (Y1.out.below hb9)
  clear HB5 HA5 D3 X2 Y1
  have HB7 := Lib.hid (HB6.out.trans ((hb10).mono HB6.out.size))
  have HA7 := Lib.hid (HA6.out.below hb10)
  have D5 := Lib.hid (D4.out.below hb10 D4.out.lt)
  have X4 := Lib.hid (X3.out.below hb10)
  have Y3 := Lib.hid (Y2.out.below hb10)
  clear HB6 HA6 D4 X3 Y2
  clear hb8 hb9 hb10 G3 G4 Hs1 Hs2
  generalize bb = bq at *
  rcases HGD.out with hE | ⟨rfl, hg⟩
  · have hd : (E == 0) = false := by simpa using hE
    clear hE HGD HL1 HL2 Hl1 Hl2
    clear X4
    clear Y3
    clear D5
    go_wp2_with fail
    refine (DrawNumberByRules_ret A n c _ HN.out HA7.out (fun ad e h => Nat.lt_of_lt_of_le (HL.out ad e h) HB7.out.size)).mono ?_
    rintro e w11 ⟨r1, n1, i1, j1, rfl, hR, hb⟩
    have HB8 := Lib.hid (HB7.out.trans ((hb).mono HB7.out.size))
    have HA8 := Lib.hid (HA7.out.below hb)
    clear HB7 HA7
    clear hb
    have hal : Below w11.heap.size w11 (w11.alloc (.cells (z9 r1) 26)) := (Below.refl _ _).alloc (Nat.le_refl _) _
    have hbx := Box.new w11 26 (z9 r1)
    have HB9 := Lib.hid (HB8.out.trans ((hal).mono HB8.out.size))
    have HA9 := Lib.hid (HA8.out.below hal)
    clear HB8 HA8
    have DA0 := Lib.hid (hbx)
    clear hal hbx
    unfold z9
    obtain ⟨V1, E1, g1, g2⟩ := nu_all r1 n1 i1 j1 hR
    clear hR
    have G1 := Lib.hid g1
    have G2 := Lib.hid g2
    clear g1 g2
    obtain ⟨x0_0, x0_1, x0_2, x0_3, x0_4, x0_5, x0_6, x0_7, x0_8⟩ := DA0.out.nine
    try simp only [z9] at x0_0 x0_1 x0_2 x0_3 x0_4 x0_5 x0_6 x0_7 x0_8
    go_wp2_with fail
    refine (G1.out _).mono ?_
    rintro e w12 ⟨rfl, hb⟩
    clear x0_0 x0_1 x0_2 x0_3 x0_4 x0_5 x0_6 x0_7 x0_8
    have HB10 := Lib.hid (HB9.out.trans ((hb).mono HB9.out.size))
    have HA10 := Lib.hid (HA9.out.below hb)
    have DA1 := Lib.hid (DA0.out.below hb DA0.out.lt)
    clear HB9 HA9 DA0
    clear hb
    obtain ⟨x0_0, x0_1, x0_2, x0_3, x0_4, x0_5, x0_6, x0_7, x0_8⟩ := DA1.out.nine
    try simp only [z9] at x0_0 x0_1 x0_2 x0_3 x0_4 x0_5 x0_6 x0_7 x0_8
    go_wp2_with fail
    refine (G2.out _).mono ?_
    rintro e w13 ⟨rfl, hb⟩
    clear x0_0 x0_1 x0_2 x0_3 x0_4 x0_5 x0_6 x0_7 x0_8
    have HB11 := Lib.hid (HB10.out.trans ((hb).mono HB10.out.size))
    have HA11 := Lib.hid (HA10.out.below hb)
    have DA2 := Lib.hid (DA1.out.below hb DA1.out.lt)
    clear HB10 HA10 DA1
    clear hb
    clear G1 G2
    clear DA2
    go_wp2_with fail
    refine (DrawNamedRules_calls A n c _ HN.out HA11.out (fun ad e h => Nat.lt_of_lt_of_le (HL.out ad e h) HB11.out.size)).mono ?_
    rintro e w14 ⟨s2, rfl, hb⟩
    have HB12 := Lib.hid (HB11.out.trans ((hb).mono HB11.out.size))
    have HA12 := Lib.hid (HA11.out.below hb)
    clear HB11 HA11
    clear hb
    obtain ⟨R2, E2, q2, g1, g2⟩ := nm_all s2
    have Q2 := Lib.hid q2
    have G1 := Lib.hid g1
    have G2 := Lib.hid g2
    clear q2 g1 g2
    go_wp2_with fail
    refine (G1.out _).mono ?_
    rintro e w15 ⟨rfl, hb⟩
    have HB13 := Lib.hid (HB12.out.trans ((hb).mono HB12.out.size))
    have HA13 := Lib.hid (HA12.out.below hb)
    clear HB12 HA12
    clear hb
    have hal : Below w15.heap.size w15 (w15.alloc (.cells (z9 R2) 26)) := (Below.refl _ _).alloc (Nat.le_refl _) _
    have hbx := Box.new w15 26 (z9 R2)
    have HB14 := Lib.hid (HB13.out.trans ((hal).mono HB13.out.size))
    have HA14 := Lib.hid (HA13.out.below hal)
    clear HB13 HA13
    have NA0 := Lib.hid (hbx)
    clear hal hbx
    unfold z9
    go_wp2_with fail
    refine (G2.out _).mono ?_
    rintro e w16 ⟨rfl, hb⟩
    have HB15 := Lib.hid (HB14.out.trans ((hb).mono HB14.out.size))
    have HA15 := Lib.hid (HA14.out.below hb)
    have NA1 := Lib.hid (NA0.out.below hb NA0.out.lt)
    clear HB14 HA14 NA0
    clear hb
    have hal : Below w16.heap.size w16 (w16.alloc (.cells (z9 R2) 26)) := (Below.refl _ _).alloc (Nat.le_refl _) _
    have hbx := Box.new w16 26 (z9 R2)
    have HB16 := Lib.hid (HB15.out.trans ((hal).mono HB15.out.size))
    have HA16 := Lib.hid (HA15.out.below hal)
    have NA2 := Lib.hid (NA1.out.below hal NA1.out.lt)
    clear HB15 HA15 NA1
    have NB0 := Lib.hid (hbx)
    clear hal hbx
    unfold z9
    clear G1 G2
    go_wp2_with fail
    refine (DrawAreStrong_ret A n c _ HN.out HA16.out (fun ad e h => Nat.lt_of_lt_of_le (HL.out ad e h) HB16.out.size)).mono ?_
    rintro e w17 ⟨r3, rfl, hR, hb⟩
    have HB17 := Lib.hid (HB16.out.trans ((hb).mono HB16.out.size))
    have HA17 := Lib.hid (HA16.out.below hb)
    have NA3 := Lib.hid (NA2.out.below hb NA2.out.lt)
    have NB1 := Lib.hid (NB0.out.below hb NB0.out.lt)
    clear HB16 HA16 NA2 NB0
    clear hb
    have hal : Below w17.heap.size w17 (w17.alloc (.cells (z9 r3) 26)) := (Below.refl _ _).alloc (Nat.le_refl _) _
    have hbx := Box.new w17 26 (z9 r3)
    have HB18 := Lib.hid (HB17.out.trans ((hal).mono HB17.out.size))
    have HA18 := Lib.hid (HA17.out.below hal)
    have NA4 := Lib.hid (NA3.out.below hal NA3.out.lt)
    have NB2 := Lib.hid (NB1.out.below hal NB1.out.lt)
    clear HB17 HA17 NA3 NB1
    have DB0 := Lib.hid (hbx)
    clear hal hbx
    unfold z9
    obtain ⟨V3, E3, g1, g2⟩ := st_all r3 hR
    clear hR
    have G1 := Lib.hid g1
    have G2 := Lib.hid g2
    clear g1 g2
    obtain ⟨x0_0, x0_1, x0_2, x0_3, x0_4, x0_5, x0_6, x0_7, x0_8⟩ := DB0.out.nine
    try simp only [z9] at x0_0 x0_1 x0_2 x0_3 x0_4 x0_5 x0_6 x0_7 x0_8
    go_wp2_with fail
    refine (G1.out _).mono ?_
    rintro e w18 ⟨rfl, hb⟩
    clear x0_0 x0_1 x0_2 x0_3 x0_4 x0_5 x0_6 x0_7 x0_8
    have HB19 := Lib.hid (HB18.out.trans ((hb).mono HB18.out.size))
    have HA19 := Lib.hid (HA18.out.below hb)
    have NA5 := Lib.hid (NA4.out.below hb NA4.out.lt)
    have NB3 := Lib.hid (NB2.out.below hb NB2.out.lt)
    have DB1 := Lib.hid (DB0.out.below hb DB0.out.lt)
    clear HB18 HA18 NA4 NB2 DB0
    clear hb
    obtain ⟨x0_0, x0_1, x0_2, x0_3, x0_4, x0_5, x0_6, x0_7, x0_8⟩ := DB1.out.nine
    try simp only [z9] at x0_0 x0_1 x0_2 x0_3 x0_4 x0_5 x0_6 x0_7 x0_8
    go_wp2_with fail
    refine (G2.out _).mono ?_
    rintro e w19 ⟨rfl, hb⟩
    clear x0_0 x0_1 x0_2 x0_3 x0_4 x0_5 x0_6 x0_7 x0_8
    have HB20 := Lib.hid (HB19.out.trans ((hb).mono HB19.out.size))
    have HA20 := Lib.hid (HA19.out.below hb)
    have NA6 := Lib.hid (NA5.out.below hb NA5.out.lt)
    have NB4 := Lib.hid (NB3.out.below hb NB3.out.lt)
    have DB2 := Lib.hid (DB1.out.below hb DB1.out.lt)
    clear HB19 HA19 NA5 NB3 DB1
    clear hb
    clear G1 G2
    clear DB2
    go_wp2_with fail
    refine (DrawTurnRules_ret A n c _ HN.out HA20.out (fun ad e h => Nat.lt_of_lt_of_le (HL.out ad e h) HB20.out.size)).mono ?_
    rintro e w20 ⟨r4, rfl, hR, hb⟩
    have HB21 := Lib.hid (HB20.out.trans ((hb).mono HB20.out.size))
    have HA21 := Lib.hid (HA20.out.below hb)
    have NA7 := Lib.hid (NA6.out.below hb NA6.out.lt)
    have NB5 := Lib.hid (NB4.out.below hb NB4.out.lt)
    clear HB20 HA20 NA6 NB4
    clear hb
    have hal : Below w20.heap.size w20 (w20.alloc (.cells (z9 r4) 26)) := (Below.refl _ _).alloc (Nat.le_refl _) _
    have hbx := Box.new w20 26 (z9 r4)
    have HB22 := Lib.hid (HB21.out.trans ((hal).mono HB21.out.size))
    have HA22 := Lib.hid (HA21.out.below hal)
    have NA8 := Lib.hid (NA7.out.below hal NA7.out.lt)
    have NB6 := Lib.hid (NB5.out.below hal NB5.out.lt)
    clear HB21 HA21 NA7 NB5
    have DC0 := Lib.hid (hbx)
    clear hal hbx
    unfold z9
    obtain ⟨R4, E4, q4, g1, g2⟩ := tu_all r4 hR
    clear hR
    have Q4 := Lib.hid q4
    have G1 := Lib.hid g1
    have G2 := Lib.hid g2
    clear q4 g1 g2
    obtain ⟨x0_0, x0_1, x0_2, x0_3, x0_4, x0_5, x0_6, x0_7, x0_8⟩ := DC0.out.nine
    try simp only [z9] at x0_0 x0_1 x0_2 x0_3 x0_4 x0_5 x0_6 x0_7 x0_8
    go_wp2_with fail
    refine (G1.out _).mono ?_
    rintro e w21 ⟨rfl, hb⟩
    clear x0_0 x0_1 x0_2 x0_3 x0_4 x0_5 x0_6 x0_7 x0_8
    have HB23 := Lib.hid (HB22.out.trans ((hb).mono HB22.out.size))
    have HA23 := Lib.hid (HA22.out.below hb)
    have NA9 := Lib.hid (NA8.out.below hb NA8.out.lt)
    have NB7 := Lib.hid (NB6.out.below hb NB6.out.lt)
    have DC1 := Lib.hid (DC0.out.below hb DC0.out.lt)
    clear HB22 HA22 NA8 NB6 DC0
    clear hb
    have hal : Below w21.heap.size w21 (w21.alloc (.cells (z9 R4) 26)) := (Below.refl _ _).alloc (Nat.le_refl _) _
    have hbx := Box.new w21 26 (z9 R4)
    have HB24 := Lib.hid (HB23.out.trans ((hal).mono HB23.out.size))
    have HA24 := Lib.hid (HA23.out.below hal)
    have NA10 := Lib.hid (NA9.out.below hal NA9.out.lt)
    have NB8 := Lib.hid (NB7.out.below hal NB7.out.lt)
    have DC2 := Lib.hid (DC1.out.below hal DC1.out.lt)
    clear HB23 HA23 NA9 NB7 DC1
    have TA0 := Lib.hid (hbx)
    clear hal hbx
    unfold z9
    obtain ⟨x0_0, x0_1, x0_2, x0_3, x0_4, x0_5, x0_6, x0_7, x0_8⟩ := DC2.out.nine
    try simp only [z9] at x0_0 x0_1 x0_2 x0_3 x0_4 x0_5 x0_6 x0_7 x0_8
    go_wp2_with fail
    refine (G2.out _).mono ?_
    rintro e w22 ⟨rfl, hb⟩
    clear x0_0 x0_1 x0_2 x0_3 x0_4 x0_5 x0_6 x0_7 x0_8
    have HB25 := Lib.hid (HB24.out.trans ((hb).mono HB24.out.size))
    have HA25 := Lib.hid (HA24.out.below hb)
    have NA11 := Lib.hid (NA10.out.below hb NA10.out.lt)
    have NB9 := Lib.hid (NB8.out.below hb NB8.out.lt)
    have DC3 := Lib.hid (DC2.out.below hb DC2.out.lt)
    have TA1 := Lib.hid (TA0.out.below hb TA0.out.lt)
    clear HB24 HA24 NA10 NB8 DC2 TA0
    clear hb
    have hal : Below w22.heap.size w22 (w22.alloc (.cells (z9 R4) 26)) := (Below.refl _ _).alloc (Nat.le_refl _) _
    have hbx := Box.new w22 26 (z9 R4)
    have HB26 := Lib.hid (HB25.out.trans ((hal).mono HB25.out.size))
    have HA26 := Lib.hid (HA25.out.below hal)
    have NA12 := Lib.hid (NA11.out.below hal NA11.out.lt)
    have NB10 := Lib.hid (NB9.out.below hal NB9.out.lt)
    have DC4 := Lib.hid (DC3.out.below hal DC3.out.lt)
    have TA2 := Lib.hid (TA1.out.below hal TA1.out.lt)
    clear HB25 HA25 NA11 NB9 DC3 TA1
    have TC0 := Lib.hid (hbx)
    clear hal hbx
    unfold z9
    clear G1 G2
    clear DC4
    go_wp2_with fail
    refine (DrawRenameRules_ret A n c _ HN.out HA26.out (fun ad e h => Nat.lt_of_lt_of_le (HL.out ad e h) HB26.out.size)).mono ?_
    rintro e w23 ⟨r5, A5, m5, c5, L5, rfl, hR, hO, hm5, hb⟩
    have HB27 := Lib.hid (HB26.out.trans ((hb).mono HB26.out.size))
    have HA27 := Lib.hid (HA26.out.below hb)
    have NA13 := Lib.hid (NA12.out.below hb NA12.out.lt)
    have NB11 := Lib.hid (NB10.out.below hb NB10.out.lt)
    have TA3 := Lib.hid (TA2.out.below hb TA2.out.lt)
    have TC1 := Lib.hid (TC0.out.below hb TC0.out.lt)
    clear HB26 HA26 NA12 NB10 TA2 TC0
    have WL0 := Lib.hid (hO.ints)
    clear hb
    have hal : Below w23.heap.size w23 (w23.alloc (.cells (z9 r5) 26)) := (Below.refl _ _).alloc (Nat.le_refl _) _
    have hbx := Box.new w23 26 (z9 r5)
    have HB28 := Lib.hid (HB27.out.trans ((hal).mono HB27.out.size))
    have HA28 := Lib.hid (HA27.out.below hal)
    have NA14 := Lib.hid (NA13.out.below hal NA13.out.lt)
    have NB12 := Lib.hid (NB11.out.below hal NB11.out.lt)
    have TA4 := Lib.hid (TA3.out.below hal TA3.out.lt)
    have TC2 := Lib.hid (TC1.out.below hal TC1.out.lt)
    have WL1 := Lib.hid (WL0.out.below hal)
    clear HB27 HA27 NA13 NB11 TA3 TC1 WL0
    have DD0 := Lib.hid (hbx)
    clear hal hbx
    unfold z9
    clear HA28
    obtain ⟨R5, E5, q5, g1, g2⟩ := rn_all r5 m5 L5 hR (Own.len hO) hm5
    clear hR hO
    have Q5 := Lib.hid q5
    have G1 := Lib.hid g1
    have G2 := Lib.hid g2
    clear q5 g1 g2
    obtain ⟨x0_0, x0_1, x0_2, x0_3, x0_4, x0_5, x0_6, x0_7, x0_8⟩ := DD0.out.nine
    try simp only [z9] at x0_0 x0_1 x0_2 x0_3 x0_4 x0_5 x0_6 x0_7 x0_8
    go_wp2_with fail
    refine (G1.out A5 c5 _ WL1.out).mono ?_
    rintro e w24 ⟨rfl, hb⟩
    clear x0_0 x0_1 x0_2 x0_3 x0_4 x0_5 x0_6 x0_7 x0_8
    have HB29 := Lib.hid (HB28.out.trans ((hb).mono HB28.out.size))
    have NA15 := Lib.hid (NA14.out.below hb NA14.out.lt)
    have NB13 := Lib.hid (NB12.out.below hb NB12.out.lt)
    have TA5 := Lib.hid (TA4.out.below hb TA4.out.lt)
    have TC3 := Lib.hid (TC2.out.below hb TC2.out.lt)
    have WL2 := Lib.hid (WL1.out.below hb)
    have DD1 := Lib.hid (DD0.out.below hb DD0.out.lt)
    clear HB28 NA14 NB12 TA4 TC2 WL1 DD0
    clear hb
    have hal : Below w24.heap.size w24 (w24.alloc (.cells (z9 R5) 26)) := (Below.refl _ _).alloc (Nat.le_refl _) _
    have hbx := Box.new w24 26 (z9 R5)
    have HB30 := Lib.hid (HB29.out.trans ((hal).mono HB29.out.size))
    have NA16 := Lib.hid (NA15.out.below hal NA15.out.lt)
    have NB14 := Lib.hid (NB13.out.below hal NB13.out.lt)
    have TA6 := Lib.hid (TA5.out.below hal TA5.out.lt)
    have TC4 := Lib.hid (TC3.out.below hal TC3.out.lt)
    have WL3 := Lib.hid (WL2.out.below hal)
    have DD2 := Lib.hid (DD1.out.below hal DD1.out.lt)
    clear HB29 NA15 NB13 TA5 TC3 WL2 DD1
    have RA0 := Lib.hid (hbx)
    clear hal hbx
    unfold z9
    obtain ⟨x0_0, x0_1, x0_2, x0_3, x0_4, x0_5, x0_6, x0_7, x0_8⟩ := DD2.out.nine
    try simp only [z9] at x0_0 x0_1 x0_2 x0_3 x0_4 x0_5 x0_6 x0_7 x0_8
    go_wp2_with fail
    refine (G2.out A5 c5 _ WL3.out).mono ?_
    rintro e w25 ⟨rfl, hb⟩
    clear x0_0 x0_1 x0_2 x0_3 x0_4 x0_5 x0_6 x0_7 x0_8
    have HB31 := Lib.hid (HB30.out.trans ((hb).mono HB30.out.size))
    have NA17 := Lib.hid (NA16.out.below hb NA16.out.lt)
    have NB15 := Lib.hid (NB14.out.below hb NB14.out.lt)
    have TA7 := Lib.hid (TA6.out.below hb TA6.out.lt)
    have TC5 := Lib.hid (TC4.out.below hb TC4.out.lt)
    have WL4 := Lib.hid (WL3.out.below hb)
    have DD3 := Lib.hid (DD2.out.below hb DD2.out.lt)
    have RA1 := Lib.hid (RA0.out.below hb RA0.out.lt)
    clear HB30 NA16 NB14 TA6 TC4 WL3 DD2 RA0
    clear hb
    have hal : Below w25.heap.size w25 (w25.alloc (.cells (z9 R5) 26)) := (Below.refl _ _).alloc (Nat.le_refl _) _
    have hbx := Box.new w25 26 (z9 R5)
    have HB32 := Lib.hid (HB31.out.trans ((hal).mono HB31.out.size))
    have NA18 := Lib.hid (NA17.out.below hal NA17.out.lt)
    have NB16 := Lib.hid (NB15.out.below hal NB15.out.lt)
    have TA8 := Lib.hid (TA7.out.below hal TA7.out.lt)
    have TC6 := Lib.hid (TC5.out.below hal TC5.out.lt)
    have WL5 := Lib.hid (WL4.out.below hal)
    have DD4 := Lib.hid (DD3.out.below hal DD3.out.lt)
    have RA2 := Lib.hid (RA1.out.below hal RA1.out.lt)
    clear HB31 NA17 NB15 TA7 TC5 WL4 DD3 RA1
    have RC0 := Lib.hid (hbx)
    clear hal hbx
    unfold z9
    clear G1 G2
    clear DD4
    clear WL5
    obtain ⟨x0_0, x0_1, x0_2, x0_3, x0_4, x0_5, x0_6, x0_7, x0_8⟩ := NA18.out.nine
    try simp only [z9] at x0_0 x0_1 x0_2 x0_3 x0_4 x0_5 x0_6 x0_7 x0_8
    obtain ⟨x1_0, x1_1, x1_2, x1_3, x1_4, x1_5, x1_6, x1_7, x1_8⟩ := NB16.out.nine
    try simp only [z9] at x1_0 x1_1 x1_2 x1_3 x1_4 x1_5 x1_6 x1_7 x1_8
    obtain ⟨x2_0, x2_1, x2_2, x2_3, x2_4, x2_5, x2_6, x2_7, x2_8⟩ := TA8.out.nine
    try simp only [z9] at x2_0 x2_1 x2_2 x2_3 x2_4 x2_5 x2_6 x2_7 x2_8
    obtain ⟨x3_0, x3_1, x3_2, x3_3, x3_4, x3_5, x3_6, x3_7, x3_8⟩ := TC6.out.nine
    try simp only [z9] at x3_0 x3_1 x3_2 x3_3 x3_4 x3_5 x3_6 x3_7 x3_8
    obtain ⟨x4_0, x4_1, x4_2, x4_3, x4_4, x4_5, x4_6, x4_7, x4_8⟩ := RA2.out.nine
    try simp only [z9] at x4_0 x4_1 x4_2 x4_3 x4_4 x4_5 x4_6 x4_7 x4_8
    obtain ⟨x5_0, x5_1, x5_2, x5_3, x5_4, x5_5, x5_6, x5_7, x5_8⟩ := RC0.out.nine
    try simp only [z9] at x5_0 x5_1 x5_2 x5_3 x5_4 x5_5 x5_6 x5_7 x5_8
    have hq2 := Q2.out
    have hq4 := Q4.out
    have hq5 := Q5.out
    unfold z9 at hq2 hq4 hq5
    go_wp2
    go_ret
    exact ⟨rfl, HB32.out⟩
  · obtain ⟨t, s, mm, d, R1, R3, rfl, g1, g2, g3, g4, g5, g6, h01, h02, h10, h12, h20, h21⟩ := hg
    clear HGD HL2 Hl2
    clear Y3
    have T1 := Lib.hid g1
    have T2 := Lib.hid g2
    have T3 := Lib.hid g3
    have T4 := Lib.hid g4
    have T5 := Lib.hid g5
    have T6 := Lib.hid g6
    have P01 := Lib.hid h01
    have P02 := Lib.hid h02
    have P10 := Lib.hid h10
    have P12 := Lib.hid h12
    have P20 := Lib.hid h20
    have P21 := Lib.hid h21
    clear g1 g2 g3 g4 g5 g6 h01 h02 h10 h12 h20 h21
    obtain ⟨rfl, ad1, ra1, rc1, rfl, htb⟩ := tb_of X4.out Hl1.out HL1.out
    have K10 := Lib.hid (htb)
    clear htb
    clear X4
    clear Hl1 HL1
    obtain ⟨x0_0, x0_1, x0_2, x0_3, x0_4, x0_5, x0_6, x0_7, x0_8⟩ := D5.out.nine
    try simp only [z9] at x0_0 x0_1 x0_2 x0_3 x0_4 x0_5 x0_6 x0_7 x0_8
    go_wp2_with fail
    refine (T1.out _).mono ?_
    rintro e w11 ⟨rfl, hb⟩
    clear x0_0 x0_1 x0_2 x0_3 x0_4 x0_5 x0_6 x0_7 x0_8
    have HB8 := Lib.hid (HB7.out.trans ((hb).mono HB7.out.size))
    have HA8 := Lib.hid (HA7.out.below hb)
    have D6 := Lib.hid (D5.out.below hb D5.out.lt)
    have K11 := Lib.hid (K10.out.below hb)
    clear HB7 HA7 D5 K10
    clear hb
    have hal : Below w11.heap.size w11 (w11.alloc (.cells (z9 R1) 26)) := (Below.refl _ _).alloc (Nat.le_refl _) _
    have hbx := Box.new w11 26 (z9 R1)
    have HB9 := Lib.hid (HB8.out.trans ((hal).mono HB8.out.size))
    have HA9 := Lib.hid (HA8.out.below hal)
    have D7 := Lib.hid (D6.out.below hal D6.out.lt)
    have K12 := Lib.hid (K11.out.below hal)
    clear HB8 HA8 D6 K11
    have B90 := Lib.hid (hbx)
    clear hal hbx
    unfold z9
    obtain ⟨x0_0, x0_1, x0_2, x0_3, x0_4, x0_5, x0_6, x0_7, x0_8⟩ := B90.out.nine
    try simp only [z9] at x0_0 x0_1 x0_2 x0_3 x0_4 x0_5 x0_6 x0_7 x0_8
    go_wp2_with fail
    refine (T2.out _).mono ?_
    rintro e w12 ⟨A4, n4, c4, rs4, rfl, hI, hl, hL, _, hb⟩
    clear x0_0 x0_1 x0_2 x0_3 x0_4 x0_5 x0_6 x0_7 x0_8
    have HB10 := Lib.hid (HB9.out.trans ((hb).mono HB9.out.size))
    have HA10 := Lib.hid (HA9.out.below hb)
    have D8 := Lib.hid (D7.out.below hb D7.out.lt)
    have K13 := Lib.hid (K12.out.below hb)
    have B91 := Lib.hid (B90.out.below hb B90.out.lt)
    clear HB9 HA9 D7 K12 B90
    have XI0 := Lib.hid (hI)
    clear hb
    clear hI
    obtain ⟨rfl, ad4, ra4, rc4, rfl, htb⟩ := tb_of XI0.out hl hL
    have K40 := Lib.hid (htb)
    clear htb
    clear XI0
    clear hl hL
    clear B91
    go_wp2_with fail
    refine (T3.out _).mono ?_
    rintro e w13 ⟨rfl, hb⟩
    have HB11 := Lib.hid (HB10.out.trans ((hb).mono HB10.out.size))
    have HA11 := Lib.hid (HA10.out.below hb)
    have D9 := Lib.hid (D8.out.below hb D8.out.lt)
    have K14 := Lib.hid (K13.out.below hb)
    have K41 := Lib.hid (K40.out.below hb)
    clear HB10 HA10 D8 K13 K40
    clear hb
    have hal : Below w13.heap.size w13 (w13.alloc (.cells (z9 allR) 26)) := (Below.refl _ _).alloc (Nat.le_refl _) _
    have hbx := Box.new w13 26 (z9 allR)
    have HB12 := Lib.hid (HB11.out.trans ((hal).mono HB11.out.size))
    have HA12 := Lib.hid (HA11.out.below hal)
    have D10 := Lib.hid (D9.out.below hal D9.out.lt)
    have K15 := Lib.hid (K14.out.below hal)
    have K42 := Lib.hid (K41.out.below hal)
    clear HB11 HA11 D9 K14 K41
    have B130 := Lib.hid (hbx)
    clear hal hbx
    unfold z9
    obtain ⟨x0_0, x0_1, x0_2, x0_3, x0_4, x0_5, x0_6, x0_7, x0_8⟩ := B130.out.nine
    try simp only [z9] at x0_0 x0_1 x0_2 x0_3 x0_4 x0_5 x0_6 x0_7 x0_8
    go_wp2_with fail
    refine (T4.out _).mono ?_
    rintro e w14 ⟨A5, n5, c5, rs5, rfl, hI, hl, hL, _, hb⟩
    clear x0_0 x0_1 x0_2 x0_3 x0_4 x0_5 x0_6 x0_7 x0_8
    have HB13 := Lib.hid (HB12.out.trans ((hb).mono HB12.out.size))
    have HA13 := Lib.hid (HA12.out.below hb)
    have D11 := Lib.hid (D10.out.below hb D10.out.lt)
    have K16 := Lib.hid (K15.out.below hb)
    have K43 := Lib.hid (K42.out.below hb)
    have B131 := Lib.hid (B130.out.below hb B130.out.lt)
    clear HB12 HA12 D10 K15 K42 B130
    have XI0 := Lib.hid (hI)
    clear hb
    clear hI
    obtain ⟨rfl, ad5, ra5, rc5, rfl, htb⟩ := tb_of XI0.out hl hL
    have K50 := Lib.hid (htb)
    clear htb
    clear XI0
    clear hl hL
    clear B131
    obtain ⟨x0, x1, x2, x3, x4, x5, x6, x7, x8⟩ := D11.out.nine
    have hal : Below w14.heap.size w14 (w14.alloc (.cells (([1, 2, 0] : List Int).map (Value.int .i64)).toArray 2)) := (Below.refl _ _).alloc (Nat.le_refl _) _
    have HB14 := Lib.hid (HB13.out.trans ((hal).mono HB13.out.size))
    have HA14 := Lib.hid (HA13.out.below hal)
    have D12 := Lib.hid (D11.out.below hal D11.out.lt)
    have K17 := Lib.hid (K16.out.below hal)
    have K44 := Lib.hid (K43.out.below hal)
    have K51 := Lib.hid (K50.out.below hal)
    clear HB13 HA13 D11 K16 K43 K50
    clear hal
    go_wp2_with fail
    refine (T5.out _ _ _ (ints_new w14 2 [1, 2, 0])).mono ?_
    rintro e w15 ⟨rfl, hb⟩
    have HB15 := Lib.hid (HB14.out.trans ((hb).mono HB14.out.size))
    have HA15 := Lib.hid (HA14.out.below hb)
    have D13 := Lib.hid (D12.out.below hb D12.out.lt)
    have K18 := Lib.hid (K17.out.below hb)
    have K45 := Lib.hid (K44.out.below hb)
    have K52 := Lib.hid (K51.out.below hb)
    clear HB14 HA14 D12 K17 K44 K51
    clear hb
    have hal : Below w15.heap.size w15 (w15.alloc (.cells (z9 R3) 26)) := (Below.refl _ _).alloc (Nat.le_refl _) _
    have hbx := Box.new w15 26 (z9 R3)
    have HB16 := Lib.hid (HB15.out.trans ((hal).mono HB15.out.size))
    have HA16 := Lib.hid (HA15.out.below hal)
    have D14 := Lib.hid (D13.out.below hal D13.out.lt)
    have K19 := Lib.hid (K18.out.below hal)
    have K46 := Lib.hid (K45.out.below hal)
    have K53 := Lib.hid (K52.out.below hal)
    clear HB15 HA15 D13 K18 K45 K52
    have B170 := Lib.hid (hbx)
    clear hal hbx
    unfold z9
    clear x0 x1 x2 x3 x4 x5 x6 x7 x8
    obtain ⟨x0_0, x0_1, x0_2, x0_3, x0_4, x0_5, x0_6, x0_7, x0_8⟩ := B170.out.nine
    try simp only [z9] at x0_0 x0_1 x0_2 x0_3 x0_4 x0_5 x0_6 x0_7 x0_8
    go_wp2_with fail
    refine (T6.out _).mono ?_
    rintro e w16 ⟨A6, n6, c6, rs6, rfl, hI, hl, hL, _, hb⟩
    clear x0_0 x0_1 x0_2 x0_3 x0_4 x0_5 x0_6 x0_7 x0_8
    have HB17 := Lib.hid (HB16.out.trans ((hb).mono HB16.out.size))
    have HA17 := Lib.hid (HA16.out.below hb)
    have D15 := Lib.hid (D14.out.below hb D14.out.lt)
    have K110 := Lib.hid (K19.out.below hb)
    have K47 := Lib.hid (K46.out.below hb)
    have K54 := Lib.hid (K53.out.below hb)
    have B171 := Lib.hid (B170.out.below hb B170.out.lt)
    clear HB16 HA16 D14 K19 K46 K53 B170
    have XI0 := Lib.hid (hI)
    clear hb
    clear hI
    obtain ⟨rfl, ad6, ra6, rc6, rfl, htb⟩ := tb_of XI0.out hl hL
    have K60 := Lib.hid (htb)
    clear htb
    clear XI0
    clear hl hL
    clear B171
    clear T1 T2 T3 T4 T5 T6
    go_wp2_with fail
    refine wp_loop_rounds 4 ?_
    rw [rounds_succ]
    go_wp2_with fail
    refine wp_loop_rounds 4 ?_
    rw [rounds_succ]
    go_wp2_with fail
    rw [rounds_succ]
    obtain ⟨x0_0, x0_1, x0_2, x0_3, x0_4, x0_5, x0_6, x0_7, x0_8⟩ := D15.out.nine
    try simp only [z9] at x0_0 x0_1 x0_2 x0_3 x0_4 x0_5 x0_6 x0_7 x0_8
    go_wp2_with fail
    refine (P01.out.1 _).mono ?_
    rintro e w17 ⟨rfl, hb⟩
    clear x0_0 x0_1 x0_2 x0_3 x0_4 x0_5 x0_6 x0_7 x0_8
    have HB18 := Lib.hid (HB17.out.trans ((hb).mono HB17.out.size))
    have HA18 := Lib.hid (HA17.out.below hb)
    have D16 := Lib.hid (D15.out.below hb D15.out.lt)
    have K111 := Lib.hid (K110.out.below hb)
    have K48 := Lib.hid (K47.out.below hb)
    have K55 := Lib.hid (K54.out.below hb)
    have K61 := Lib.hid (K60.out.below hb)
    clear HB17 HA17 D15 K110 K47 K54 K60
    clear hb
    have u0 := (K111.out.2 0 (by decide)).1
    have v0 : w17.cell? ((ra1 0).add 1) = some (Value.int .i64 (t 1)) := by have h := (K111.out.2 0 (by decide)).2.2 1 (by decide); exact h
    have u1 := (K48.out.2 1 (by decide)).1
    have v1 : w17.cell? ((ra4 1).add 0) = some (Value.int .i64 (t 1)) := by have h := (K48.out.2 1 (by decide)).2.2 0 (by decide); rw [show s (1 * 3 + 0) = t 1 from P01.out.2.1] at h; exact h
    have u2 := (K55.out.2 0 (by decide)).1
    have v2 : w17.cell? ((ra5 0).add 1) = some (Value.int .i64 (mm 1)) := by have h := (K55.out.2 0 (by decide)).2.2 1 (by decide); exact h
    have u3 := (K61.out.2 1 (by decide)).1
    have v3 : w17.cell? ((ra6 1).add 2) = some (Value.int .i64 (t 1)) := by have h := (K61.out.2 1 (by decide)).2.2 2 (by decide); rw [show d (1 * 3 + 2) = t 1 from P01.out.2.2.2] at h; exact h
    try simp only [add0, add1, add2] at u0 u1 u2 u3 v0 v1 v2 v3
    have hle := P01.out.2.2.1
    go_wp2_with fail
    clear u0 u1 u2 u3 v0 v1 v2 v3 hle
    rw [rounds_succ]
    obtain ⟨x0_0, x0_1, x0_2, x0_3, x0_4, x0_5, x0_6, x0_7, x0_8⟩ := D16.out.nine
    try simp only [z9] at x0_0 x0_1 x0_2 x0_3 x0_4 x0_5 x0_6 x0_7 x0_8
    go_wp2_with fail
    refine (P02.out.1 _).mono ?_
    rintro e w18 ⟨rfl, hb⟩
    clear x0_0 x0_1 x0_2 x0_3 x0_4 x0_5 x0_6 x0_7 x0_8
    have HB19 := Lib.hid (HB18.out.trans ((hb).mono HB18.out.size))
    have HA19 := Lib.hid (HA18.out.below hb)
    have D17 := Lib.hid (D16.out.below hb D16.out.lt)
    have K112 := Lib.hid (K111.out.below hb)
    have K49 := Lib.hid (K48.out.below hb)
    have K56 := Lib.hid (K55.out.below hb)
    have K62 := Lib.hid (K61.out.below hb)
    clear HB18 HA18 D16 K111 K48 K55 K61
    clear hb
    have u0 := (K112.out.2 0 (by decide)).1
    have v0 : w18.cell? ((ra1 0).add 2) = some (Value.int .i64 (t 2)) := by have h := (K112.out.2 0 (by decide)).2.2 2 (by decide); exact h
    have u1 := (K49.out.2 2 (by decide)).1
    have v1 : w18.cell? ((ra4 2).add 0) = some (Value.int .i64 (t 2)) := by have h := (K49.out.2 2 (by decide)).2.2 0 (by decide); rw [show s (2 * 3 + 0) = t 2 from P02.out.2.1] at h; exact h
    have u2 := (K56.out.2 0 (by decide)).1
    have v2 : w18.cell? ((ra5 0).add 2) = some (Value.int .i64 (mm 2)) := by have h := (K56.out.2 0 (by decide)).2.2 2 (by decide); exact h
    have u3 := (K62.out.2 1 (by decide)).1
    have v3 : w18.cell? ((ra6 1).add 0) = some (Value.int .i64 (t 2)) := by have h := (K62.out.2 1 (by decide)).2.2 0 (by decide); rw [show d (1 * 3 + 0) = t 2 from P02.out.2.2.2] at h; exact h
    try simp only [add0, add1, add2] at u0 u1 u2 u3 v0 v1 v2 v3
    have hle := P02.out.2.2.1
    go_wp2_with fail
    clear u0 u1 u2 u3 v0 v1 v2 v3 hle
    rw [rounds_succ]
    go_wp2_with fail
    rw [rounds_succ]
    go_wp2_with fail
    refine wp_loop_rounds 4 ?_
    rw [rounds_succ]
    obtain ⟨x0_0, x0_1, x0_2, x0_3, x0_4, x0_5, x0_6, x0_7, x0_8⟩ := D17.out.nine
    try simp only [z9] at x0_0 x0_1 x0_2 x0_3 x0_4 x0_5 x0_6 x0_7 x0_8
    go_wp2_with fail
    refine (P10.out.1 _).mono ?_
    rintro e w19 ⟨rfl, hb⟩
    clear x0_0 x0_1 x0_2 x0_3 x0_4 x0_5 x0_6 x0_7 x0_8
    have HB20 := Lib.hid (HB19.out.trans ((hb).mono HB19.out.size))
    have HA20 := Lib.hid (HA19.out.below hb)
    have D18 := Lib.hid (D17.out.below hb D17.out.lt)
    have K113 := Lib.hid (K112.out.below hb)
    have K410 := Lib.hid (K49.out.below hb)
    have K57 := Lib.hid (K56.out.below hb)
    have K63 := Lib.hid (K62.out.below hb)
    clear HB19 HA19 D17 K112 K49 K56 K62
    clear hb
    have u0 := (K113.out.2 1 (by decide)).1
    have v0 : w19.cell? ((ra1 1).add 0) = some (Value.int .i64 (t 3)) := by have h := (K113.out.2 1 (by decide)).2.2 0 (by decide); exact h
    have u1 := (K410.out.2 0 (by decide)).1
    have v1 : w19.cell? ((ra4 0).add 1) = some (Value.int .i64 (t 3)) := by have h := (K410.out.2 0 (by decide)).2.2 1 (by decide); rw [show s (0 * 3 + 1) = t 3 from P10.out.2.1] at h; exact h
    have u2 := (K57.out.2 1 (by decide)).1
    have v2 : w19.cell? ((ra5 1).add 0) = some (Value.int .i64 (mm 3)) := by have h := (K57.out.2 1 (by decide)).2.2 0 (by decide); exact h
    have u3 := (K63.out.2 2 (by decide)).1
    have v3 : w19.cell? ((ra6 2).add 1) = some (Value.int .i64 (t 3)) := by have h := (K63.out.2 2 (by decide)).2.2 1 (by decide); rw [show d (2 * 3 + 1) = t 3 from P10.out.2.2.2] at h; exact h
    try simp only [add0, add1, add2] at u0 u1 u2 u3 v0 v1 v2 v3
    have hle := P10.out.2.2.1
    go_wp2_with fail
    clear u0 u1 u2 u3 v0 v1 v2 v3 hle
    rw [rounds_succ]
    go_wp2_with fail
    rw [rounds_succ]
    obtain ⟨x0_0, x0_1, x0_2, x0_3, x0_4, x0_5, x0_6, x0_7, x0_8⟩ := D18.out.nine
    try simp only [z9] at x0_0 x0_1 x0_2 x0_3 x0_4 x0_5 x0_6 x0_7 x0_8
    go_wp2_with fail
    refine (P12.out.1 _).mono ?_
    rintro e w20 ⟨rfl, hb⟩
    clear x0_0 x0_1 x0_2 x0_3 x0_4 x0_5 x0_6 x0_7 x0_8
    have HB21 := Lib.hid (HB20.out.trans ((hb).mono HB20.out.size))
    have HA21 := Lib.hid (HA20.out.below hb)
    have D19 := Lib.hid (D18.out.below hb D18.out.lt)
    have K114 := Lib.hid (K113.out.below hb)
    have K411 := Lib.hid (K410.out.below hb)
    have K58 := Lib.hid (K57.out.below hb)
    have K64 := Lib.hid (K63.out.below hb)
    clear HB20 HA20 D18 K113 K410 K57 K63
    clear hb
    have u0 := (K114.out.2 1 (by decide)).1
    have v0 : w20.cell? ((ra1 1).add 2) = some (Value.int .i64 (t 5)) := by have h := (K114.out.2 1 (by decide)).2.2 2 (by decide); exact h
    have u1 := (K411.out.2 2 (by decide)).1
    have v1 : w20.cell? ((ra4 2).add 1) = some (Value.int .i64 (t 5)) := by have h := (K411.out.2 2 (by decide)).2.2 1 (by decide); rw [show s (2 * 3 + 1) = t 5 from P12.out.2.1] at h; exact h
    have u2 := (K58.out.2 1 (by decide)).1
    have v2 : w20.cell? ((ra5 1).add 2) = some (Value.int .i64 (mm 5)) := by have h := (K58.out.2 1 (by decide)).2.2 2 (by decide); exact h
    have u3 := (K64.out.2 2 (by decide)).1
    have v3 : w20.cell? ((ra6 2).add 0) = some (Value.int .i64 (t 5)) := by have h := (K64.out.2 2 (by decide)).2.2 0 (by decide); rw [show d (2 * 3 + 0) = t 5 from P12.out.2.2.2] at h; exact h
    try simp only [add0, add1, add2] at u0 u1 u2 u3 v0 v1 v2 v3
    have hle := P12.out.2.2.1
    go_wp2_with fail
    clear u0 u1 u2 u3 v0 v1 v2 v3 hle
    rw [rounds_succ]
    go_wp2_with fail
    rw [rounds_succ]
    go_wp2_with fail
    refine wp_loop_rounds 4 ?_
    rw [rounds_succ]
    obtain ⟨x0_0, x0_1, x0_2, x0_3, x0_4, x0_5, x0_6, x0_7, x0_8⟩ := D19.out.nine
    try simp only [z9] at x0_0 x0_1 x0_2 x0_3 x0_4 x0_5 x0_6 x0_7 x0_8
    go_wp2_with fail
    refine (P20.out.1 _).mono ?_
    rintro e w21 ⟨rfl, hb⟩
    clear x0_0 x0_1 x0_2 x0_3 x0_4 x0_5 x0_6 x0_7 x0_8
    have HB22 := Lib.hid (HB21.out.trans ((hb).mono HB21.out.size))
    have HA22 := Lib.hid (HA21.out.below hb)
    have D20 := Lib.hid (D19.out.below hb D19.out.lt)
    have K115 := Lib.hid (K114.out.below hb)
    have K412 := Lib.hid (K411.out.below hb)
    have K59 := Lib.hid (K58.out.below hb)
    have K65 := Lib.hid (K64.out.below hb)
    clear HB21 HA21 D19 K114 K411 K58 K64
    clear hb
    have u0 := (K115.out.2 2 (by decide)).1
    have v0 : w21.cell? ((ra1 2).add 0) = some (Value.int .i64 (t 6)) := by have h := (K115.out.2 2 (by decide)).2.2 0 (by decide); exact h
    have u1 := (K412.out.2 0 (by decide)).1
    have v1 : w21.cell? ((ra4 0).add 2) = some (Value.int .i64 (t 6)) := by have h := (K412.out.2 0 (by decide)).2.2 2 (by decide); rw [show s (0 * 3 + 2) = t 6 from P20.out.2.1] at h; exact h
    have u2 := (K59.out.2 2 (by decide)).1
    have v2 : w21.cell? ((ra5 2).add 0) = some (Value.int .i64 (mm 6)) := by have h := (K59.out.2 2 (by decide)).2.2 0 (by decide); exact h
    have u3 := (K65.out.2 0 (by decide)).1
    have v3 : w21.cell? ((ra6 0).add 1) = some (Value.int .i64 (t 6)) := by have h := (K65.out.2 0 (by decide)).2.2 1 (by decide); rw [show d (0 * 3 + 1) = t 6 from P20.out.2.2.2] at h; exact h
    try simp only [add0, add1, add2] at u0 u1 u2 u3 v0 v1 v2 v3
    have hle := P20.out.2.2.1
    go_wp2_with fail
    clear u0 u1 u2 u3 v0 v1 v2 v3 hle
    rw [rounds_succ]
    obtain ⟨x0_0, x0_1, x0_2, x0_3, x0_4, x0_5, x0_6, x0_7, x0_8⟩ := D20.out.nine
    try simp only [z9] at x0_0 x0_1 x0_2 x0_3 x0_4 x0_5 x0_6 x0_7 x0_8
    go_wp2_with fail
    refine (P21.out.1 _).mono ?_
    rintro e w22 ⟨rfl, hb⟩
    clear x0_0 x0_1 x0_2 x0_3 x0_4 x0_5 x0_6 x0_7 x0_8
    have HB23 := Lib.hid (HB22.out.trans ((hb).mono HB22.out.size))
    have HA23 := Lib.hid (HA22.out.below hb)
    have D21 := Lib.hid (D20.out.below hb D20.out.lt)
    have K116 := Lib.hid (K115.out.below hb)
    have K413 := Lib.hid (K412.out.below hb)
    have K510 := Lib.hid (K59.out.below hb)
    have K66 := Lib.hid (K65.out.below hb)
    clear HB22 HA22 D20 K115 K412 K59 K65
    clear hb
    have u0 := (K116.out.2 2 (by decide)).1
    have v0 : w22.cell? ((ra1 2).add 1) = some (Value.int .i64 (t 7)) := by have h := (K116.out.2 2 (by decide)).2.2 1 (by decide); exact h
    have u1 := (K413.out.2 1 (by decide)).1
    have v1 : w22.cell? ((ra4 1).add 2) = some (Value.int .i64 (t 7)) := by have h := (K413.out.2 1 (by decide)).2.2 2 (by decide); rw [show s (1 * 3 + 2) = t 7 from P21.out.2.1] at h; exact h
    have u2 := (K510.out.2 2 (by decide)).1
    have v2 : w22.cell? ((ra5 2).add 1) = some (Value.int .i64 (mm 7)) := by have h := (K510.out.2 2 (by decide)).2.2 1 (by decide); exact h
    have u3 := (K66.out.2 0 (by decide)).1
    have v3 : w22.cell? ((ra6 0).add 2) = some (Value.int .i64 (t 7)) := by have h := (K66.out.2 0 (by decide)).2.2 2 (by decide); rw [show d (0 * 3 + 2) = t 7 from P21.out.2.2.2] at h; exact h
    try simp only [add0, add1, add2] at u0 u1 u2 u3 v0 v1 v2 v3
    have hle := P21.out.2.2.1
    go_wp2_with fail
    clear u0 u1 u2 u3 v0 v1 v2 v3 hle
    rw [rounds_succ]
    go_wp2_with fail
    rw [rounds_succ]
    go_wp2_with fail
    rw [rounds_succ]
    clear P01 P02 P10 P12 P20 P21
    clear D21
    clear K116
    clear K413
    clear K510
    clear K66
    go_wp2_with fail
    refine (DrawNumberByRules_ret A n c _ HN.out HA23.out (fun ad e h => Nat.lt_of_lt_of_le (HL.out ad e h) HB23.out.size)).mono ?_
    rintro e w23 ⟨r1, n1, i1, j1, rfl, hR, hb⟩
    have HB24 := Lib.hid (HB23.out.trans ((hb).mono HB23.out.size))
    have HA24 := Lib.hid (HA23.out.below hb)
    clear HB23 HA23
    clear hb
    have hal : Below w23.heap.size w23 (w23.alloc (.cells (z9 r1) 26)) := (Below.refl _ _).alloc (Nat.le_refl _) _
    have hbx := Box.new w23 26 (z9 r1)
    have HB25 := Lib.hid (HB24.out.trans ((hal).mono HB24.out.size))
    have HA25 := Lib.hid (HA24.out.below hal)
    clear HB24 HA24
    have DA0 := Lib.hid (hbx)
    clear hal hbx
    unfold z9
    obtain ⟨V1, E1, g1, g2⟩ := nu_all r1 n1 i1 j1 hR
    clear hR
    have G1 := Lib.hid g1
    have G2 := Lib.hid g2
    clear g1 g2
    obtain ⟨x0_0, x0_1, x0_2, x0_3, x0_4, x0_5, x0_6, x0_7, x0_8⟩ := DA0.out.nine
    try simp only [z9] at x0_0 x0_1 x0_2 x0_3 x0_4 x0_5 x0_6 x0_7 x0_8
    go_wp2_with fail
    refine (G1.out _).mono ?_
    rintro e w24 ⟨rfl, hb⟩
    clear x0_0 x0_1 x0_2 x0_3 x0_4 x0_5 x0_6 x0_7 x0_8
    have HB26 := Lib.hid (HB25.out.trans ((hb).mono HB25.out.size))
    have HA26 := Lib.hid (HA25.out.below hb)
    have DA1 := Lib.hid (DA0.out.below hb DA0.out.lt)
    clear HB25 HA25 DA0
    clear hb
    obtain ⟨x0_0, x0_1, x0_2, x0_3, x0_4, x0_5, x0_6, x0_7, x0_8⟩ := DA1.out.nine
    try simp only [z9] at x0_0 x0_1 x0_2 x0_3 x0_4 x0_5 x0_6 x0_7 x0_8
    go_wp2_with fail
    refine (G2.out _).mono ?_
    rintro e w25 ⟨rfl, hb⟩
    clear x0_0 x0_1 x0_2 x0_3 x0_4 x0_5 x0_6 x0_7 x0_8
    have HB27 := Lib.hid (HB26.out.trans ((hb).mono HB26.out.size))
    have HA27 := Lib.hid (HA26.out.below hb)
    have DA2 := Lib.hid (DA1.out.below hb DA1.out.lt)
    clear HB26 HA26 DA1
    clear hb
    clear G1 G2
    clear DA2
    go_wp2_with fail
    refine (DrawNamedRules_calls A n c _ HN.out HA27.out (fun ad e h => Nat.lt_of_lt_of_le (HL.out ad e h) HB27.out.size)).mono ?_
    rintro e w26 ⟨s2, rfl, hb⟩
    have HB28 := Lib.hid (HB27.out.trans ((hb).mono HB27.out.size))
    have HA28 := Lib.hid (HA27.out.below hb)
    clear HB27 HA27
    clear hb
    obtain ⟨R2, E2, q2, g1, g2⟩ := nm_all s2
    have Q2 := Lib.hid q2
    have G1 := Lib.hid g1
    have G2 := Lib.hid g2
    clear q2 g1 g2
    go_wp2_with fail
    refine (G1.out _).mono ?_
    rintro e w27 ⟨rfl, hb⟩
    have HB29 := Lib.hid (HB28.out.trans ((hb).mono HB28.out.size))
    have HA29 := Lib.hid (HA28.out.below hb)
    clear HB28 HA28
    clear hb
    have hal : Below w27.heap.size w27 (w27.alloc (.cells (z9 R2) 26)) := (Below.refl _ _).alloc (Nat.le_refl _) _
    have hbx := Box.new w27 26 (z9 R2)
    have HB30 := Lib.hid (HB29.out.trans ((hal).mono HB29.out.size))
    have HA30 := Lib.hid (HA29.out.below hal)
    clear HB29 HA29
    have NA0 := Lib.hid (hbx)
    clear hal hbx
    unfold z9
    go_wp2_with fail
    refine (G2.out _).mono ?_
    rintro e w28 ⟨rfl, hb⟩
    have HB31 := Lib.hid (HB30.out.trans ((hb).mono HB30.out.size))
    have HA31 := Lib.hid (HA30.out.below hb)
    have NA1 := Lib.hid (NA0.out.below hb NA0.out.lt)
    clear HB30 HA30 NA0
    clear hb
    have hal : Below w28.heap.size w28 (w28.alloc (.cells (z9 R2) 26)) := (Below.refl _ _).alloc (Nat.le_refl _) _
    have hbx := Box.new w28 26 (z9 R2)
    have HB32 := Lib.hid (HB31.out.trans ((hal).mono HB31.out.size))
    have HA32 := Lib.hid (HA31.out.below hal)
    have NA2 := Lib.hid (NA1.out.below hal NA1.out.lt)
    clear HB31 HA31 NA1
    have NB0 := Lib.hid (hbx)
    clear hal hbx
    unfold z9
    clear G1 G2
    go_wp2_with fail
    refine (DrawAreStrong_ret A n c _ HN.out HA32.out (fun ad e h => Nat.lt_of_lt_of_le (HL.out ad e h) HB32.out.size)).mono ?_
    rintro e w29 ⟨r3, rfl, hR, hb⟩
    have HB33 := Lib.hid (HB32.out.trans ((hb).mono HB32.out.size))
    have HA33 := Lib.hid (HA32.out.below hb)
    have NA3 := Lib.hid (NA2.out.below hb NA2.out.lt)
    have NB1 := Lib.hid (NB0.out.below hb NB0.out.lt)
    clear HB32 HA32 NA2 NB0
    clear hb
    have hal : Below w29.heap.size w29 (w29.alloc (.cells (z9 r3) 26)) := (Below.refl _ _).alloc (Nat.le_refl _) _
    have hbx := Box.new w29 26 (z9 r3)
    have HB34 := Lib.hid (HB33.out.trans ((hal).mono HB33.out.size))
    have HA34 := Lib.hid (HA33.out.below hal)
    have NA4 := Lib.hid (NA3.out.below hal NA3.out.lt)
    have NB2 := Lib.hid (NB1.out.below hal NB1.out.lt)
    clear HB33 HA33 NA3 NB1
    have DB0 := Lib.hid (hbx)
    clear hal hbx
    unfold z9
    obtain ⟨V3, E3, g1, g2⟩ := st_all r3 hR
    clear hR
    have G1 := Lib.hid g1
    have G2 := Lib.hid g2
    clear g1 g2
    obtain ⟨x0_0, x0_1, x0_2, x0_3, x0_4, x0_5, x0_6, x0_7, x0_8⟩ := DB0.out.nine
    try simp only [z9] at x0_0 x0_1 x0_2 x0_3 x0_4 x0_5 x0_6 x0_7 x0_8
    go_wp2_with fail
    refine (G1.out _).mono ?_
    rintro e w30 ⟨rfl, hb⟩
    clear x0_0 x0_1 x0_2 x0_3 x0_4 x0_5 x0_6 x0_7 x0_8
    have HB35 := Lib.hid (HB34.out.trans ((hb).mono HB34.out.size))
    have HA35 := Lib.hid (HA34.out.below hb)
    have NA5 := Lib.hid (NA4.out.below hb NA4.out.lt)
    have NB3 := Lib.hid (NB2.out.below hb NB2.out.lt)
    have DB1 := Lib.hid (DB0.out.below hb DB0.out.lt)
    clear HB34 HA34 NA4 NB2 DB0
    clear hb
    obtain ⟨x0_0, x0_1, x0_2, x0_3, x0_4, x0_5, x0_6, x0_7, x0_8⟩ := DB1.out.nine
    try simp only [z9] at x0_0 x0_1 x0_2 x0_3 x0_4 x0_5 x0_6 x0_7 x0_8
    go_wp2_with fail
    refine (G2.out _).mono ?_
    rintro e w31 ⟨rfl, hb⟩
    clear x0_0 x0_1 x0_2 x0_3 x0_4 x0_5 x0_6 x0_7 x0_8
    have HB36 := Lib.hid (HB35.out.trans ((hb).mono HB35.out.size))
    have HA36 := Lib.hid (HA35.out.below hb)
    have NA6 := Lib.hid (NA5.out.below hb NA5.out.lt)
    have NB4 := Lib.hid (NB3.out.below hb NB3.out.lt)
    have DB2 := Lib.hid (DB1.out.below hb DB1.out.lt)
    clear HB35 HA35 NA5 NB3 DB1
    clear hb
    clear G1 G2
    clear DB2
    go_wp2_with fail
    refine (DrawTurnRules_ret A n c _ HN.out HA36.out (fun ad e h => Nat.lt_of_lt_of_le (HL.out ad e h) HB36.out.size)).mono ?_
    rintro e w32 ⟨r4, rfl, hR, hb⟩
    have HB37 := Lib.hid (HB36.out.trans ((hb).mono HB36.out.size))
    have HA37 := Lib.hid (HA36.out.below hb)
    have NA7 := Lib.hid (NA6.out.below hb NA6.out.lt)
    have NB5 := Lib.hid (NB4.out.below hb NB4.out.lt)
    clear HB36 HA36 NA6 NB4
    clear hb
    have hal : Below w32.heap.size w32 (w32.alloc (.cells (z9 r4) 26)) := (Below.refl _ _).alloc (Nat.le_refl _) _
    have hbx := Box.new w32 26 (z9 r4)
    have HB38 := Lib.hid (HB37.out.trans ((hal).mono HB37.out.size))
    have HA38 := Lib.hid (HA37.out.below hal)
    have NA8 := Lib.hid (NA7.out.below hal NA7.out.lt)
    have NB6 := Lib.hid (NB5.out.below hal NB5.out.lt)
    clear HB37 HA37 NA7 NB5
    have DC0 := Lib.hid (hbx)
    clear hal hbx
    unfold z9
    obtain ⟨R4, E4, q4, g1, g2⟩ := tu_all r4 hR
    clear hR
    have Q4 := Lib.hid q4
    have G1 := Lib.hid g1
    have G2 := Lib.hid g2
    clear q4 g1 g2
    obtain ⟨x0_0, x0_1, x0_2, x0_3, x0_4, x0_5, x0_6, x0_7, x0_8⟩ := DC0.out.nine
    try simp only [z9] at x0_0 x0_1 x0_2 x0_3 x0_4 x0_5 x0_6 x0_7 x0_8
    go_wp2_with fail
    refine (G1.out _).mono ?_
    rintro e w33 ⟨rfl, hb⟩
    clear x0_0 x0_1 x0_2 x0_3 x0_4 x0_5 x0_6 x0_7 x0_8
    have HB39 := Lib.hid (HB38.out.trans ((hb).mono HB38.out.size))
    have HA39 := Lib.hid (HA38.out.below hb)
    have NA9 := Lib.hid (NA8.out.below hb NA8.out.lt)
    have NB7 := Lib.hid (NB6.out.below hb NB6.out.lt)
    have DC1 := Lib.hid (DC0.out.below hb DC0.out.lt)
    clear HB38 HA38 NA8 NB6 DC0
    clear hb
    have hal : Below w33.heap.size w33 (w33.alloc (.cells (z9 R4) 26)) := (Below.refl _ _).alloc (Nat.le_refl _) _
    have hbx := Box.new w33 26 (z9 R4)
    have HB40 := Lib.hid (HB39.out.trans ((hal).mono HB39.out.size))
    have HA40 := Lib.hid (HA39.out.below hal)
    have NA10 := Lib.hid (NA9.out.below hal NA9.out.lt)
    have NB8 := Lib.hid (NB7.out.below hal NB7.out.lt)
    have DC2 := Lib.hid (DC1.out.below hal DC1.out.lt)
    clear HB39 HA39 NA9 NB7 DC1
    have TA0 := Lib.hid (hbx)
    clear hal hbx
    unfold z9
    obtain ⟨x0_0, x0_1, x0_2, x0_3, x0_4, x0_5, x0_6, x0_7, x0_8⟩ := DC2.out.nine
    try simp only [z9] at x0_0 x0_1 x0_2 x0_3 x0_4 x0_5 x0_6 x0_7 x0_8
    go_wp2_with fail
    refine (G2.out _).mono ?_
    rintro e w34 ⟨rfl, hb⟩
    clear x0_0 x0_1 x0_2 x0_3 x0_4 x0_5 x0_6 x0_7 x0_8
    have HB41 := Lib.hid (HB40.out.trans ((hb).mono HB40.out.size))
    have HA41 := Lib.hid (HA40.out.below hb)
    have NA11 := Lib.hid (NA10.out.below hb NA10.out.lt)
    have NB9 := Lib.hid (NB8.out.below hb NB8.out.lt)
    have DC3 := Lib.hid (DC2.out.below hb DC2.out.lt)
    have TA1 := Lib.hid (TA0.out.below hb TA0.out.lt)
    clear HB40 HA40 NA10 NB8 DC2 TA0
    clear hb
    have hal : Below w34.heap.size w34 (w34.alloc (.cells (z9 R4) 26)) := (Below.refl _ _).alloc (Nat.le_refl _) _
    have hbx := Box.new w34 26 (z9 R4)
    have HB42 := Lib.hid (HB41.out.trans ((hal).mono HB41.out.size))
    have HA42 := Lib.hid (HA41.out.below hal)
    have NA12 := Lib.hid (NA11.out.below hal NA11.out.lt)
    have NB10 := Lib.hid (NB9.out.below hal NB9.out.lt)
    have DC4 := Lib.hid (DC3.out.below hal DC3.out.lt)
    have TA2 := Lib.hid (TA1.out.below hal TA1.out.lt)
    clear HB41 HA41 NA11 NB9 DC3 TA1
    have TC0 := Lib.hid (hbx)
    clear hal hbx
    unfold z9
    clear G1 G2
    clear DC4
    go_wp2_with fail
    refine (DrawRenameRules_ret A n c _ HN.out HA42.out (fun ad e h => Nat.lt_of_lt_of_le (HL.out ad e h) HB42.out.size)).mono ?_
    rintro e w35 ⟨r5, A5, m5, c5, L5, rfl, hR, hO, hm5, hb⟩
    have HB43 := Lib.hid (HB42.out.trans ((hb).mono HB42.out.size))
    have HA43 := Lib.hid (HA42.out.below hb)
    have NA13 := Lib.hid (NA12.out.below hb NA12.out.lt)
    have NB11 := Lib.hid (NB10.out.below hb NB10.out.lt)
    have TA3 := Lib.hid (TA2.out.below hb TA2.out.lt)
    have TC1 := Lib.hid (TC0.out.below hb TC0.out.lt)
    clear HB42 HA42 NA12 NB10 TA2 TC0
    have WL0 := Lib.hid (hO.ints)
    clear hb
    have hal : Below w35.heap.size w35 (w35.alloc (.cells (z9 r5) 26)) := (Below.refl _ _).alloc (Nat.le_refl _) _
    have hbx := Box.new w35 26 (z9 r5)
    have HB44 := Lib.hid (HB43.out.trans ((hal).mono HB43.out.size))
    have HA44 := Lib.hid (HA43.out.below hal)
    have NA14 := Lib.hid (NA13.out.below hal NA13.out.lt)
    have NB12 := Lib.hid (NB11.out.below hal NB11.out.lt)
    have TA4 := Lib.hid (TA3.out.below hal TA3.out.lt)
    have TC2 := Lib.hid (TC1.out.below hal TC1.out.lt)
    have WL1 := Lib.hid (WL0.out.below hal)
    clear HB43 HA43 NA13 NB11 TA3 TC1 WL0
    have DD0 := Lib.hid (hbx)
    clear hal hbx
    unfold z9
    clear HA44
    obtain ⟨R5, E5, q5, g1, g2⟩ := rn_all r5 m5 L5 hR (Own.len hO) hm5
    clear hR hO
    have Q5 := Lib.hid q5
    have G1 := Lib.hid g1
    have G2 := Lib.hid g2
    clear q5 g1 g2
    obtain ⟨x0_0, x0_1, x0_2, x0_3, x0_4, x0_5, x0_6, x0_7, x0_8⟩ := DD0.out.nine
    try simp only [z9] at x0_0 x0_1 x0_2 x0_3 x0_4 x0_5 x0_6 x0_7 x0_8
    go_wp2_with fail
    refine (G1.out A5 c5 _ WL1.out).mono ?_
    rintro e w36 ⟨rfl, hb⟩
    clear x0_0 x0_1 x0_2 x0_3 x0_4 x0_5 x0_6 x0_7 x0_8
    have HB45 := Lib.hid (HB44.out.trans ((hb).mono HB44.out.size))
    have NA15 := Lib.hid (NA14.out.below hb NA14.out.lt)
    have NB13 := Lib.hid (NB12.out.below hb NB12.out.lt)
    have TA5 := Lib.hid (TA4.out.below hb TA4.out.lt)
    have TC3 := Lib.hid (TC2.out.below hb TC2.out.lt)
    have WL2 := Lib.hid (WL1.out.below hb)
    have DD1 := Lib.hid (DD0.out.below hb DD0.out.lt)
    clear HB44 NA14 NB12 TA4 TC2 WL1 DD0
    clear hb
    have hal : Below w36.heap.size w36 (w36.alloc (.cells (z9 R5) 26)) := (Below.refl _ _).alloc (Nat.le_refl _) _
    have hbx := Box.new w36 26 (z9 R5)
    have HB46 := Lib.hid (HB45.out.trans ((hal).mono HB45.out.size))
    have NA16 := Lib.hid (NA15.out.below hal NA15.out.lt)
    have NB14 := Lib.hid (NB13.out.below hal NB13.out.lt)
    have TA6 := Lib.hid (TA5.out.below hal TA5.out.lt)
    have TC4 := Lib.hid (TC3.out.below hal TC3.out.lt)
    have WL3 := Lib.hid (WL2.out.below hal)
    have DD2 := Lib.hid (DD1.out.below hal DD1.out.lt)
    clear HB45 NA15 NB13 TA5 TC3 WL2 DD1
    have RA0 := Lib.hid (hbx)
    clear hal hbx
    unfold z9
    obtain ⟨x0_0, x0_1, x0_2, x0_3, x0_4, x0_5, x0_6, x0_7, x0_8⟩ := DD2.out.nine
    try simp only [z9] at x0_0 x0_1 x0_2 x0_3 x0_4 x0_5 x0_6 x0_7 x0_8
    go_wp2_with fail
    refine (G2.out A5 c5 _ WL3.out).mono ?_
    rintro e w37 ⟨rfl, hb⟩
    clear x0_0 x0_1 x0_2 x0_3 x0_4 x0_5 x0_6 x0_7 x0_8
    have HB47 := Lib.hid (HB46.out.trans ((hb).mono HB46.out.size))
    have NA17 := Lib.hid (NA16.out.below hb NA16.out.lt)
    have NB15 := Lib.hid (NB14.out.below hb NB14.out.lt)
    have TA7 := Lib.hid (TA6.out.below hb TA6.out.lt)
    have TC5 := Lib.hid (TC4.out.below hb TC4.out.lt)
    have WL4 := Lib.hid (WL3.out.below hb)
    have DD3 := Lib.hid (DD2.out.below hb DD2.out.lt)
    have RA1 := Lib.hid (RA0.out.below hb RA0.out.lt)
    clear HB46 NA16 NB14 TA6 TC4 WL3 DD2 RA0
    clear hb
    have hal : Below w37.heap.size w37 (w37.alloc (.cells (z9 R5) 26)) := (Below.refl _ _).alloc (Nat.le_refl _) _
    have hbx := Box.new w37 26 (z9 R5)
    have HB48 := Lib.hid (HB47.out.trans ((hal).mono HB47.out.size))
    have NA18 := Lib.hid (NA17.out.below hal NA17.out.lt)
    have NB16 := Lib.hid (NB15.out.below hal NB15.out.lt)
    have TA8 := Lib.hid (TA7.out.below hal TA7.out.lt)
    have TC6 := Lib.hid (TC5.out.below hal TC5.out.lt)
    have WL5 := Lib.hid (WL4.out.below hal)
    have DD4 := Lib.hid (DD3.out.below hal DD3.out.lt)
    have RA2 := Lib.hid (RA1.out.below hal RA1.out.lt)
    clear HB47 NA17 NB15 TA7 TC5 WL4 DD3 RA1
    have RC0 := Lib.hid (hbx)
    clear hal hbx
    unfold z9
    clear G1 G2
    clear DD4
    clear WL5
    obtain ⟨x0_0, x0_1, x0_2, x0_3, x0_4, x0_5, x0_6, x0_7, x0_8⟩ := NA18.out.nine
    try simp only [z9] at x0_0 x0_1 x0_2 x0_3 x0_4 x0_5 x0_6 x0_7 x0_8
    obtain ⟨x1_0, x1_1, x1_2, x1_3, x1_4, x1_5, x1_6, x1_7, x1_8⟩ := NB16.out.nine
    try simp only [z9] at x1_0 x1_1 x1_2 x1_3 x1_4 x1_5 x1_6 x1_7 x1_8
    obtain ⟨x2_0, x2_1, x2_2, x2_3, x2_4, x2_5, x2_6, x2_7, x2_8⟩ := TA8.out.nine
    try simp only [z9] at x2_0 x2_1 x2_2 x2_3 x2_4 x2_5 x2_6 x2_7 x2_8
    obtain ⟨x3_0, x3_1, x3_2, x3_3, x3_4, x3_5, x3_6, x3_7, x3_8⟩ := TC6.out.nine
    try simp only [z9] at x3_0 x3_1 x3_2 x3_3 x3_4 x3_5 x3_6 x3_7 x3_8
    obtain ⟨x4_0, x4_1, x4_2, x4_3, x4_4, x4_5, x4_6, x4_7, x4_8⟩ := RA2.out.nine
    try simp only [z9] at x4_0 x4_1 x4_2 x4_3 x4_4 x4_5 x4_6 x4_7 x4_8
    obtain ⟨x5_0, x5_1, x5_2, x5_3, x5_4, x5_5, x5_6, x5_7, x5_8⟩ := RC0.out.nine
    try simp only [z9] at x5_0 x5_1 x5_2 x5_3 x5_4 x5_5 x5_6 x5_7 x5_8
    have hq2 := Q2.out
    have hq4 := Q4.out
    have hq5 := Q5.out
    unfold z9 at hq2 hq4 hq5
    go_wp2
    go_ret
    exact ⟨rfl, HB48.out⟩

end Go.Proofs.Ytfdjlgpdbgmdkac
