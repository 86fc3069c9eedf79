/- Contracts: the rules with the directions of renamed rules. -/
import Derived.Test.YtekakcpjfjmejaaRuTurn
import Derived.Test.YtekakcpjfjmejaaRename
import Derived.Test.YtekakcpjfjmejaaRtc
namespace Go.Proofs.Ytekakcpjfjmejaa
open Go.RowKit Go.Shelf
set_option linter.unusedVariables false
set_option linter.unusedSimpArgs false
attribute [local go_sem] Oper.semAt_some

/-- A list of the three pegs is one of six. -/
theorem perm3 {L : List Int} (h : permB 3 L = true) : L = [0, 1, 2] ∨ L = [0, 2, 1] ∨ L = [1, 0, 2] ∨ L = [1, 2, 0] ∨ L = [2, 0, 1] ∨ L = [2, 1, 0] := by
  have hl := perm_len h
  have hk : okTo 3 L L.length = true := by unfold permB at h; rw [Bool.and_eq_true] at h; exact h.2
  have hat := okTo_at L.length hk
  match L, hl with
  | [a, b, c], _ =>
    have h0 := hat 0 (by simp)
    have h1 := hat 1 (by simp)
    have h2 := hat 2 (by simp)
    simp at h0 h1 h2
    clear hk hat hl
    rcases (by omega : a = 0 ∨ a = 1 ∨ a = 2) with rfl | rfl | rfl <;> rcases (by omega : b = 0 ∨ b = 1 ∨ b = 2) with rfl | rfl | rfl <;> rcases (by omega : c = 0 ∨ c = 1 ∨ c = 2) with rfl | rfl | rfl <;>
      first | (exact absurd h (by decide)) | simp
theorem ix3 {L : List Int} (h : permB 3 L = true) {i : Int} (hi : 0 ≤ i ∧ i < 3) : 0 ≤ ixV i L ∧ ixV i L < 3 := by
  rcases in3 hi with rfl | rfl | rfl <;> rcases perm3 h with rfl | rfl | rfl | rfl | rfl | rfl <;> decide

theorem oldName_calls (v : Value) (A : Option Addr) (n c : Nat) (L : List Int) (p : Int) (w : World) (hL : L.length = n) (hn : n ≤ 1000) (hI : Ints w A L) :
    Calls Try.prog 69 #[.agg #[v, .slice A n c], .int .i64 p] w fun e w' => e = .returned (.int .i64 (ixV p L)) ∧ Below w.heap.size w w' := by
  have HL := Lib.hid hL
  have hI0 := hI.below ((Below.refl w.heap.size w).alloc (Nat.le_refl _) (.cells #[v, .slice A n c] 63))
  have HI := Lib.hid hI0
  clear hL hI hI0
  go_enter Try.func69, Try.ntmps69
  go_wp2_with (refine (index_calls A n c L p _ HL.out hn HI.out).mono ?_; rintro e w' ⟨rfl, rfl⟩)
  go_ret
  exact ⟨rfl, (Below.refl _ _).alloc (Nat.le_refl _) _⟩

set_option maxRecDepth 100000 in
set_option maxHeartbeats 4000000 in
theorem allowsN_calls (r : Nat → Int) (A : Option Addr) (n c : Nat) (L : List Int) (i j : Int) (hi : 0 ≤ i ∧ i < 3) (hj : 0 ≤ j ∧ j < 3) (w : World) (hL : L.length = n) (hn : n ≤ 1000) (hI : Ints w A L) (hp : permB 3 L = true) :
    Calls Try.prog 68 #[.agg #[.iface 25 (.agg (z9 r)), .slice A n c], .int .i64 i, .int .i64 j] w fun e w' => e = .returned (.bool (alR r (ixV i L) (ixV j L))) ∧ Below w.heap.size w w' := by
  have HL := Lib.hid hL
  have HI := Lib.hid hI
  have h1 := ix3 hp hi
  have h2 := ix3 hp hj
  have X0 := Lib.hid (Box.new w 63 #[.iface 25 (.agg (z9 r)), .slice A n c])
  have HB := Lib.hid ((Below.refl w.heap.size w).alloc (Nat.le_refl _) (.cells #[.iface 25 (.agg (z9 r)), .slice A n c] 63))
  have HI1 := Lib.hid (hI.below HB.out)
  clear hL hI hp
  go_enter Try.func68, Try.ntmps68
  go_wp2_with fail
  obtain ⟨c0, c1, f0, f1⟩ := X0.out.two
  generalize w.alloc (.cells #[.iface 25 (.agg (z9 r)), .slice A n c] 63) = w1 at *
  have hz : w.heap.size < w1.heap.size := X0.out.lt
  have hm := meth_R r
  have hI := HI1.out
  have hbb := HB.out
  clear f0 f1 HI HI1 HB X0
  go_region_held3 (fun w' => w'.cell? ⟨w.heap.size, 0, none⟩ = some (.iface 25 (.agg (z9 r))) ∧ w'.cell? ⟨w.heap.size, 1, none⟩ = some (.slice A n c))
    (first | exact ⟨c0, c1⟩ | go_keep)
    (first
    | (go_at_call 69; refine (oldName_calls _ A n c L _ _ HL.out hn ?_).mono ?_; (exact hI); rintro e w2 ⟨rfl, hb⟩; have hI := (show Ints w2 A L by first | exact hI.below (undrew hb) | exact hI.below hb); have c0 := (hb.cell (p := ⟨w.heap.size, 0, none⟩) (by exact hz)).trans c0; have c1 := (hb.cell (p := ⟨w.heap.size, 1, none⟩) (by exact hz)).trans c1; have hbb := (show Below w.heap.size w w2 by first | exact hbb.trans ((undrew hb).mono hbb.size) | exact hbb.trans (hb.mono hbb.size)); have hz := Nat.lt_of_lt_of_le hz (by have := hb.size; exact this); clear hb)
    | (refine (allowsR_calls' r _ _ h1 h2 _).mono ?_; rintro e w2 ⟨rfl, hb⟩; have hI := (show Ints w2 A L by first | exact hI.below (undrew hb) | exact hI.below hb); have c0 := (hb.cell (p := ⟨w.heap.size, 0, none⟩) (by exact hz)).trans c0; have c1 := (hb.cell (p := ⟨w.heap.size, 1, none⟩) (by exact hz)).trans c1; have hbb := (show Below w.heap.size w w2 by first | exact hbb.trans ((undrew hb).mono hbb.size) | exact hbb.trans (hb.mono hbb.size)); have hz := Nat.lt_of_lt_of_le hz (by have := hb.size; exact this); clear hb))
  go_wp2
  go_ret
  exact ⟨rfl, hbb⟩

theorem meth_N (v u : Value) (w : World) : Sem.run Try.prog (method 200 63 (.agg #[v, u]) "loop.example/g01321/impl.allows") w = .ok (68, .agg #[v, u]) w := by kernel_rfl

set_option maxRecDepth 100000 in
set_option maxHeartbeats 4000000 in
theorem rulesOfN_calls (r : Nat → Int) (A : Option Addr) (n c : Nat) (L : List Int) (w : World) (hL : L.length = n) (hn : n ≤ 1000) (hI : Ints w A L) (hp : permB 3 L = true) :
    Calls Try.prog 27 #[.iface 63 (.agg #[.iface 25 (.agg (z9 r)), .slice A n c])] w fun e w' => e = .returned (.agg (z9 (rP (fun i j => alR r (ixV i L) (ixV j L)) ppAll))) ∧ Below w.heap.size w w' := by
  have HL := Lib.hid hL
  have HI := Lib.hid hI
  have HPM := Lib.hid hp
  clear hL hI hp
  refine (callsIn_wide (n := 6)).1 ?_
  refine callsIn_of_wp_marks Try.func27 rfl trivial ?_ rfl
  simp only [Try.ntmps27, List.size_toArray, List.length_cons, List.length_nil, Nat.reduceAdd, Nat.reduceSub, Array.replicate_succ, Array.replicate_zero, List.push_toArray, List.append_toArray, List.nil_append, List.cons_append]
  have D0 := Box.new w 57 #[.iface 63 (.agg #[.iface 25 (.agg (z9 r)), .slice A n c])]
  have D1 := D0.alloc (.cells (z9 (fun _ => 0)) 25)
  have D2 := D1.alloc (.cells (z9 (fun _ => 0)) 25)
  have Q0 := Box.new (w.alloc (.cells #[.iface 63 (.agg #[.iface 25 (.agg (z9 r)), .slice A n c])] 57)) 25 (z9 (fun _ => 0))
  have Q1 := Q0.alloc (.cells (z9 (fun _ => 0)) 25)
  have R0 := Box.new ((w.alloc (.cells #[.iface 63 (.agg #[.iface 25 (.agg (z9 r)), .slice A n c])] 57)).alloc (.cells (z9 (fun _ => 0)) 25)) 25 (z9 (fun _ => 0))
  simp only [World.size_alloc] at Q1 R0
  have B0 : Below w.heap.size w (((w.alloc (.cells #[.iface 63 (.agg #[.iface 25 (.agg (z9 r)), .slice A n c])] 57)).alloc (.cells (z9 (fun _ => 0)) 25)).alloc (.cells (z9 (fun _ => 0)) 25)) := (((Below.refl _ _).alloc (Nat.le_refl _) _).alloc (by simp) _).alloc (by simp; omega) _
  clear D0 D1 Q0
  gi_wp2_with (refine ⟨trivial, ?_⟩; gi_at_call 39; refine (pegPairs_calls _ _).mono ?_; rintro e w' ⟨rfl, rfl⟩)
  change Box _ _ _ (z9 (rP (fun i j => alR r (ixV i L) (ixV j L)) [])) at R0
  refine wpIn_rangeFunc_ownG rfl (by omega) (gf := 46) (lb := #[]) rfl trivial (enters_of Try.func46 (by kernel_rfl) rfl)
    (pegPairs_stops _ (by omega) _) (fun _ _ => trivial) (fun _ _ _ _ _ _ _ _ => trivial) (Below.refl _ _) (fun _ => rfl)
    (fun pre W => ((Box W (w.heap.size + 1 + 1) 25 (z9 (rP (fun i j => alR r (ixV i L) (ixV j L)) pre)) ∧ Box W w.heap.size 57 #[.iface 63 (.agg #[.iface 25 (.agg (z9 r)), .slice A n c])]) ∧ Box W (w.heap.size + 1) 25 (z9 (fun _ => 0))) ∧ Below w.heap.size w W)
    (fun _ _ _ => False)
    (OwnFrom.and (OwnFrom.and (OwnFrom.and (Own.from (box_ownS _ _ (fun pre : List PP => z9 (rP (fun i j => alR r (ixV i L) (ixV j L)) pre))) _) (Own.from (box_own _ _ _) _)) (Own.from (box_own _ _ _) _)) (ownFrom_below (Nat.le_refl _) (by simp; omega)))
    (fun _ _ _ _ _ hs _ _ => hs)
    ⟨⟨⟨R0, D2⟩, Q1⟩, B0⟩
    (fun x => { tmps := #[.iface 63 (.agg #[.iface 25 (.agg (z9 r)), .slice A n c]), .pointer (some ⟨w.heap.size, 0, none⟩), .pointer (some ⟨w.heap.size + 1, 0, none⟩), .pointer (some ⟨w.heap.size + 1 + 1, 0, none⟩), .int .i64 x.i, .int .i64 x.j, .func (.func 46) #[] #[], .int .i64 x.i, .int .i64 x.j, undef, undef, undef, undef, undef, undef, undef, undef, undef], defers := [] }) ?assign ?body ?done ?stop
  case assign =>
    intro l x W K hK
    gi_wp2
    simpa [ppV] using hK
  case body =>
    rintro l pre x W ⟨⟨⟨hr, hd⟩, hq⟩, hB⟩ hlt
    obtain ⟨xi, xj, hi, hj, hne⟩ := x
    obtain ⟨c0, f0⟩ := hd.one
    have hsz := hr.lt
    have HR := Lib.hid hr
    have HD := Lib.hid hd
    have HQ := Lib.hid hq
    have HB := Lib.hid hB
    clear hr hd hq hB
    dsimp only
    by_cases ha : (fun i j => alR r (ixV i L) (ixV j L)) xi xj = true
    · have ha' := Lib.hid ha
      have hx := ha
      try dsimp only at hx
      clear ha
      have hm := meth_N (.iface 25 (.agg (z9 r))) (.slice A n c)
      gi_wp2_with (refine ⟨trivial, ?_⟩; refine (callsIn_wide.2 (allowsN_calls r A n c L xi xj hi hj _ HL.out hn (HI.out.below HB.out) HPM.out)).mono ?_; rintro e w1 ⟨rfl, hb⟩; have HR1 := Lib.hid (HR.out.below hb HR.out.lt); have HD1 := Lib.hid (HD.out.below hb HD.out.lt); have HQ1 := Lib.hid (HQ.out.below hb HQ.out.lt); have HB1 := Lib.hid (HB.out.trans (hb.mono HB.out.size)); have KB := Lib.hid (keepsOthers_of_below hb); clear hb; obtain ⟨v, hv⟩ := HR1.out.at9 (k := xi.toNat * 3 + xj.toNat) (by omega); have hfz := HR1.out.frozen (xi.toNat * 3 + xj.toNat))
      refine ⟨(KB.out.trans (KeepsOthers.setCell _ _ _)).from _, trivial, ?_, HB1.out.setCell (by simp; omega) _⟩
      refine ⟨⟨?_, HD1.out.other (by simp; omega) _⟩, HQ1.out.other (by simp) _⟩
      have h9 := HR1.out.set (xi.toNat * 3 + xj.toNat) (.int .i64 1)
      rw [z9_set _ (by omega)] at h9
      rwa [show rP (fun i j => alR r (ixV i L) (ixV j L)) (pre ++ [⟨xi, xj, hi, hj, hne⟩]) = fun k => if k = xi.toNat * 3 + xj.toNat then 1 else rP (fun i j => alR r (ixV i L) (ixV j L)) pre k from funext fun k => (rP_yes (x := ⟨xi, xj, hi, hj, hne⟩) ha'.out k).trans (by rw [show (3 * xi + xj).toNat = xi.toNat * 3 + xj.toNat by omega])]
    · have ha' := Lib.hid (show (fun i j => alR r (ixV i L) (ixV j L)) xi xj = false by simpa using ha)
      have hx := ha'.out
      try dsimp only at hx
      clear ha
      have hm := meth_N (.iface 25 (.agg (z9 r))) (.slice A n c)
      gi_wp2_with (refine ⟨trivial, ?_⟩; refine (callsIn_wide.2 (allowsN_calls r A n c L xi xj hi hj _ HL.out hn (HI.out.below HB.out) HPM.out)).mono ?_; rintro e w1 ⟨rfl, hb⟩; have HR1 := Lib.hid (HR.out.below hb HR.out.lt); have HD1 := Lib.hid (HD.out.below hb HD.out.lt); have HQ1 := Lib.hid (HQ.out.below hb HQ.out.lt); have HB1 := Lib.hid (HB.out.trans (hb.mono HB.out.size)); have KB := Lib.hid (keepsOthers_of_below hb); clear hb)
      refine ⟨KB.out.from _, trivial, ⟨⟨?_, HD1.out⟩, HQ1.out⟩, HB1.out⟩
      rw [rP_no (x := ⟨xi, xj, hi, hj, hne⟩) ha'.out]
      exact HR1.out
  case done =>
    rintro Dp ys W hDp rfl ⟨⟨⟨hr, hd⟩, hq⟩, hB⟩ hK
    obtain ⟨x0, x1, x2, x3, x4, x5, x6, x7, x8⟩ := hr.nine
    obtain ⟨y0, y1, y2, y3, y4, y5, y6, y7, y8⟩ := hq.nine
    obtain ⟨f0, f1, f2, f3, f4, f5, f6, f7, f8⟩ := hq.frozen9
    gi_wp2
    have hsz := hq.lt
    have hDq : w.heap.size + 1 ≠ Dp := by simp at hDp; omega
    have hbx := hq.set9 (rP (fun i j => alR r (ixV i L) (ixV j L)) ppAll)
    have hK9 := (set9_other W _ Dp (rP (fun i j => alR r (ixV i L) (ixV j L)) ppAll) hDq).trans hK
    have hB9 := below_set9 hB (b := w.heap.size + 1) (by omega) (rP (fun i j => alR r (ixV i L) (ixV j L)) ppAll)
    change bodyPostM _ _ _ _ _ _ _ (set9 W (w.heap.size + 1) (rP (fun i j => alR r (ixV i L) (ixV j L)) ppAll))
    generalize set9 W (w.heap.size + 1) (rP (fun i j => alR r (ixV i L) (ixV j L)) ppAll) = W9 at *
    refine ⟨by simp, .inl ⟨_, _, rfl, run_takeDeferred hK9, ?_⟩⟩
    refine ⟨_, results_cell_row rfl _ _ (w.heap.size + 1) 25 (z9 (rP (fun i j => alR r (ixV i L) (ixV j L)) ppAll)) (0, 0) _ rfl ((World.putObj_heap_other hDq).trans hbx) Try.underlying25 rfl (by kernel_rfl), rfl, hB9.trans (belowK_b (w := w) (Nat.le_refl _) W9 Dp _ _ (by simp at hDp; omega) hK9 rfl rfl)⟩
  case stop =>
    rintro Dp c pre W _ _ h _
    exact h.elim

end Go.Proofs.Ytekakcpjfjmejaa
