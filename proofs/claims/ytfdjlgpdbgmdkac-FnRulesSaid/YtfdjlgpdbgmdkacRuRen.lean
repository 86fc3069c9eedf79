/- Contracts: renamed rules, of both sides. -/
import Derived.Test.YtfdjlgpdbgmdkacRuTurn
import Derived.Test.YtfdjlgpdbgmdkacRename
import Derived.Test.YtfdjlgpdbgmdkacRtc
namespace Go.Proofs.Ytfdjlgpdbgmdkac
open Go.RowKit
open Go.RowKit Go.Shelf
set_option linter.unusedVariables false
set_option linter.unusedSimpArgs false
attribute [local go_sem] Oper.semAt_some

/-- A list of the three pegs is one of six. -/
theorem perm3 {L : List Int} (h : permB 3 L = true) : L = [0, 1, 2] ∨ L = [0, 2, 1] ∨ L = [1, 0, 2] ∨ L = [1, 2, 0] ∨ L = [2, 0, 1] ∨ L = [2, 1, 0] := by
  have hl := perm_len h
  have hk : okTo 3 L L.length = true := by unfold permB at h; rw [Bool.and_eq_true] at h; exact h.2
  have hat := okTo_at L.length hk
  match L, hl with
  | [a, b, c], _ =>
    have h0 := hat 0 (by simp)
    have h1 := hat 1 (by simp)
    have h2 := hat 2 (by simp)
    simp at h0 h1 h2
    clear hk hat hl
    rcases (by omega : a = 0 ∨ a = 1 ∨ a = 2) with rfl | rfl | rfl <;> rcases (by omega : b = 0 ∨ b = 1 ∨ b = 2) with rfl | rfl | rfl <;> rcases (by omega : c = 0 ∨ c = 1 ∨ c = 2) with rfl | rfl | rfl <;>
      first | (exact absurd h (by decide)) | simp
theorem ix3 {L : List Int} (h : permB 3 L = true) {i : Int} (hi : 0 ≤ i ∧ i < 3) : 0 ≤ ixV i L ∧ ixV i L < 3 := by
  rcases in3 hi with rfl | rfl | rfl <;> rcases perm3 h with rfl | rfl | rfl | rfl | rfl | rfl <;> decide

theorem oldName_calls (v : Value) (A : Option Addr) (n c : Nat) (L : List Int) (p : Int) (w : World) (hL : L.length = n) (hn : n ≤ 1000) (hI : Ints w A L) :
    Calls Try.prog 80 #[.agg #[v, .slice A n c], .int .i64 p] w fun e w' => e = .returned (.int .i64 (ixV p L)) ∧ Below w.heap.size w w' := by
  have HL := Lib.hid hL
  have hI0 := hI.below ((Below.refl w.heap.size w).alloc (Nat.le_refl _) (.cells #[v, .slice A n c] 69))
  have HI := Lib.hid hI0
  clear hL hI hI0
  go_enter Try.func80, Try.ntmps80
  go_wp2_with (refine (index_calls A n c L p _ HL.out hn HI.out).mono ?_; rintro e w' ⟨rfl, rfl⟩)
  go_ret
  exact ⟨rfl, (Below.refl _ _).alloc (Nat.le_refl _) _⟩

set_option maxRecDepth 100000 in
set_option maxHeartbeats 4000000 in
theorem allowsN_calls (r : Nat → Int) (A : Option Addr) (n c : Nat) (L : List Int) (i j : Int) (hi : 0 ≤ i ∧ i < 3) (hj : 0 ≤ j ∧ j < 3) (w : World) (hL : L.length = n) (hn : n ≤ 1000) (hI : Ints w A L) (hp : permB 3 L = true) :
    Calls Try.prog 79 #[.agg #[.iface 26 (.agg (z9 r)), .slice A n c], .int .i64 i, .int .i64 j] w fun e w' => e = .returned (.bool (alR r (ixV i L) (ixV j L))) ∧ Below w.heap.size w w' := by
  have HL := Lib.hid hL
  have HI := Lib.hid hI
  have h1 := ix3 hp hi
  have h2 := ix3 hp hj
  have X0 := Lib.hid (Box.new w 69 #[.iface 26 (.agg (z9 r)), .slice A n c])
  have HB := Lib.hid ((Below.refl w.heap.size w).alloc (Nat.le_refl _) (.cells #[.iface 26 (.agg (z9 r)), .slice A n c] 69))
  have HI1 := Lib.hid (hI.below HB.out)
  clear hL hI hp
  go_enter Try.func79, Try.ntmps79
  go_wp2_with fail
  obtain ⟨c0, c1, f0, f1⟩ := X0.out.two
  generalize w.alloc (.cells #[.iface 26 (.agg (z9 r)), .slice A n c] 69) = w1 at *
  have hz : w.heap.size < w1.heap.size := X0.out.lt
  have hm := meth_R r
  have hI := HI1.out
  have hbb := HB.out
  clear f0 f1 HI HI1 HB X0
  go_region_held3 (fun w' => w'.cell? ⟨w.heap.size, 0, none⟩ = some (.iface 26 (.agg (z9 r))) ∧ w'.cell? ⟨w.heap.size, 1, none⟩ = some (.slice A n c))
    (first | exact ⟨c0, c1⟩ | go_keep)
    (first
    | (go_at_call 80; refine (oldName_calls _ A n c L _ _ HL.out hn ?_).mono ?_; (exact hI); rintro e w2 ⟨rfl, hb⟩; have hI := (show Ints w2 A L by first | exact hI.below (undrew hb) | exact hI.below hb); have c0 := (hb.cell (p := ⟨w.heap.size, 0, none⟩) (by exact hz)).trans c0; have c1 := (hb.cell (p := ⟨w.heap.size, 1, none⟩) (by exact hz)).trans c1; have hbb := (show Below w.heap.size w w2 by first | exact hbb.trans ((undrew hb).mono hbb.size) | exact hbb.trans (hb.mono hbb.size)); have hz := Nat.lt_of_lt_of_le hz (by have := hb.size; exact this); clear hb)
    | (refine (allowsR_calls' r _ _ h1 h2 _).mono ?_; rintro e w2 ⟨rfl, hb⟩; have hI := (show Ints w2 A L by first | exact hI.below (undrew hb) | exact hI.below hb); have c0 := (hb.cell (p := ⟨w.heap.size, 0, none⟩) (by exact hz)).trans c0; have c1 := (hb.cell (p := ⟨w.heap.size, 1, none⟩) (by exact hz)).trans c1; have hbb := (show Below w.heap.size w w2 by first | exact hbb.trans ((undrew hb).mono hbb.size) | exact hbb.trans (hb.mono hbb.size)); have hz := Nat.lt_of_lt_of_le hz (by have := hb.size; exact this); clear hb))
  go_wp2
  go_ret
  exact ⟨rfl, hbb⟩

theorem meth_N (v u : Value) (q : Nat) (w : World) : Sem.run Try.prog (method (q + 1) 69 (.agg #[v, u]) "loop.example/g01321/impl.allows") w = .ok (79, .agg #[v, u]) w := by kernel_rfl

set_option maxRecDepth 100000 in
set_option maxHeartbeats 4000000 in
theorem rulesOfN_calls (r : Nat → Int) (A : Option Addr) (n c : Nat) (L : List Int) (w : World) (hL : L.length = n) (hn : n ≤ 1000) (hI : Ints w A L) (hp : permB 3 L = true) :
    Calls Try.prog 35 #[.iface 69 (.agg #[.iface 26 (.agg (z9 r)), .slice A n c])] w fun e w' => e = .returned (.agg (z9 (rP (fun i j => alR r (ixV i L) (ixV j L)) ppAll))) ∧ Below w.heap.size w w' := by
  have HL := Lib.hid hL
  have HI := Lib.hid hI
  have HPM := Lib.hid hp
  clear hL hI hp
  refine (callsIn_wide (n := 6)).1 ?_
  refine callsIn_of_wp_marks Try.func35 rfl trivial ?_ rfl
  simp only [Try.ntmps35, List.size_toArray, List.length_cons, List.length_nil, Nat.reduceAdd, Nat.reduceSub, Array.replicate_succ, Array.replicate_zero, List.push_toArray, List.append_toArray, List.nil_append, List.cons_append]
  have D0 := Box.new w 64 #[.iface 69 (.agg #[.iface 26 (.agg (z9 r)), .slice A n c])]
  have D1 := D0.alloc (.cells (z9 (fun _ => 0)) 26)
  have D2 := D1.alloc (.cells (z9 (fun _ => 0)) 26)
  have Q0 := Box.new (w.alloc (.cells #[.iface 69 (.agg #[.iface 26 (.agg (z9 r)), .slice A n c])] 64)) 26 (z9 (fun _ => 0))
  have Q1 := Q0.alloc (.cells (z9 (fun _ => 0)) 26)
  have R0 := Box.new ((w.alloc (.cells #[.iface 69 (.agg #[.iface 26 (.agg (z9 r)), .slice A n c])] 64)).alloc (.cells (z9 (fun _ => 0)) 26)) 26 (z9 (fun _ => 0))
  simp only [World.size_alloc] at Q1 R0
  have B0 : Below w.heap.size w (((w.alloc (.cells #[.iface 69 (.agg #[.iface 26 (.agg (z9 r)), .slice A n c])] 64)).alloc (.cells (z9 (fun _ => 0)) 26)).alloc (.cells (z9 (fun _ => 0)) 26)) := (((Below.refl _ _).alloc (Nat.le_refl _) _).alloc (by simp) _).alloc (by simp; omega) _
  clear D0 D1 Q0
  gi_wp2_with (refine ⟨trivial, ?_⟩; gi_at_call 53; refine (pegPairs_calls _ _).mono ?_; rintro e w' ⟨rfl, rfl⟩)
  change Box _ _ _ (z9 (rP (fun i j => alR r (ixV i L) (ixV j L)) [])) at R0
  refine wpIn_rangeFunc_ownG rfl (by omega) (gf := 59) (lb := #[]) rfl trivial (enters_of Try.func59 (by kernel_rfl) rfl)
    (pegPairs_stops _ (by omega) _) (fun _ _ => trivial) (fun _ _ _ _ _ _ _ _ => trivial) (Below.refl _ _) (fun _ => rfl)
    (fun pre W => ((Box W (w.heap.size + 1 + 1) 26 (z9 (rP (fun i j => alR r (ixV i L) (ixV j L)) pre)) ∧ Box W w.heap.size 64 #[.iface 69 (.agg #[.iface 26 (.agg (z9 r)), .slice A n c])]) ∧ Box W (w.heap.size + 1) 26 (z9 (fun _ => 0))) ∧ Below w.heap.size w W)
    (fun _ _ _ => False)
    (OwnFrom.and (OwnFrom.and (OwnFrom.and (Own.from (box_ownS _ _ (fun pre : List PP => z9 (rP (fun i j => alR r (ixV i L) (ixV j L)) pre))) _) (Own.from (box_own _ _ _) _)) (Own.from (box_own _ _ _) _)) (ownFrom_below (Nat.le_refl _) (by simp; omega)))
    (fun _ _ _ _ _ hs _ _ => hs)
    ⟨⟨⟨R0, D2⟩, Q1⟩, B0⟩
    (fun x => { tmps := #[.iface 69 (.agg #[.iface 26 (.agg (z9 r)), .slice A n c]), .pointer (some ⟨w.heap.size, 0, none⟩), .pointer (some ⟨w.heap.size + 1, 0, none⟩), .pointer (some ⟨w.heap.size + 1 + 1, 0, none⟩), .int .i64 x.i, .int .i64 x.j, .func (.func 59) #[] #[], .int .i64 x.i, .int .i64 x.j, undef, undef, undef, undef, undef, undef, undef, undef, undef], defers := [] }) ?assign ?body ?done ?stop
  case assign =>
    intro l x W K hK
    gi_wp2
    simpa [ppV] using hK
  case body =>
    rintro l pre x W ⟨⟨⟨hr, hd⟩, hq⟩, hB⟩ hlt
    obtain ⟨xi, xj, hi, hj, hne⟩ := x
    obtain ⟨c0, f0⟩ := hd.one
    have hsz := hr.lt
    have HR := Lib.hid hr
    have HD := Lib.hid hd
    have HQ := Lib.hid hq
    have HB := Lib.hid hB
    clear hr hd hq hB
    dsimp only
    by_cases ha : (fun i j => alR r (ixV i L) (ixV j L)) xi xj = true
    · have ha' := Lib.hid ha
      have hx := ha
      try dsimp only at hx
      clear ha
      have hm := meth_N (.iface 26 (.agg (z9 r))) (.slice A n c)
      gi_wp2_with (refine ⟨trivial, ?_⟩; refine (callsIn_wide.2 (allowsN_calls r A n c L xi xj hi hj _ HL.out hn (HI.out.below HB.out) HPM.out)).mono ?_; rintro e w1 ⟨rfl, hb⟩; have HR1 := Lib.hid (HR.out.below hb HR.out.lt); have HD1 := Lib.hid (HD.out.below hb HD.out.lt); have HQ1 := Lib.hid (HQ.out.below hb HQ.out.lt); have HB1 := Lib.hid (HB.out.trans (hb.mono HB.out.size)); have KB := Lib.hid (keepsOthers_of_below hb); clear hb; obtain ⟨v, hv⟩ := HR1.out.at9 (k := xi.toNat * 3 + xj.toNat) (by omega); have hfz := HR1.out.frozen (xi.toNat * 3 + xj.toNat))
      refine ⟨(KB.out.trans (KeepsOthers.setCell _ _ _)).from _, trivial, ?_, HB1.out.setCell (by simp; omega) _⟩
      refine ⟨⟨?_, HD1.out.other (by simp; omega) _⟩, HQ1.out.other (by simp) _⟩
      have h9 := HR1.out.set (xi.toNat * 3 + xj.toNat) (.int .i64 1)
      rw [z9_set _ (by omega)] at h9
      rwa [show rP (fun i j => alR r (ixV i L) (ixV j L)) (pre ++ [⟨xi, xj, hi, hj, hne⟩]) = fun k => if k = xi.toNat * 3 + xj.toNat then 1 else rP (fun i j => alR r (ixV i L) (ixV j L)) pre k from funext fun k => (rP_yes (x := ⟨xi, xj, hi, hj, hne⟩) ha'.out k).trans (by rw [show (3 * xi + xj).toNat = xi.toNat * 3 + xj.toNat by omega])]
    · have ha' := Lib.hid (show (fun i j => alR r (ixV i L) (ixV j L)) xi xj = false by simpa using ha)
      have hx := ha'.out
      try dsimp only at hx
      clear ha
      have hm := meth_N (.iface 26 (.agg (z9 r))) (.slice A n c)
      gi_wp2_with (refine ⟨trivial, ?_⟩; refine (callsIn_wide.2 (allowsN_calls r A n c L xi xj hi hj _ HL.out hn (HI.out.below HB.out) HPM.out)).mono ?_; rintro e w1 ⟨rfl, hb⟩; have HR1 := Lib.hid (HR.out.below hb HR.out.lt); have HD1 := Lib.hid (HD.out.below hb HD.out.lt); have HQ1 := Lib.hid (HQ.out.below hb HQ.out.lt); have HB1 := Lib.hid (HB.out.trans (hb.mono HB.out.size)); have KB := Lib.hid (keepsOthers_of_below hb); clear hb)
      refine ⟨KB.out.from _, trivial, ⟨⟨?_, HD1.out⟩, HQ1.out⟩, HB1.out⟩
      rw [rP_no (x := ⟨xi, xj, hi, hj, hne⟩) ha'.out]
      exact HR1.out
  case done =>
    rintro Dp ys W hDp rfl ⟨⟨⟨hr, hd⟩, hq⟩, hB⟩ hK
    obtain ⟨x0, x1, x2, x3, x4, x5, x6, x7, x8⟩ := hr.nine
    obtain ⟨y0, y1, y2, y3, y4, y5, y6, y7, y8⟩ := hq.nine
    obtain ⟨f0, f1, f2, f3, f4, f5, f6, f7, f8⟩ := hq.frozen9
    gi_wp2
    have hsz := hq.lt
    have hDq : w.heap.size + 1 ≠ Dp := by simp at hDp; omega
    have hbx := hq.set9 (rP (fun i j => alR r (ixV i L) (ixV j L)) ppAll)
    have hK9 := (set9_other W _ Dp (rP (fun i j => alR r (ixV i L) (ixV j L)) ppAll) hDq).trans hK
    have hB9 := below_set9 hB (b := w.heap.size + 1) (by omega) (rP (fun i j => alR r (ixV i L) (ixV j L)) ppAll)
    change bodyPostM _ _ _ _ _ _ _ (set9 W (w.heap.size + 1) (rP (fun i j => alR r (ixV i L) (ixV j L)) ppAll))
    generalize set9 W (w.heap.size + 1) (rP (fun i j => alR r (ixV i L) (ixV j L)) ppAll) = W9 at *
    refine ⟨by simp, .inl ⟨_, _, rfl, run_takeDeferred hK9, ?_⟩⟩
    refine ⟨_, results_cell_row rfl _ _ (w.heap.size + 1) 26 (z9 (rP (fun i j => alR r (ixV i L) (ixV j L)) ppAll)) (0, 0) _ rfl ((World.putObj_heap_other hDq).trans hbx) Try.underlying26 rfl (by kernel_rfl), rfl, hB9.trans (belowK_b (w := w) (Nat.le_refl _) W9 Dp _ _ (by simp at hDp; omega) hK9 rfl rfl)⟩
  case stop =>
    rintro Dp c pre W _ _ h _
    exact h.elim

/-- The numbers after so many stores. -/
def rnK (r : Nat → Int) (L : List Int) : Nat → Nat → Int
  | 0 => fun _ => 0
  | n + 1 => fun k => if k = (L[n / 3]?.getD 0).toNat * 3 + (L[n % 3]?.getD 0).toNat then r n else rnK r L n k
def rnR (r : Nat → Int) (L : List Int) : Nat → Int := if (ruB r && permB 3 L) = true then rnK r L 9 else fun _ => 0
def rnC (r : Nat → Int) (L : List Int) : Int := if ruB r = true then (if permB 3 L = true then 0 else 2) else 1
theorem rn_yes {r : Nat → Int} {L : List Int} (h1 : ruB r = true) (h2 : permB 3 L = true) : rnR r L = rnK r L 9 ∧ rnC r L = 0 := by
  unfold rnR rnC
  rw [h1, h2]
  exact ⟨rfl, rfl⟩
theorem rn_no2 {r : Nat → Int} {L : List Int} (h1 : ruB r = true) (h2 : permB 3 L = false) : rnR r L = (fun _ => 0) ∧ rnC r L = 2 := by
  unfold rnR rnC
  rw [h1, h2]
  exact ⟨rfl, rfl⟩
theorem rn_no1 {r : Nat → Int} {L : List Int} (h1 : ruB r = false) : rnR r L = (fun _ => 0) ∧ rnC r L = 1 := by
  unfold rnR rnC
  rw [h1]
  exact ⟨rfl, rfl⟩
theorem rn_rP {r : Nat → Int} {L : List Int} (h1 : ruB r = true) (h2 : permB 3 L = true) : ∀ k, k < 9 → rP (fun i j => alR r (ixV i L) (ixV j L)) ppAll k = rnK r L 9 k := by
  intro k hk
  have hd := ruB_iff r
  rw [h1, decide_eq_true_iff] at hd
  unfold l9 at hd
  simp only [List.cons.injEq, and_true, rP_0, rP_1, rP_2, rP_3, rP_4, rP_5, rP_6, rP_7, rP_8] at hd
  obtain ⟨h0, g1, g2, h3, h4, h5, h6, h7, h8⟩ := hd
  rcases perm3 h2 with rfl | rfl | rfl | rfl | rfl | rfl <;>
  · clear h1 h2
    match k, hk with
    | 0, _ => first | exact (rP_0 _).trans h0.symm | exact (rP_0 _).trans g1.symm | exact (rP_0 _).trans g2.symm | exact (rP_0 _).trans h3.symm | exact (rP_0 _).trans h4.symm | exact (rP_0 _).trans h5.symm | exact (rP_0 _).trans h6.symm | exact (rP_0 _).trans h7.symm | exact (rP_0 _).trans h8.symm
    | 1, _ => first | exact (rP_1 _).trans h0.symm | exact (rP_1 _).trans g1.symm | exact (rP_1 _).trans g2.symm | exact (rP_1 _).trans h3.symm | exact (rP_1 _).trans h4.symm | exact (rP_1 _).trans h5.symm | exact (rP_1 _).trans h6.symm | exact (rP_1 _).trans h7.symm | exact (rP_1 _).trans h8.symm
    | 2, _ => first | exact (rP_2 _).trans h0.symm | exact (rP_2 _).trans g1.symm | exact (rP_2 _).trans g2.symm | exact (rP_2 _).trans h3.symm | exact (rP_2 _).trans h4.symm | exact (rP_2 _).trans h5.symm | exact (rP_2 _).trans h6.symm | exact (rP_2 _).trans h7.symm | exact (rP_2 _).trans h8.symm
    | 3, _ => first | exact (rP_3 _).trans h0.symm | exact (rP_3 _).trans g1.symm | exact (rP_3 _).trans g2.symm | exact (rP_3 _).trans h3.symm | exact (rP_3 _).trans h4.symm | exact (rP_3 _).trans h5.symm | exact (rP_3 _).trans h6.symm | exact (rP_3 _).trans h7.symm | exact (rP_3 _).trans h8.symm
    | 4, _ => first | exact (rP_4 _).trans h0.symm | exact (rP_4 _).trans g1.symm | exact (rP_4 _).trans g2.symm | exact (rP_4 _).trans h3.symm | exact (rP_4 _).trans h4.symm | exact (rP_4 _).trans h5.symm | exact (rP_4 _).trans h6.symm | exact (rP_4 _).trans h7.symm | exact (rP_4 _).trans h8.symm
    | 5, _ => first | exact (rP_5 _).trans h0.symm | exact (rP_5 _).trans g1.symm | exact (rP_5 _).trans g2.symm | exact (rP_5 _).trans h3.symm | exact (rP_5 _).trans h4.symm | exact (rP_5 _).trans h5.symm | exact (rP_5 _).trans h6.symm | exact (rP_5 _).trans h7.symm | exact (rP_5 _).trans h8.symm
    | 6, _ => first | exact (rP_6 _).trans h0.symm | exact (rP_6 _).trans g1.symm | exact (rP_6 _).trans g2.symm | exact (rP_6 _).trans h3.symm | exact (rP_6 _).trans h4.symm | exact (rP_6 _).trans h5.symm | exact (rP_6 _).trans h6.symm | exact (rP_6 _).trans h7.symm | exact (rP_6 _).trans h8.symm
    | 7, _ => first | exact (rP_7 _).trans h0.symm | exact (rP_7 _).trans g1.symm | exact (rP_7 _).trans g2.symm | exact (rP_7 _).trans h3.symm | exact (rP_7 _).trans h4.symm | exact (rP_7 _).trans h5.symm | exact (rP_7 _).trans h6.symm | exact (rP_7 _).trans h7.symm | exact (rP_7 _).trans h8.symm
    | 8, _ => first | exact (rP_8 _).trans h0.symm | exact (rP_8 _).trans g1.symm | exact (rP_8 _).trans g2.symm | exact (rP_8 _).trans h3.symm | exact (rP_8 _).trans h4.symm | exact (rP_8 _).trans h5.symm | exact (rP_8 _).trans h6.symm | exact (rP_8 _).trans h7.symm | exact (rP_8 _).trans h8.symm

set_option maxRecDepth 100000 in
set_option maxHeartbeats 4000000 in
theorem specRenameRules_calls (r : Nat → Int) (A : Option Addr) (n c : Nat) (L : List Int) (w : World) (hL : L.length = n) (hn : n ≤ 1048576) (hI : Ints w A L) :
    Calls Try.prog 25 #[.agg (z9 r), .slice A n c] w fun e w' => e = .returned (.tuple #[.agg (z9 (rnR r L)), .int .i64 (rnC r L)]) ∧ Below w.heap.size w w' := by
  have HL := Lib.hid hL
  have HI := Lib.hid hI
  have X0 := Lib.hid ((Box.new w 26 (z9 r)).alloc (.cells (z9 (fun _ => 0)) 26))
  have HB0 := Lib.hid (((Below.refl w.heap.size w).alloc (Nat.le_refl _) (.cells (z9 r) 26)).alloc (by simp) (.cells (z9 (fun _ => 0)) 26))
  have Q0 : Hid (Box ((w.alloc (.cells (z9 r) 26)).alloc (.cells (z9 (fun _ => 0)) 26)) (w.heap.size + 1) 26 (z9 (fun _ => 0))) := by
    have := Box.new (w.alloc (.cells (z9 r) 26)) 26 (z9 (fun _ => 0))
    rw [World.size_alloc] at this
    exact this
  clear hL hI
  by_cases hr : ruB r = true
  · by_cases hp : permB 3 L = true
    · have HR := Lib.hid hr
      have HP := Lib.hid hp
      have hn3 : n = 3 := by have := perm_len hp; have := HL.out; omega
      subst hn3
      have hat := okTo_at L.length (by unfold permB at hp; rw [Bool.and_eq_true] at hp; exact hp.2)
      have HAT : Hid (∀ j, j < 3 → 0 ≤ L[j]?.getD 0 ∧ L[j]?.getD 0 < 3) := by
        intro j hj
        have := hat j (by rw [HL.out]; exact hj)
        omega
      clear hat
      unfold z9
      go_enter Try.func25, Try.ntmps25
      go_wp2_with fail
      refine (l07Is_calls r _).mono ?_
      rintro e w1 ⟨rfl, hb⟩
      have X1 := Lib.hid (X0.out.below hb X0.out.lt)
      have Q1 := Lib.hid (Q0.out.below hb Q0.out.lt)
      have HB1 := Lib.hid (HB0.out.trans (hb.mono HB0.out.size))
      clear hb X0 Q0 HB0
      go_wp2_with fail
      refine (l01Order_calls 3 A 3 c L _ (by omega) HL.out (by omega) (HI.out.below HB1.out)).mono ?_
      rintro e w2 ⟨rfl, hb⟩
      have hp' : permB ((3 : Nat) : Int) L = true := hp
      have X2 := Lib.hid (X1.out.below hb X1.out.lt)
      have Q2 := Lib.hid (Q1.out.below hb Q1.out.lt)
      have HB2 := Lib.hid (HB1.out.trans (hb.mono HB1.out.size))
      clear hb X1 Q1 HB1
      have hz1 : w.heap.size + 1 < w2.heap.size := Q2.out.lt
      have hz0 : w.heap.size < w2.heap.size := X2.out.lt
      go_wp2
      have O0 : Hid (Box (w2.alloc (.cells (z9 (rnK r L 0)) 26)) w2.heap.size 26 (z9 (rnK r L 0))) := Box.new _ _ _
      have X3 := Lib.hid (X2.out.alloc (.cells (z9 (rnK r L 0)) 26))
      have Q3 := Lib.hid (Q2.out.alloc (.cells (z9 (rnK r L 0)) 26))
      have HB3 := Lib.hid (HB2.out.alloc (by omega) (.cells (z9 (rnK r L 0)) 26))
      change Code.wp _ _ _ _ (w2.alloc (.cells (z9 (rnK r L 0)) 26))
      generalize w2.alloc (.cells (z9 (rnK r L 0)) 26) = w3 at *
      clear X2 Q2 HB2 hr hp hp'
      generalize w2.heap.size = ob at *
      go_loopw [7] (fun i wr => ∃ a : Nat, a ≤ 3 ∧ i = .int .i64 a ∧ Box wr ob 26 (z9 (rnK r L (3 * a))) ∧ Box wr w.heap.size 26 (z9 r) ∧ Box wr (w.heap.size + 1) 26 (z9 (fun _ => 0)) ∧ Below w.heap.size w wr) (fun i _ => 3 - (intOf i).toNat)
      case atStart => exact ⟨0, by omega, rfl, O0.out, X3.out, Q3.out, HB3.out⟩
      case round =>
        obtain ⟨a, ha, rfl, hO, hX, hQ, hB⟩ := hrel
        by_cases hlt : a < 3
        · go_wp2
          go_loopw [8] (fun j wq => ∃ b : Nat, b ≤ 3 ∧ j = .int .i64 b ∧ Box wq ob 26 (z9 (rnK r L (3 * a + b))) ∧ Box wq w.heap.size 26 (z9 r) ∧ Box wq (w.heap.size + 1) 26 (z9 (fun _ => 0)) ∧ Below w.heap.size w wq) (fun j _ => 3 - (intOf j).toNat)
          case atStart => exact ⟨0, by omega, rfl, hO, hX, hQ, hB⟩
          case round =>
            obtain ⟨b, hb, rfl, hO, hX, hQ, hB⟩ := hrel
            by_cases hlb : b < 3
            · have hIq := HI.out.below hB
              obtain ⟨ad, rfl, had, hca⟩ := hIq a (by rw [HL.out]; exact hlt)
              obtain ⟨ad', hadd, had', hcb⟩ := hIq b (by rw [HL.out]; exact hlb)
              cases hadd
              have hla := HAT.out a hlt
              have hlb' := HAT.out b hlb
              have g1 := hX.get9 (k := a * 3 + b) (by omega)
              have g2 := hO.get9 (k := (L[a]?.getD 0).toNat * 3 + (L[b]?.getD 0).toNat) (by omega)
              have g3 := hO.frozen ((L[a]?.getD 0).toNat * 3 + (L[b]?.getD 0).toNat)
              have HO := Lib.hid hO
              have HX := Lib.hid hX
              have HQ := Lib.hid hQ
              have HB := Lib.hid hB
              clear hO hX hQ hB hIq had had'
              go_wp2
              go_region
              go_wp2
              go_roundw
              case rel =>
                refine ⟨b + 1, by omega, by go_num, ?_, (HX.out.draws 1).other (by simp; omega) _, (HQ.out.draws 1).other (by simp; omega) _, (HB.out.drew).setCell (by simp; omega) _⟩
                have := (HO.out.draws 1).setz (k := (L[a]?.getD 0).toNat * 3 + (L[b]?.getD 0).toNat) (by omega) (r (a * 3 + b))
                rwa [show (fun j => if j = (L[a]?.getD 0).toNat * 3 + (L[b]?.getD 0).toNat then r (a * 3 + b) else rnK r L (3 * a + b) j) = rnK r L (3 * a + (b + 1)) by
                  show _ = fun k => if k = (L[(3 * a + b) / 3]?.getD 0).toNat * 3 + (L[(3 * a + b) % 3]?.getD 0).toNat then r (3 * a + b) else rnK r L (3 * a + b) k
                  rw [show (3 * a + b) / 3 = a by omega, show (3 * a + b) % 3 = b by omega, Nat.mul_comm 3 a]] at this
              case measure => simp [intOf]; omega
            · obtain rfl : b = 3 := by omega
              go_wp2
              go_roundw
              case rel => exact ⟨a + 1, by omega, by go_num, hO, hX, hQ, hB⟩
              case measure => simp [intOf]; omega
        · obtain rfl : a = 3 := by omega
          obtain ⟨x0, x1, x2, x3, x4, x5, x6, x7, x8⟩ := hO.nine
          obtain ⟨y0, y1, y2, y3, y4, y5, y6, y7, y8⟩ := hQ.nine
          obtain ⟨f0, f1, f2, f3, f4, f5, f6, f7, f8⟩ := hQ.frozen9
          go_wp2
          have hbx := Lib.hid (hQ.set9 (rnK r L 9))
          have hb9 := Lib.hid (below_set9 hB (b := w.heap.size + 1) (by omega) (rnK r L 9))
          change bodyPost _ _ _ _ _ (set9 wr (w.heap.size + 1) (rnK r L 9))
          generalize set9 wr (w.heap.size + 1) (rnK r L 9) = w9 at *
          refine bodyPost_ret (results_row_tmp rfl _ _ (w.heap.size + 1) 26 (z9 (rnK r L 9)) (0, 0) _ rfl hbx.out Try.underlying26 rfl (by kernel_rfl)) rfl ⟨ret_two' ?_ (rn_yes HR.out HP.out).2, hb9.out⟩
          rw [(rn_yes HR.out HP.out).1]; rfl
    · have hp' : permB 3 L = false := by simpa using hp
      have HR := Lib.hid hr
      have HP := Lib.hid hp'
      unfold z9
      go_enter Try.func25, Try.ntmps25
      go_wp2_with fail
      refine (l07Is_calls r _).mono ?_
      rintro e w1 ⟨rfl, hb⟩
      have Q1 := Lib.hid (Q0.out.below hb Q0.out.lt)
      have HB1 := Lib.hid (HB0.out.trans (hb.mono HB0.out.size))
      clear hb X0 Q0 HB0
      go_wp2_with fail
      refine (l01Order_calls 3 A n c L _ (by omega) HL.out hn (HI.out.below HB1.out)).mono ?_
      rintro e w2 ⟨rfl, hb⟩
      have hp2 : permB ((3 : Nat) : Int) L = false := hp'
      have Q2 := Lib.hid (Q1.out.below hb Q1.out.lt)
      have HB2 := Lib.hid (HB1.out.trans (hb.mono HB1.out.size))
      clear hb Q1 HB1 hp
      obtain ⟨y0, y1, y2, y3, y4, y5, y6, y7, y8⟩ := Q2.out.nine
      obtain ⟨f0, f1, f2, f3, f4, f5, f6, f7, f8⟩ := Q2.out.frozen9
      go_wp2
      have hbx := Lib.hid (Q2.out.set9 (fun _ => 0))
      have hb9 := Lib.hid (below_set9 HB2.out (b := w.heap.size + 1) (by omega) (fun _ => 0))
      change bodyPost _ _ _ _ _ (set9 w2 (w.heap.size + 1) (fun _ => 0))
      generalize set9 w2 (w.heap.size + 1) (fun _ => 0) = w9 at *
      refine bodyPost_ret (results_row_tmp rfl _ _ (w.heap.size + 1) 26 (z9 (fun _ => 0)) (0, 0) _ rfl hbx.out Try.underlying26 rfl (by kernel_rfl)) rfl ⟨ret_two' ?_ (rn_no2 HR.out HP.out).2, hb9.out⟩
      rw [(rn_no2 HR.out HP.out).1]; rfl
  · have hr' : ruB r = false := by simpa using hr
    have HR := Lib.hid hr'
    clear hr
    unfold z9
    go_enter Try.func25, Try.ntmps25
    go_wp2_with fail
    refine (l07Is_calls r _).mono ?_
    rintro e w1 ⟨rfl, hb⟩
    have Q1 := Lib.hid (Q0.out.below hb Q0.out.lt)
    have HB1 := Lib.hid (HB0.out.trans (hb.mono HB0.out.size))
    clear hb X0 Q0 HB0
    obtain ⟨y0, y1, y2, y3, y4, y5, y6, y7, y8⟩ := Q1.out.nine
    obtain ⟨f0, f1, f2, f3, f4, f5, f6, f7, f8⟩ := Q1.out.frozen9
    go_wp2
    have hbx := Lib.hid (Q1.out.set9 (fun _ => 0))
    have hb9 := Lib.hid (below_set9 HB1.out (b := w.heap.size + 1) (by omega) (fun _ => 0))
    change bodyPost _ _ _ _ _ (set9 w1 (w.heap.size + 1) (fun _ => 0))
    generalize set9 w1 (w.heap.size + 1) (fun _ => 0) = w9 at *
    refine bodyPost_ret (results_row_tmp rfl _ _ (w.heap.size + 1) 26 (z9 (fun _ => 0)) (0, 0) _ rfl hbx.out Try.underlying26 rfl (by kernel_rfl)) rfl ⟨ret_two' ?_ (rn_no1 HR.out).2, hb9.out⟩
    rw [(rn_no1 HR.out).1]; rfl

set_option maxRecDepth 100000 in
set_option maxHeartbeats 4000000 in
theorem implRenameRules_calls (r : Nat → Int) (hw : ∀ k, k < 9 → (Lit.int .i64 (r k)).wf = true) (A : Option Addr) (n c : Nat) (L : List Int) (w : World) (hL : L.length = n) (hn : n ≤ 1048576) (hI : Ints w A L) :
    Calls Try.prog 13 #[.agg (z9 r), .slice A n c] w fun e w' => e = .returned (.tuple #[.agg (z9 (rnR r L)), .int .i64 (rnC r L)]) ∧ Below w.heap.size w w' := by
  have HW := Lib.hid hw
  have HL := Lib.hid hL
  have HI := Lib.hid hI
  have X0 := Lib.hid ((Box.new w 26 (z9 r)).alloc (.cells (z9 (fun _ => 0)) 26))
  have HB0 := Lib.hid (((Below.refl w.heap.size w).alloc (Nat.le_refl _) (.cells (z9 r) 26)).alloc (by simp) (.cells (z9 (fun _ => 0)) 26))
  have Q0 : Hid (Box ((w.alloc (.cells (z9 r) 26)).alloc (.cells (z9 (fun _ => 0)) 26)) (w.heap.size + 1) 26 (z9 (fun _ => 0))) := by
    have := Box.new (w.alloc (.cells (z9 r) 26)) 26 (z9 (fun _ => 0))
    rw [World.size_alloc] at this
    exact this
  clear hL hI hw
  by_cases hr : ruB r = true
  · have HR := Lib.hid hr
    have hc := cR_yes hr
    clear hr
    unfold z9
    go_enter Try.func13, Try.ntmps13
    go_wp2_with fail
    refine (codeOfRules_nil r HW.out _).mono ?_
    rintro e w1 ⟨rfl, hb⟩
    rw [hc]
    have X1 := Lib.hid (X0.out.below hb X0.out.lt)
    have Q1 := Lib.hid (Q0.out.below hb Q0.out.lt)
    have HB1 := Lib.hid (HB0.out.trans (hb.mono HB0.out.size))
    clear hb hc X0 Q0 HB0
    go_wp2_with fail
    refine (isPegList_calls 3 A n c L _ (by omega) HL.out hn (HI.out.below HB1.out)).mono ?_
    by_cases hp : permB 3 L = true
    · rw [hp]
      have HP := Lib.hid hp
      have hn3 : n ≤ 1000 := by have := perm_len hp; have := HL.out; omega
      clear hp
      rintro e w2 ⟨rfl, hb⟩
      have X2 := Lib.hid (X1.out.below hb X1.out.lt)
      have Q2 := Lib.hid (Q1.out.below hb Q1.out.lt)
      have HB2 := Lib.hid (HB1.out.trans (hb.mono HB1.out.size))
      clear hb X1 Q1 HB1
      obtain ⟨x0, x1, x2, x3, x4, x5, x6, x7, x8⟩ := X2.out.nine
      go_wp2_with fail
      refine (rulesOfN_calls r A n c L _ HL.out hn3 (HI.out.below HB2.out) HP.out).mono ?_
      rintro e w3 ⟨rfl, hb⟩
      have Q3 := Lib.hid (Q2.out.below hb Q2.out.lt)
      have HB3 := Lib.hid (HB2.out.trans (hb.mono HB2.out.size))
      clear hb Q2 HB2 X2 x0 x1 x2 x3 x4 x5 x6 x7 x8
      rw [z9_congr (rn_rP HR.out HP.out)]
      generalize hq : rnK r L 9 = q
      have HQ := Lib.hid hq
      clear hq
      unfold z9
      obtain ⟨y0, y1, y2, y3, y4, y5, y6, y7, y8⟩ := Q3.out.nine
      obtain ⟨f0, f1, f2, f3, f4, f5, f6, f7, f8⟩ := Q3.out.frozen9
      go_wp2
      have hbx := Lib.hid (Q3.out.set9 q)
      have hb9 := Lib.hid (below_set9 HB3.out (b := w.heap.size + 1) (by omega) q)
      change bodyPost _ _ _ _ _ (set9 w3 (w.heap.size + 1) q)
      generalize set9 w3 (w.heap.size + 1) q = w9 at *
      refine bodyPost_ret (results_row_tmp rfl _ _ (w.heap.size + 1) 26 (z9 q) (0, 0) _ rfl hbx.out Try.underlying26 rfl (by kernel_rfl)) rfl ⟨ret_two' ?_ (rn_yes HR.out HP.out).2, hb9.out⟩
      rw [(rn_yes HR.out HP.out).1, HQ.out]; rfl
    · have hp' : permB 3 L = false := by simpa using hp
      rw [hp']
      have HP := Lib.hid hp'
      clear hp hp'
      rintro e w2 ⟨rfl, hb⟩
      have Q2 := Lib.hid (Q1.out.below hb Q1.out.lt)
      have HB2 := Lib.hid (HB1.out.trans (hb.mono HB1.out.size))
      clear hb X1 Q1 HB1
      obtain ⟨y0, y1, y2, y3, y4, y5, y6, y7, y8⟩ := Q2.out.nine
      obtain ⟨f0, f1, f2, f3, f4, f5, f6, f7, f8⟩ := Q2.out.frozen9
      go_wp2
      have hbx := Lib.hid (Q2.out.set9 (fun _ => 0))
      have hb9 := Lib.hid (below_set9 HB2.out (b := w.heap.size + 1) (by omega) (fun _ => 0))
      change bodyPost _ _ _ _ _ (set9 w2 (w.heap.size + 1) (fun _ => 0))
      generalize set9 w2 (w.heap.size + 1) (fun _ => 0) = w9 at *
      refine bodyPost_ret (results_row_tmp rfl _ _ (w.heap.size + 1) 26 (z9 (fun _ => 0)) (0, 0) _ rfl hbx.out Try.underlying26 rfl (by kernel_rfl)) rfl ⟨ret_two' ?_ (rn_no2 HR.out HP.out).2, hb9.out⟩
      rw [(rn_no2 HR.out HP.out).1]; rfl
  · have hr' : ruB r = false := by simpa using hr
    have HR := Lib.hid hr'
    have hc := cR_no hr'
    clear hr hr'
    unfold z9
    go_enter Try.func13, Try.ntmps13
    go_wp2_with fail
    refine (codeOfRules_nil r HW.out _).mono ?_
    rintro e w1 ⟨rfl, hb⟩
    rw [hc]
    have Q1 := Lib.hid (Q0.out.below hb Q0.out.lt)
    have HB1 := Lib.hid (HB0.out.trans (hb.mono HB0.out.size))
    clear hb hc X0 Q0 HB0
    obtain ⟨y0, y1, y2, y3, y4, y5, y6, y7, y8⟩ := Q1.out.nine
    obtain ⟨f0, f1, f2, f3, f4, f5, f6, f7, f8⟩ := Q1.out.frozen9
    go_wp2
    have hbx := Lib.hid (Q1.out.set9 (fun _ => 0))
    have hb9 := Lib.hid (below_set9 HB1.out (b := w.heap.size + 1) (by omega) (fun _ => 0))
    change bodyPost _ _ _ _ _ (set9 w1 (w.heap.size + 1) (fun _ => 0))
    generalize set9 w1 (w.heap.size + 1) (fun _ => 0) = w9 at *
    refine bodyPost_ret (results_row_tmp rfl _ _ (w.heap.size + 1) 26 (z9 (fun _ => 0)) (0, 0) _ rfl hbx.out Try.underlying26 rfl (by kernel_rfl)) rfl ⟨ret_two' ?_ (rn_no1 HR.out).2, hb9.out⟩
    rw [(rn_no1 HR.out).1]; rfl

end Go.Proofs.Ytfdjlgpdbgmdkac
