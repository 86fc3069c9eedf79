/- Contracts: the rules with the directions of rules and of turned rules. -/
import Derived.Test.YtfdjlgpdbgmdkacIterW
import Derived.Test.YtfdjlgpdbgmdkacRu
import Derived.Test.YtfdjlgpdbgmdkacRuAllow
namespace Go.Proofs.Ytfdjlgpdbgmdkac
open Go.RowKit Go.Shelf
set_option linter.unusedVariables false
set_option linter.unusedSimpArgs false
attribute [local go_sem] Oper.semAt_some

/-- A pair of different pegs. -/
structure PP where
  i : Int
  j : Int
  hi : 0 ≤ i ∧ i < 3
  hj : 0 ≤ j ∧ j < 3
  hne : i ≠ j
def ppV (x : PP) : Array Value := #[.int .i64 x.i, .int .i64 x.j]

def pp01 : PP := ⟨0, 1, by decide, by decide, by decide⟩
def pp02 : PP := ⟨0, 2, by decide, by decide, by decide⟩
def pp10 : PP := ⟨1, 0, by decide, by decide, by decide⟩
def pp12 : PP := ⟨1, 2, by decide, by decide, by decide⟩
def pp20 : PP := ⟨2, 0, by decide, by decide, by decide⟩
def pp21 : PP := ⟨2, 1, by decide, by decide, by decide⟩
def ppAll : List PP := [pp01, pp02, pp10, pp12, pp20, pp21]

theorem pegPairs_calls (n : Nat) (w : World) :
    CallsIn Fence.wide n Try.prog 53 #[] w fun e w' => e = .returned (.func (.func 59) #[] #[]) ∧ w' = w := by
  refine callsIn_of_wp Try.func53 rfl trivial ?_ rfl
  simp only [Try.ntmps53, List.size_toArray, List.length_cons, List.length_nil, Nat.reduceAdd, Nat.reduceSub, Array.replicate_succ, Array.replicate_zero, List.push_toArray, List.append_toArray, List.nil_append, List.cons_append]
  gi_wp2
  go_ret
  exact ⟨rfl, rfl⟩

set_option maxRecDepth 100000 in
set_option maxHeartbeats 4000000 in
theorem pegPairs1_in (n l : Nat) (hn : 1 ≤ n) (J Jx : List PP → World → Prop)
    (hY : ∀ pre (x : PP) W, J pre W → pre.length < 40 → YieldAt Fence.wide (n - 1) Try.prog l (ppV x) W fun e W' =>
      (e = .returned (.bool true) ∧ J (pre ++ [x]) W' ∧ True) ∨ (e = .returned (.bool false) ∧ Jx (pre ++ [x]) W'))
    (W : World) (h0 : J [] W) :
    CallsIn Fence.wide n Try.prog 59 #[.func (.yield l) #[] #[]] W fun e W' => (∃ v, e = .returned v) ∧
      ((∃ ys, ys = ppAll ∧ J ys W') ∨ (∃ pre, pre <+: ppAll ∧ Jx pre W')) := by
  refine callsIn_of_wp Try.func59 rfl trivial ?_ rfl
  simp only [Try.ntmps59, List.size_toArray, List.length_cons, List.length_nil, Nat.reduceAdd, Nat.reduceSub, Array.replicate_succ, Array.replicate_zero, List.push_toArray, List.append_toArray, List.nil_append, List.cons_append]
  gi_wp2
  refine wpIn_loop_rounds 4 ?_
  rw [roundsIn_succ]
  gi_wp2
  refine wpIn_loop_rounds 4 ?_
  rw [roundsIn_succ]
  gi_wp2
  refine ⟨fun _ h => (by cases h), ?_⟩
  gi_wp2
  rw [roundsIn_succ]
  obtain ⟨fn1, tmps1, assign1, body1, hy1, hR1⟩ := hY [] pp01 W h0 (by simp)
  dsimp only [ppV, pp01] at hy1
  gi_wp2
  refine hR1.mono ?_
  rintro e W1 hw
  rcases hw with ⟨rfl, h1, _⟩ | ⟨rfl, hx⟩
  rotate_left
  · gi_wp2
    refine bodyPost_ret (results_none rfl _ _ _) rfl ?_
    exact ⟨⟨_, rfl⟩, .inr ⟨[pp01], ⟨[pp02, pp10, pp12, pp20, pp21], rfl⟩, hx⟩⟩
  clear hy1 hR1
  gi_wp2
  rw [roundsIn_succ]
  obtain ⟨fn2, tmps2, assign2, body2, hy2, hR2⟩ := hY [pp01] pp02 W1 h1 (by simp)
  dsimp only [ppV, pp02] at hy2
  gi_wp2
  refine hR2.mono ?_
  rintro e W2 hw
  rcases hw with ⟨rfl, h2, _⟩ | ⟨rfl, hx⟩
  rotate_left
  · gi_wp2
    refine bodyPost_ret (results_none rfl _ _ _) rfl ?_
    exact ⟨⟨_, rfl⟩, .inr ⟨[pp01, pp02], ⟨[pp10, pp12, pp20, pp21], rfl⟩, hx⟩⟩
  clear hy2 hR2
  gi_wp2
  rw [roundsIn_succ]
  gi_wp2
  rw [roundsIn_succ]
  gi_wp2
  refine wpIn_loop_rounds 4 ?_
  rw [roundsIn_succ]
  obtain ⟨fn3, tmps3, assign3, body3, hy3, hR3⟩ := hY [pp01, pp02] pp10 W2 h2 (by simp)
  dsimp only [ppV, pp10] at hy3
  gi_wp2
  refine hR3.mono ?_
  rintro e W3 hw
  rcases hw with ⟨rfl, h3, _⟩ | ⟨rfl, hx⟩
  rotate_left
  · gi_wp2
    refine bodyPost_ret (results_none rfl _ _ _) rfl ?_
    exact ⟨⟨_, rfl⟩, .inr ⟨[pp01, pp02, pp10], ⟨[pp12, pp20, pp21], rfl⟩, hx⟩⟩
  clear hy3 hR3
  gi_wp2
  rw [roundsIn_succ]
  gi_wp2
  refine ⟨fun _ h => (by cases h), ?_⟩
  gi_wp2
  rw [roundsIn_succ]
  obtain ⟨fn4, tmps4, assign4, body4, hy4, hR4⟩ := hY [pp01, pp02, pp10] pp12 W3 h3 (by simp)
  dsimp only [ppV, pp12] at hy4
  gi_wp2
  refine hR4.mono ?_
  rintro e W4 hw
  rcases hw with ⟨rfl, h4, _⟩ | ⟨rfl, hx⟩
  rotate_left
  · gi_wp2
    refine bodyPost_ret (results_none rfl _ _ _) rfl ?_
    exact ⟨⟨_, rfl⟩, .inr ⟨[pp01, pp02, pp10, pp12], ⟨[pp20, pp21], rfl⟩, hx⟩⟩
  clear hy4 hR4
  gi_wp2
  rw [roundsIn_succ]
  gi_wp2
  rw [roundsIn_succ]
  gi_wp2
  refine wpIn_loop_rounds 4 ?_
  rw [roundsIn_succ]
  obtain ⟨fn5, tmps5, assign5, body5, hy5, hR5⟩ := hY [pp01, pp02, pp10, pp12] pp20 W4 h4 (by simp)
  dsimp only [ppV, pp20] at hy5
  gi_wp2
  refine hR5.mono ?_
  rintro e W5 hw
  rcases hw with ⟨rfl, h5, _⟩ | ⟨rfl, hx⟩
  rotate_left
  · gi_wp2
    refine bodyPost_ret (results_none rfl _ _ _) rfl ?_
    exact ⟨⟨_, rfl⟩, .inr ⟨[pp01, pp02, pp10, pp12, pp20], ⟨[pp21], rfl⟩, hx⟩⟩
  clear hy5 hR5
  gi_wp2
  rw [roundsIn_succ]
  obtain ⟨fn6, tmps6, assign6, body6, hy6, hR6⟩ := hY [pp01, pp02, pp10, pp12, pp20] pp21 W5 h5 (by simp)
  dsimp only [ppV, pp21] at hy6
  gi_wp2
  refine hR6.mono ?_
  rintro e W6 hw
  rcases hw with ⟨rfl, h6, _⟩ | ⟨rfl, hx⟩
  rotate_left
  · gi_wp2
    refine bodyPost_ret (results_none rfl _ _ _) rfl ?_
    exact ⟨⟨_, rfl⟩, .inr ⟨[pp01, pp02, pp10, pp12, pp20, pp21], ⟨[], rfl⟩, hx⟩⟩
  clear hy6 hR6
  gi_wp2
  rw [roundsIn_succ]
  gi_wp2
  refine ⟨fun _ h => (by cases h), ?_⟩
  gi_wp2
  rw [roundsIn_succ]
  gi_wp2
  rw [roundsIn_succ]
  gi_wp2
  go_end0
  exact ⟨⟨_, rfl⟩, .inl ⟨_, rfl, h6⟩⟩

/-- All pairs of different pegs, as a function that is ranged over: all of them, in their order, or a first part. -/
theorem pegPairs_stops (n : Nat) (hn : 1 ≤ n) (w : World) :
    SeqStopsK Fence.wide n Try.prog 59 #[] ppV (fun _ _ => True) (fun ys => ys = ppAll) (fun pre => pre <+: ppAll) 40 w := fun l J Jx W hW hJ hJx hY h0 =>
  pegPairs1_in n l hn J Jx hY W h0

set_option linter.unusedSimpArgs false
attribute [local go_sem] Oper.semAt_some

/-- The rules after the pairs that have come: 1 where the moves are allowed. -/
def rP (a : Int → Int → Bool) (pre : List PP) (k : Nat) : Int := if pre.any (fun x => decide ((3 * x.i + x.j).toNat = k) && a x.i x.j) = true then 1 else 0
theorem rP_yes {a : Int → Int → Bool} {pre : List PP} {x : PP} (h : a x.i x.j = true) (k : Nat) : rP a (pre ++ [x]) k = if k = (3 * x.i + x.j).toNat then 1 else rP a pre k := by
  unfold rP
  rw [List.any_append]
  by_cases hk : k = (3 * x.i + x.j).toNat
  · subst hk
    simp [h]
  · rw [if_neg hk]
    have : ¬ (3 * x.i + x.j).toNat = k := fun e => hk e.symm
    simp [this]
theorem rP_no {a : Int → Int → Bool} {pre : List PP} {x : PP} (h : a x.i x.j = false) : rP a (pre ++ [x]) = rP a pre := by
  funext k
  unfold rP
  rw [List.any_append]
  simp [h]
theorem z9_set (r : Nat → Int) {k : Nat} (hk : k < 9) (v : Int) : (z9 r).setIfInBounds k (.int .i64 v) = z9 (fun j => if j = k then v else r j) := by
  match k, hk with
  | 0, _ => rfl
  | 1, _ => rfl
  | 2, _ => rfl
  | 3, _ => rfl
  | 4, _ => rfl
  | 5, _ => rfl
  | 6, _ => rfl
  | 7, _ => rfl
  | 8, _ => rfl
theorem Box.at9 {w : World} {b t k : Nat} {r : Nat → Int} (h : Box w b t (z9 r)) (hk : k < 9) : ∃ v, w.cell? ⟨b, k, none⟩ = some v := by
  refine ⟨(z9 r)[k]'(by simpa [z9] using hk), ?_⟩
  rw [h.cell k]
  exact Array.getElem?_eq_getElem _
def set9 (w : World) (b : Nat) (r : Nat → Int) : World := (((((((((w.setCell ⟨b, 0, none⟩ (.int .i64 (r 0))).setCell ⟨b, 1, none⟩ (.int .i64 (r 1))).setCell ⟨b, 2, none⟩ (.int .i64 (r 2))).setCell ⟨b, 3, none⟩ (.int .i64 (r 3))).setCell ⟨b, 4, none⟩ (.int .i64 (r 4))).setCell ⟨b, 5, none⟩ (.int .i64 (r 5))).setCell ⟨b, 6, none⟩ (.int .i64 (r 6))).setCell ⟨b, 7, none⟩ (.int .i64 (r 7))).setCell ⟨b, 8, none⟩ (.int .i64 (r 8)))
theorem Box.setz {w : World} {b t k : Nat} {r : Nat → Int} (h : Box w b t (z9 r)) (hk : k < 9) (v : Int) : Box (w.setCell ⟨b, k, none⟩ (.int .i64 v)) b t (z9 (fun j => if j = k then v else r j)) := by
  have := h.set k (.int .i64 v)
  rwa [z9_set _ hk] at this
theorem Box.set9 {w : World} {b t : Nat} {q : Nat → Int} (h : Box w b t (z9 q)) (r : Nat → Int) : Box (Go.Proofs.Ytfdjlgpdbgmdkac.set9 w b r) b t (z9 r) := by
  have := (((((((((h.setz (by omega) (r 0) (k := 0)).setz (by omega) (r 1) (k := 1)).setz (by omega) (r 2) (k := 2)).setz (by omega) (r 3) (k := 3)).setz (by omega) (r 4) (k := 4)).setz (by omega) (r 5) (k := 5)).setz (by omega) (r 6) (k := 6)).setz (by omega) (r 7) (k := 7)).setz (by omega) (r 8) (k := 8))
  have e : ∀ f : Nat → Int, (∀ k, k < 9 → f k = r k) → z9 f = z9 r := by
    intro f hf
    unfold z9
    rw [hf 0 (by omega), hf 1 (by omega), hf 2 (by omega), hf 3 (by omega), hf 4 (by omega), hf 5 (by omega), hf 6 (by omega), hf 7 (by omega), hf 8 (by omega)]
  rw [e _ (by
    intro k hk
    match k, hk with
    | 0, _ => rfl
    | 1, _ => rfl
    | 2, _ => rfl
    | 3, _ => rfl
    | 4, _ => rfl
    | 5, _ => rfl
    | 6, _ => rfl
    | 7, _ => rfl
    | 8, _ => rfl
    )] at this
  exact this
theorem set9_other (w : World) (b j : Nat) (r : Nat → Int) (h : b ≠ j) : (set9 w b r).heap[j]? = w.heap[j]? := by
  unfold set9
  rw [Below.heap_setCell _ _ _ _ (by exact Ne.symm h), Below.heap_setCell _ _ _ _ (by exact Ne.symm h), Below.heap_setCell _ _ _ _ (by exact Ne.symm h), Below.heap_setCell _ _ _ _ (by exact Ne.symm h), Below.heap_setCell _ _ _ _ (by exact Ne.symm h), Below.heap_setCell _ _ _ _ (by exact Ne.symm h), Below.heap_setCell _ _ _ _ (by exact Ne.symm h), Below.heap_setCell _ _ _ _ (by exact Ne.symm h), Below.heap_setCell _ _ _ _ (by exact Ne.symm h)]
theorem below_set9 {B b : Nat} {w w' : World} (h : Below B w w') (hB : B ≤ b) (r : Nat → Int) : Below B w (set9 w' b r) := (((((((((h.setCell hB _).setCell hB _).setCell hB _).setCell hB _).setCell hB _).setCell hB _).setCell hB _).setCell hB _).setCell hB _)
theorem box_ownS {β : Type} (B : Nat) (t : TypeId) (cs : β → Array Value) : Go.Own (fun (s : β) W => Box W B t (cs s)) := fun s X Y row hs hg hrow =>
  hs.grown hg (fun e' => by obtain ⟨o, ho, hc⟩ := hrow B e'.symm; rw [show X.heap[B]? = _ from hs] at ho; cases ho; cases hc)
theorem Box.frozen9 {w : World} {b t : Nat} {r : Nat → Int} (h : Box w b t (z9 r)) : w.frozen? ⟨b, 0, none⟩ = false ∧ w.frozen? ⟨b, 1, none⟩ = false ∧ w.frozen? ⟨b, 2, none⟩ = false ∧ w.frozen? ⟨b, 3, none⟩ = false ∧ w.frozen? ⟨b, 4, none⟩ = false ∧ w.frozen? ⟨b, 5, none⟩ = false ∧ w.frozen? ⟨b, 6, none⟩ = false ∧ w.frozen? ⟨b, 7, none⟩ = false ∧ w.frozen? ⟨b, 8, none⟩ = false :=
  ⟨h.frozen 0, h.frozen 1, h.frozen 2, h.frozen 3, h.frozen 4, h.frozen 5, h.frozen 6, h.frozen 7, h.frozen 8⟩

theorem meth_R (r : Nat → Int) (q : Nat) (w : World) : Sem.run Try.prog (method (q + 1) 26 (.agg (z9 r)) "loop.example/g01321/impl.allows") w = .ok (77, .agg (z9 r)) w := by kernel_rfl
theorem allowsR_calls' (r : Nat → Int) (i j : Int) (hi : 0 ≤ i ∧ i < 3) (hj : 0 ≤ j ∧ j < 3) (w : World) :
    Calls Try.prog 77 #[.agg (z9 r), .int .i64 i, .int .i64 j] w fun e w' => e = .returned (.bool (alR r i j)) ∧ Below w.heap.size w w' :=
  (allowsR_calls r i j hi hj w).mono fun _ _ ⟨he, hw⟩ => ⟨he, by rw [hw]; exact (Below.refl _ _).alloc (Nat.le_refl _) _⟩

set_option maxRecDepth 100000 in
set_option maxHeartbeats 4000000 in
theorem rulesOfR_calls (r : Nat → Int) (w : World) :
    Calls Try.prog 35 #[.iface 26 (.agg (z9 r))] w fun e w' => e = .returned (.agg (z9 (rP (alR r) ppAll))) ∧ Below w.heap.size w w' := by
  refine (callsIn_wide (n := 6)).1 ?_
  refine callsIn_of_wp_marks Try.func35 rfl trivial ?_ rfl
  simp only [Try.ntmps35, List.size_toArray, List.length_cons, List.length_nil, Nat.reduceAdd, Nat.reduceSub, Array.replicate_succ, Array.replicate_zero, List.push_toArray, List.append_toArray, List.nil_append, List.cons_append]
  have D0 := Box.new w 64 #[.iface 26 (.agg (z9 r))]
  have D1 := D0.alloc (.cells (z9 (fun _ => 0)) 26)
  have D2 := D1.alloc (.cells (z9 (fun _ => 0)) 26)
  have Q0 := Box.new (w.alloc (.cells #[.iface 26 (.agg (z9 r))] 64)) 26 (z9 (fun _ => 0))
  have Q1 := Q0.alloc (.cells (z9 (fun _ => 0)) 26)
  have R0 := Box.new ((w.alloc (.cells #[.iface 26 (.agg (z9 r))] 64)).alloc (.cells (z9 (fun _ => 0)) 26)) 26 (z9 (fun _ => 0))
  simp only [World.size_alloc] at Q1 R0
  have B0 : Below w.heap.size w (((w.alloc (.cells #[.iface 26 (.agg (z9 r))] 64)).alloc (.cells (z9 (fun _ => 0)) 26)).alloc (.cells (z9 (fun _ => 0)) 26)) := (((Below.refl _ _).alloc (Nat.le_refl _) _).alloc (by simp) _).alloc (by simp; omega) _
  clear D0 D1 Q0
  gi_wp2_with (refine ⟨trivial, ?_⟩; gi_at_call 53; refine (pegPairs_calls _ _).mono ?_; rintro e w' ⟨rfl, rfl⟩)
  change Box _ _ _ (z9 (rP (alR r) [])) at R0
  refine wpIn_rangeFunc_ownG rfl (by omega) (gf := 59) (lb := #[]) rfl trivial (enters_of Try.func59 (by kernel_rfl) rfl)
    (pegPairs_stops _ (by omega) _) (fun _ _ => trivial) (fun _ _ _ _ _ _ _ _ => trivial) (Below.refl _ _) (fun _ => rfl)
    (fun pre W => ((Box W (w.heap.size + 1 + 1) 26 (z9 (rP (alR r) pre)) ∧ Box W w.heap.size 64 #[.iface 26 (.agg (z9 r))]) ∧ Box W (w.heap.size + 1) 26 (z9 (fun _ => 0))) ∧ Below w.heap.size w W)
    (fun _ _ _ => False)
    (OwnFrom.and (OwnFrom.and (OwnFrom.and (Own.from (box_ownS _ _ (fun pre : List PP => z9 (rP (alR r) pre))) _) (Own.from (box_own _ _ _) _)) (Own.from (box_own _ _ _) _)) (ownFrom_below (Nat.le_refl _) (by simp; omega)))
    (fun _ _ _ _ _ hs _ _ => hs)
    ⟨⟨⟨R0, D2⟩, Q1⟩, B0⟩
    (fun x => { tmps := #[.iface 26 (.agg (z9 r)), .pointer (some ⟨w.heap.size, 0, none⟩), .pointer (some ⟨w.heap.size + 1, 0, none⟩), .pointer (some ⟨w.heap.size + 1 + 1, 0, none⟩), .int .i64 x.i, .int .i64 x.j, .func (.func 59) #[] #[], .int .i64 x.i, .int .i64 x.j, undef, undef, undef, undef, undef, undef, undef, undef, undef], defers := [] }) ?assign ?body ?done ?stop
  case assign =>
    intro l x W K hK
    gi_wp2
    simpa [ppV] using hK
  case body =>
    rintro l pre x W ⟨⟨⟨hr, hd⟩, hq⟩, hB⟩ hlt
    obtain ⟨xi, xj, hi, hj, hne⟩ := x
    obtain ⟨c0, f0⟩ := hd.one
    have hsz := hr.lt
    have HR := Lib.hid hr
    have HD := Lib.hid hd
    have HQ := Lib.hid hq
    have HB := Lib.hid hB
    clear hr hd hq hB
    dsimp only
    by_cases ha : (alR r) xi xj = true
    · have ha' := Lib.hid ha
      have hx := ha
      try dsimp only at hx
      clear ha
      have hm := meth_R r
      gi_wp2_with (refine ⟨trivial, ?_⟩; refine (callsIn_wide.2 (allowsR_calls' r xi xj hi hj _)).mono ?_; rintro e w1 ⟨rfl, hb⟩; have HR1 := Lib.hid (HR.out.below hb HR.out.lt); have HD1 := Lib.hid (HD.out.below hb HD.out.lt); have HQ1 := Lib.hid (HQ.out.below hb HQ.out.lt); have HB1 := Lib.hid (HB.out.trans (hb.mono HB.out.size)); have KB := Lib.hid (keepsOthers_of_below hb); clear hb; obtain ⟨v, hv⟩ := HR1.out.at9 (k := xi.toNat * 3 + xj.toNat) (by omega); have hfz := HR1.out.frozen (xi.toNat * 3 + xj.toNat))
      refine ⟨(KB.out.trans (KeepsOthers.setCell _ _ _)).from _, trivial, ?_, HB1.out.setCell (by simp; omega) _⟩
      refine ⟨⟨?_, HD1.out.other (by simp; omega) _⟩, HQ1.out.other (by simp) _⟩
      have h9 := HR1.out.set (xi.toNat * 3 + xj.toNat) (.int .i64 1)
      rw [z9_set _ (by omega)] at h9
      rwa [show rP (alR r) (pre ++ [⟨xi, xj, hi, hj, hne⟩]) = fun k => if k = xi.toNat * 3 + xj.toNat then 1 else rP (alR r) pre k from funext fun k => (rP_yes (x := ⟨xi, xj, hi, hj, hne⟩) ha'.out k).trans (by rw [show (3 * xi + xj).toNat = xi.toNat * 3 + xj.toNat by omega])]
    · have ha' := Lib.hid (show (alR r) xi xj = false by simpa using ha)
      have hx := ha'.out
      try dsimp only at hx
      clear ha
      have hm := meth_R r
      gi_wp2_with (refine ⟨trivial, ?_⟩; refine (callsIn_wide.2 (allowsR_calls' r xi xj hi hj _)).mono ?_; rintro e w1 ⟨rfl, hb⟩; have HR1 := Lib.hid (HR.out.below hb HR.out.lt); have HD1 := Lib.hid (HD.out.below hb HD.out.lt); have HQ1 := Lib.hid (HQ.out.below hb HQ.out.lt); have HB1 := Lib.hid (HB.out.trans (hb.mono HB.out.size)); have KB := Lib.hid (keepsOthers_of_below hb); clear hb)
      refine ⟨KB.out.from _, trivial, ⟨⟨?_, HD1.out⟩, HQ1.out⟩, HB1.out⟩
      rw [rP_no (x := ⟨xi, xj, hi, hj, hne⟩) ha'.out]
      exact HR1.out
  case done =>
    rintro Dp ys W hDp rfl ⟨⟨⟨hr, hd⟩, hq⟩, hB⟩ hK
    obtain ⟨x0, x1, x2, x3, x4, x5, x6, x7, x8⟩ := hr.nine
    obtain ⟨y0, y1, y2, y3, y4, y5, y6, y7, y8⟩ := hq.nine
    obtain ⟨f0, f1, f2, f3, f4, f5, f6, f7, f8⟩ := hq.frozen9
    gi_wp2
    have hsz := hq.lt
    have hDq : w.heap.size + 1 ≠ Dp := by simp at hDp; omega
    have hbx := hq.set9 (rP (alR r) ppAll)
    have hK9 := (set9_other W _ Dp (rP (alR r) ppAll) hDq).trans hK
    have hB9 := below_set9 hB (b := w.heap.size + 1) (by omega) (rP (alR r) ppAll)
    change bodyPostM _ _ _ _ _ _ _ (set9 W (w.heap.size + 1) (rP (alR r) ppAll))
    generalize set9 W (w.heap.size + 1) (rP (alR r) ppAll) = W9 at *
    refine ⟨by simp, .inl ⟨_, _, rfl, run_takeDeferred hK9, ?_⟩⟩
    refine ⟨_, results_cell_row rfl _ _ (w.heap.size + 1) 26 (z9 (rP (alR r) ppAll)) (0, 0) _ rfl ((World.putObj_heap_other hDq).trans hbx) Try.underlying26 rfl (by kernel_rfl), rfl, hB9.trans (belowK_b (w := w) (Nat.le_refl _) W9 Dp _ _ (by simp at hDp; omega) hK9 rfl rfl)⟩
  case stop =>
    rintro Dp c pre W _ _ h _
    exact h.elim

theorem meth_T (v : Value) (q : Nat) (w : World) : Sem.run Try.prog (method (q + 1) 66 (.agg #[v]) "loop.example/g01321/impl.allows") w = .ok (78, .agg #[v]) w := by kernel_rfl

set_option maxRecDepth 100000 in
set_option maxHeartbeats 4000000 in
theorem rulesOfT_calls (r : Nat → Int) (w : World) :
    Calls Try.prog 35 #[.iface 66 (.agg #[.iface 26 (.agg (z9 r))])] w fun e w' => e = .returned (.agg (z9 (rP (fun i j => alR r j i) ppAll))) ∧ Below w.heap.size w w' := by
  refine (callsIn_wide (n := 6)).1 ?_
  refine callsIn_of_wp_marks Try.func35 rfl trivial ?_ rfl
  simp only [Try.ntmps35, List.size_toArray, List.length_cons, List.length_nil, Nat.reduceAdd, Nat.reduceSub, Array.replicate_succ, Array.replicate_zero, List.push_toArray, List.append_toArray, List.nil_append, List.cons_append]
  have D0 := Box.new w 64 #[.iface 66 (.agg #[.iface 26 (.agg (z9 r))])]
  have D1 := D0.alloc (.cells (z9 (fun _ => 0)) 26)
  have D2 := D1.alloc (.cells (z9 (fun _ => 0)) 26)
  have Q0 := Box.new (w.alloc (.cells #[.iface 66 (.agg #[.iface 26 (.agg (z9 r))])] 64)) 26 (z9 (fun _ => 0))
  have Q1 := Q0.alloc (.cells (z9 (fun _ => 0)) 26)
  have R0 := Box.new ((w.alloc (.cells #[.iface 66 (.agg #[.iface 26 (.agg (z9 r))])] 64)).alloc (.cells (z9 (fun _ => 0)) 26)) 26 (z9 (fun _ => 0))
  simp only [World.size_alloc] at Q1 R0
  have B0 : Below w.heap.size w (((w.alloc (.cells #[.iface 66 (.agg #[.iface 26 (.agg (z9 r))])] 64)).alloc (.cells (z9 (fun _ => 0)) 26)).alloc (.cells (z9 (fun _ => 0)) 26)) := (((Below.refl _ _).alloc (Nat.le_refl _) _).alloc (by simp) _).alloc (by simp; omega) _
  clear D0 D1 Q0
  gi_wp2_with (refine ⟨trivial, ?_⟩; gi_at_call 53; refine (pegPairs_calls _ _).mono ?_; rintro e w' ⟨rfl, rfl⟩)
  change Box _ _ _ (z9 (rP (fun i j => alR r j i) [])) at R0
  refine wpIn_rangeFunc_ownG rfl (by omega) (gf := 59) (lb := #[]) rfl trivial (enters_of Try.func59 (by kernel_rfl) rfl)
    (pegPairs_stops _ (by omega) _) (fun _ _ => trivial) (fun _ _ _ _ _ _ _ _ => trivial) (Below.refl _ _) (fun _ => rfl)
    (fun pre W => ((Box W (w.heap.size + 1 + 1) 26 (z9 (rP (fun i j => alR r j i) pre)) ∧ Box W w.heap.size 64 #[.iface 66 (.agg #[.iface 26 (.agg (z9 r))])]) ∧ Box W (w.heap.size + 1) 26 (z9 (fun _ => 0))) ∧ Below w.heap.size w W)
    (fun _ _ _ => False)
    (OwnFrom.and (OwnFrom.and (OwnFrom.and (Own.from (box_ownS _ _ (fun pre : List PP => z9 (rP (fun i j => alR r j i) pre))) _) (Own.from (box_own _ _ _) _)) (Own.from (box_own _ _ _) _)) (ownFrom_below (Nat.le_refl _) (by simp; omega)))
    (fun _ _ _ _ _ hs _ _ => hs)
    ⟨⟨⟨R0, D2⟩, Q1⟩, B0⟩
    (fun x => { tmps := #[.iface 66 (.agg #[.iface 26 (.agg (z9 r))]), .pointer (some ⟨w.heap.size, 0, none⟩), .pointer (some ⟨w.heap.size + 1, 0, none⟩), .pointer (some ⟨w.heap.size + 1 + 1, 0, none⟩), .int .i64 x.i, .int .i64 x.j, .func (.func 59) #[] #[], .int .i64 x.i, .int .i64 x.j, undef, undef, undef, undef, undef, undef, undef, undef, undef], defers := [] }) ?assign ?body ?done ?stop
  case assign =>
    intro l x W K hK
    gi_wp2
    simpa [ppV] using hK
  case body =>
    rintro l pre x W ⟨⟨⟨hr, hd⟩, hq⟩, hB⟩ hlt
    obtain ⟨xi, xj, hi, hj, hne⟩ := x
    obtain ⟨c0, f0⟩ := hd.one
    have hsz := hr.lt
    have HR := Lib.hid hr
    have HD := Lib.hid hd
    have HQ := Lib.hid hq
    have HB := Lib.hid hB
    clear hr hd hq hB
    dsimp only
    by_cases ha : (fun i j => alR r j i) xi xj = true
    · have ha' := Lib.hid ha
      have hx := ha
      try dsimp only at hx
      clear ha
      have hm := meth_T (.iface 26 (.agg (z9 r)))
      gi_wp2_with (refine ⟨trivial, ?_⟩; refine (callsIn_wide.2 (allowsT_calls r xi xj hi hj _)).mono ?_; rintro e w1 ⟨rfl, hb⟩; have HR1 := Lib.hid (HR.out.below hb HR.out.lt); have HD1 := Lib.hid (HD.out.below hb HD.out.lt); have HQ1 := Lib.hid (HQ.out.below hb HQ.out.lt); have HB1 := Lib.hid (HB.out.trans (hb.mono HB.out.size)); have KB := Lib.hid (keepsOthers_of_below hb); clear hb; obtain ⟨v, hv⟩ := HR1.out.at9 (k := xi.toNat * 3 + xj.toNat) (by omega); have hfz := HR1.out.frozen (xi.toNat * 3 + xj.toNat))
      refine ⟨(KB.out.trans (KeepsOthers.setCell _ _ _)).from _, trivial, ?_, HB1.out.setCell (by simp; omega) _⟩
      refine ⟨⟨?_, HD1.out.other (by simp; omega) _⟩, HQ1.out.other (by simp) _⟩
      have h9 := HR1.out.set (xi.toNat * 3 + xj.toNat) (.int .i64 1)
      rw [z9_set _ (by omega)] at h9
      rwa [show rP (fun i j => alR r j i) (pre ++ [⟨xi, xj, hi, hj, hne⟩]) = fun k => if k = xi.toNat * 3 + xj.toNat then 1 else rP (fun i j => alR r j i) pre k from funext fun k => (rP_yes (x := ⟨xi, xj, hi, hj, hne⟩) ha'.out k).trans (by rw [show (3 * xi + xj).toNat = xi.toNat * 3 + xj.toNat by omega])]
    · have ha' := Lib.hid (show (fun i j => alR r j i) xi xj = false by simpa using ha)
      have hx := ha'.out
      try dsimp only at hx
      clear ha
      have hm := meth_T (.iface 26 (.agg (z9 r)))
      gi_wp2_with (refine ⟨trivial, ?_⟩; refine (callsIn_wide.2 (allowsT_calls r xi xj hi hj _)).mono ?_; rintro e w1 ⟨rfl, hb⟩; have HR1 := Lib.hid (HR.out.below hb HR.out.lt); have HD1 := Lib.hid (HD.out.below hb HD.out.lt); have HQ1 := Lib.hid (HQ.out.below hb HQ.out.lt); have HB1 := Lib.hid (HB.out.trans (hb.mono HB.out.size)); have KB := Lib.hid (keepsOthers_of_below hb); clear hb)
      refine ⟨KB.out.from _, trivial, ⟨⟨?_, HD1.out⟩, HQ1.out⟩, HB1.out⟩
      rw [rP_no (x := ⟨xi, xj, hi, hj, hne⟩) ha'.out]
      exact HR1.out
  case done =>
    rintro Dp ys W hDp rfl ⟨⟨⟨hr, hd⟩, hq⟩, hB⟩ hK
    obtain ⟨x0, x1, x2, x3, x4, x5, x6, x7, x8⟩ := hr.nine
    obtain ⟨y0, y1, y2, y3, y4, y5, y6, y7, y8⟩ := hq.nine
    obtain ⟨f0, f1, f2, f3, f4, f5, f6, f7, f8⟩ := hq.frozen9
    gi_wp2
    have hsz := hq.lt
    have hDq : w.heap.size + 1 ≠ Dp := by simp at hDp; omega
    have hbx := hq.set9 (rP (fun i j => alR r j i) ppAll)
    have hK9 := (set9_other W _ Dp (rP (fun i j => alR r j i) ppAll) hDq).trans hK
    have hB9 := below_set9 hB (b := w.heap.size + 1) (by omega) (rP (fun i j => alR r j i) ppAll)
    change bodyPostM _ _ _ _ _ _ _ (set9 W (w.heap.size + 1) (rP (fun i j => alR r j i) ppAll))
    generalize set9 W (w.heap.size + 1) (rP (fun i j => alR r j i) ppAll) = W9 at *
    refine ⟨by simp, .inl ⟨_, _, rfl, run_takeDeferred hK9, ?_⟩⟩
    refine ⟨_, results_cell_row rfl _ _ (w.heap.size + 1) 26 (z9 (rP (fun i j => alR r j i) ppAll)) (0, 0) _ rfl ((World.putObj_heap_other hDq).trans hbx) Try.underlying26 rfl (by kernel_rfl), rfl, hB9.trans (belowK_b (w := w) (Nat.le_refl _) W9 Dp _ _ (by simp at hDp; omega) hK9 rfl rfl)⟩
  case stop =>
    rintro Dp c pre W _ _ h _
    exact h.elim

end Go.Proofs.Ytfdjlgpdbgmdkac
