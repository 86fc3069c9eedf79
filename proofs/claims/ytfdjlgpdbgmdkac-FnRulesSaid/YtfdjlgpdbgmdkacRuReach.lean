/- Contracts: which pegs are reached from which, by rules; strong rules, of the program. -/
import Derived.Test.YtfdjlgpdbgmdkacRuIs
import Derived.Test.YtfdjlgpdbgmdkacRuOf
import Derived.Test.YtfdjlgpdbgmdkacRuTurn
namespace Go.Proofs.Ytfdjlgpdbgmdkac
open Go.RowKit Go.Shelf
open Go.RowKit
set_option linter.unusedVariables false

/-- One can go from i to j, as the specification asks it. -/
def tF (r : Nat → Int) (i j : Nat) : Bool := !(decide (i ≠ j) && (r (3 * i + j) == 0 && (r (3 * i + (3 - i - j)) == 0 || r (3 * (3 - i - j) + j) == 0)))
def strTo (r : Nat → Int) (n : Nat) : Bool := (List.range n).all (fun m => tF r (m / 3) (m % 3))
def strB (r : Nat → Int) : Bool := strTo r 9
theorem strTo_succ (r : Nat → Int) (n : Nat) : strTo r (n + 1) = (strTo r n && tF r (n / 3) (n % 3)) := by
  unfold strTo
  rw [List.range_succ, List.all_append]
  simp
theorem strTo_le {r : Nat → Int} {n m : Nat} (h : strTo r n = false) (hm : n ≤ m) : strTo r m = false := by
  induction m with
  | zero => rw [show n = 0 by omega] at h; exact h
  | succ m ih =>
    by_cases e : n = m + 1
    · rw [← e]; exact h
    · rw [strTo_succ, ih (by omega)]; rfl

set_option maxRecDepth 100000 in
set_option maxHeartbeats 4000000 in
theorem l07Strong_calls (r : Nat → Int) (w : World) :
    Calls Try.prog 43 #[.agg (z9 r)] w fun e w' => e = .returned (.bool (strB r)) ∧ Below w.heap.size w w' := by
  have X := Lib.hid (Box.new w 26 (z9 r))
  have HB := Lib.hid ((Below.refl w.heap.size w).alloc (Nat.le_refl _) (.cells (z9 r) 26))
  go_enter Try.func43, Try.ntmps43
  go_wp2
  obtain ⟨x0, x1, x2, x3, x4, x5, x6, x7, x8⟩ := X.out.nine
  generalize w.alloc (.cells (z9 r) 26) = w1 at *
  generalize Value.agg (z9 r) = v0
  clear X
  go_loop [3] (fun i => ∃ a : Nat, a ≤ 3 ∧ i = .int .i64 a ∧ Hid (strTo r (3 * a) = true)) (fun i => 3 - (intOf i).toNat)
  case atStart => exact ⟨0, by omega, rfl, rfl⟩
  case round =>
    obtain ⟨a, ha, rfl, hs⟩ := hrel
    by_cases hlt : a < 3
    · go_wp2
      go_loop [4] (fun j => ∃ b : Nat, b ≤ 3 ∧ j = .int .i64 b ∧ Hid (strTo r (3 * a + b) = true)) (fun j => 3 - (intOf j).toNat)
      case atStart => exact ⟨0, by omega, rfl, hs⟩
      case round =>
        obtain ⟨b, hb, rfl, ht⟩ := hrel
        by_cases hlb : b < 3
        · have hn := strTo_succ r (3 * a + b)
          rw [ht.out, Bool.true_and, show (3 * a + b) / 3 = a by omega, show (3 * a + b) % 3 = b by omega] at hn
          obtain ⟨bb, hbb⟩ : ∃ bb, Hid (bb = b + 1) := ⟨_, rfl⟩
          have HN : Hid (strTo r (3 * a + bb) = tF r a b) := by unfold Hid; rw [hbb.out]; exact hn
          have hbl : bb ≤ 3 := by have := hbb.out; omega
          clear hn ht hs
          rcases (by omega : a = 0 ∨ a = 1 ∨ a = 2) with rfl | rfl | rfl <;> rcases (by omega : b = 0 ∨ b = 1 ∨ b = 2) with rfl | rfl | rfl <;>
          · clear ha hlt hb hlb
            go_wp2
            all_goals first
            | (go_ret; refine ⟨ret_bool ?_, HB.out⟩; refine (strTo_le (HN.out.trans ?_) (by omega)).symm; clear HN; simp_all [tF]; done)
            | (go_round; (case rel => exact ⟨bb, hbl, by have := hbb.out; subst this; rfl, by unfold Hid; (first | refine HN.out.trans ?_ | (rw [← Nat.zero_add bb]; refine HN.out.trans ?_)); clear HN; simp_all [tF]⟩); (case measure => simp [intOf]))
        · obtain rfl : b = 3 := by omega
          go_wp2
          go_round
          case rel => exact ⟨a + 1, by omega, by go_num, ht⟩
          case measure => simp [intOf]; omega
    · obtain rfl : a = 3 := by omega
      go_wp2
      go_ret
      exact ⟨ret_bool hs.out.symm, HB.out⟩

set_option linter.unusedSimpArgs false
attribute [local go_sem] Oper.semAt_some

/-- One more move: the pegs that are reached now, and those to which moves from these are allowed, by the pairs that have come. -/
def stT (a : Int → Int → Bool) (now : Nat → Int) (pre : List PP) (k : Nat) : Int :=
  if pre.any (fun x => decide (k % 3 = x.j.toNat) && (now (k / 3 * 3 + x.i.toNat) == 1 && a x.i x.j)) = true then 1 else now k
/-- The same, when the first t rows of the pair x are done. -/
def stI (a : Int → Int → Bool) (now : Nat → Int) (pre : List PP) (x : PP) (t k : Nat) : Int :=
  if (decide (k / 3 < t) && (decide (k % 3 = x.j.toNat) && (now (k / 3 * 3 + x.i.toNat) == 1 && a x.i x.j))) = true then 1 else stT a now pre k
theorem stI_zero (a : Int → Int → Bool) (now : Nat → Int) (pre : List PP) (x : PP) : stI a now pre x 0 = stT a now pre := by
  funext k
  unfold stI
  rw [if_neg (by simp)]
theorem stI_last (a : Int → Int → Bool) (now : Nat → Int) (pre : List PP) (x : PP) : ∀ k, k < 9 → stI a now pre x 3 k = stT a now (pre ++ [x]) k := by
  intro k hk
  unfold stI stT
  rw [List.any_append]
  have : decide (k / 3 < 3) = true := by simp; omega
  rw [this]
  simp only [List.any_cons, List.any_nil, Bool.or_false, Bool.true_and, Bool.or_eq_true]
  by_cases h1 : (decide (k % 3 = x.j.toNat) && (now (k / 3 * 3 + x.i.toNat) == 1 && a x.i x.j)) = true
  · rw [if_pos h1, if_pos (.inr h1)]
  · rw [if_neg h1]
    by_cases h2 : (pre.any fun x => decide (k % 3 = x.j.toNat) && (now (k / 3 * 3 + x.i.toNat) == 1 && a x.i x.j)) = true
    · rw [if_pos h2, if_pos (.inl h2)]
    · rw [if_neg h2, if_neg (by rintro (h | h); exact h2 h; exact h1 h)]
theorem stI_yes {a : Int → Int → Bool} {now : Nat → Int} {pre : List PP} {x : PP} {t : Nat} (h1 : (now (t * 3 + x.i.toNat) == 1) = true) (h2 : a x.i x.j = true) : ∀ k, k < 9 →
    (if k = t * 3 + x.j.toNat then 1 else stI a now pre x t k) = stI a now pre x (t + 1) k := by
  intro k hk
  have hj := x.hj
  have hjj : x.j.toNat < 3 := by omega
  unfold stI
  by_cases h : k = t * 3 + x.j.toNat
  · rw [if_pos h]
    have e1 : k / 3 = t := by omega
    have e2 : k % 3 = x.j.toNat := by omega
    rw [e1, e2, h1, h2, if_pos (by simp)]
  · rw [if_neg h]
    by_cases hm : k % 3 = x.j.toNat
    · have hne : k / 3 ≠ t := by omega
      have : decide (k / 3 < t) = decide (k / 3 < t + 1) := by
        rw [Bool.eq_iff_iff, decide_eq_true_iff, decide_eq_true_iff]; omega
      rw [this]
    · rw [show decide (k % 3 = x.j.toNat) = false by simpa using hm]
      simp
theorem stI_no {a : Int → Int → Bool} {now : Nat → Int} {pre : List PP} {x : PP} {t : Nat} (h : (now (t * 3 + x.i.toNat) == 1 && a x.i x.j) = false) :
    stI a now pre x t = stI a now pre x (t + 1) := by
  funext k
  unfold stI
  by_cases hm : k / 3 = t
  · rw [hm, h]
    simp
  · have : decide (k / 3 < t) = decide (k / 3 < t + 1) := by
      rw [Bool.eq_iff_iff, decide_eq_true_iff, decide_eq_true_iff]; omega
    rw [this]
/-- After so many moves. -/
def itT (a : Int → Int → Bool) : Nat → Nat → Int
  | 0 => fun k => if k % 4 = 0 then 1 else 0
  | m + 1 => stT a (itT a m) ppAll

/-- Directions told by six tests. -/
def six (b1 b2 b3 b5 b6 b7 : Bool) (i j : Int) : Bool := if i = 0 then (if j = 1 then b1 else b2) else if i = 1 then (if j = 0 then b3 else b5) else (if j = 0 then b6 else b7)
theorem stT_six (a : Int → Int → Bool) (now : Nat → Int) : stT a now ppAll = stT (six (a 0 1) (a 0 2) (a 1 0) (a 1 2) (a 2 0) (a 2 1)) now ppAll := by
  funext k
  simp [stT, ppAll, pp01, pp02, pp10, pp12, pp20, pp21, six]
theorem itT_six (a : Int → Int → Bool) : ∀ m, itT a m = itT (six (a 0 1) (a 0 2) (a 1 0) (a 1 2) (a 2 0) (a 2 1)) m
  | 0 => rfl
  | m + 1 => by
    show stT a (itT a m) ppAll = stT _ (itT _ m) ppAll
    rw [← itT_six a m, stT_six]
theorem itT_stop (a : Int → Int → Bool) : l9 (itT a 3) = l9 (itT a 2) := by
  rw [itT_six a 3, itT_six a 2]
  generalize a 0 1 = b1
  generalize a 0 2 = b2
  generalize a 1 0 = b3
  generalize a 1 2 = b5
  generalize a 2 0 = b6
  generalize a 2 1 = b7
  revert b1 b2 b3 b5 b6 b7
  decide +kernel
theorem l9_at {p q : Nat → Int} (h : l9 p = l9 q) : ∀ k, k < 9 → p k = q k := by
  intro k hk
  unfold l9 at h
  simp only [List.cons.injEq, and_true] at h
  obtain ⟨h0, h1, h2, h3, h4, h5, h6, h7, h8⟩ := h
  match k, hk with
  | 0, _ => exact h0
  | 1, _ => exact h1
  | 2, _ => exact h2
  | 3, _ => exact h3
  | 4, _ => exact h4
  | 5, _ => exact h5
  | 6, _ => exact h6
  | 7, _ => exact h7
  | 8, _ => exact h8
theorem stT_congr {a : Int → Int → Bool} {p q : Nat → Int} (h : ∀ k, k < 9 → p k = q k) (k : Nat) (hk : k < 9) : stT a p ppAll k = stT a q ppAll k := by
  unfold stT
  have e : (fun x : PP => decide (k % 3 = x.j.toNat) && (p (k / 3 * 3 + x.i.toNat) == 1 && a x.i x.j)) = (fun x : PP => decide (k % 3 = x.j.toNat) && (q (k / 3 * 3 + x.i.toNat) == 1 && a x.i x.j)) := by
    funext x
    have := x.hi
    rw [h (k / 3 * 3 + x.i.toNat) (by omega)]
  rw [e, h k hk]
theorem itT_wf (a : Int → Int → Bool) : ∀ m k, (Lit.int .i64 (itT a m k)).wf = true
  | 0, k => by
    show (Lit.int .i64 (if k % 4 = 0 then 1 else 0)).wf = true
    split <;> decide
  | m + 1, k => by
    show (Lit.int .i64 (stT a (itT a m) ppAll k)).wf = true
    unfold stT
    split
    · decide
    · exact itT_wf a m k

set_option linter.unusedSimpArgs false
attribute [local go_sem] Oper.semAt_some

/-- The marks of loops that are over. -/
def marks (ds : List Nat) : List Deferred := ds.map fun D => { target := .collected D, args := #[] }
/-- The marks are there, none with a call. -/
def MK (ds : List Nat) (w : World) : Prop := ∀ D ∈ ds, w.heap[D]? = some (.deferred (some []))
theorem MK.below {ds : List Nat} {w w' : World} {B : Nat} (h : MK ds w) (hb : Below B w w') (hd : ∀ D ∈ ds, D < B) : MK ds w' := fun D hD => (hb.block D (hd D hD)).trans (h D hD)
theorem MK.lt {ds : List Nat} {w : World} (h : MK ds w) : ∀ D ∈ ds, D < w.heap.size := fun D hD => by
  rcases Nat.lt_or_ge D w.heap.size with h' | h'
  · exact h'
  · have := h D hD; rw [Array.getElem?_eq_none h'] at this; cases this
theorem MK.set {ds : List Nat} {w : World} (h : MK ds w) {b k : Nat} (hb : ∀ D ∈ ds, D ≠ b) (u : Value) : MK ds (w.setCell ⟨b, k, none⟩ u) := fun D hD => (Below.heap_setCell _ _ _ _ (hb D hD)).trans (h D hD)
theorem mk_own {β : Type} {B : Nat} {ds : List Nat} (hd : ∀ D ∈ ds, D < B) (hB : True) : OwnFrom B (fun (_ : β) W => MK ds W) := fun s X Y row hs hg hrow D hD => by
  refine (hg.block D (MK.lt hs D hD) ?_).trans (hs D hD)
  intro e
  obtain ⟨h1, _⟩ := hrow D e.symm
  have := hd D hD
  omega
theorem leavesM {F : Fence} {n : Nat} {P : Program} {fn : Func} {tmps : Array Value} {R : Ending → World → Prop} {w0 : World} : ∀ (ds : List Nat) (W : World), MK ds W → ds.Nodup → (∀ D ∈ ds, w0.heap.size ≤ D) →
    (∀ W', (∀ b, b ∉ ds → W'.heap[b]? = W.heap[b]?) → Below w0.heap.size W W' → LeavesIn F n P fn tmps R [] .returning W') → LeavesInM F n P fn tmps R (marks ds) .returning W
  | [], W, _, _, _, h => h W (fun _ _ => rfl) (Below.refl _ _)
  | D :: ds, W, hk, hn, hs, h => by
    have hD := hk D (by simp)
    rw [List.nodup_cons] at hn
    refine ⟨by simp, .inl ⟨D, W.putObj D (.deferred none), rfl, run_takeDeferred hD, ?_⟩⟩
    have hb : Below w0.heap.size W (W.putObj D (.deferred none)) := belowK_b (w := w0) (Nat.le_refl _) W D _ _ (hs D (by simp)) hD rfl rfl
    refine leavesM ds _ (fun E hE => (World.putObj_heap_other (fun e => hn.1 (by rw [← e]; exact hE))).trans (hk E (by simp [hE]))) hn.2 (fun E hE => hs E (by simp [hE])) (fun W' h1 h2 => h W' (fun b hb' => ?_) (hb.trans h2))
    rw [h1 b (fun e => hb' (by simp [e])), World.putObj_heap_other (fun e => hb' (by simp [e]))]

theorem cells9T : Try.prog.cellsOf 54 = 9 := by kernel_rfl
theorem cells9V : Try.prog.cellsOf 25 = 9 := by kernel_rfl
theorem keyT9T : Try.prog.keyTypeAt 4 54 = true := by kernel_rfl
theorem keyLits9V (f : Nat → Int) (h : ∀ i, i < 9 → (Lit.int .i64 (f i)).wf = true) : Try.prog.keyLits 3 25 (Value.agg (z9 f)).cells.toList = some (lits9 f) := by
  have := keyLits9U f h
  unfold Program.keyLits at this ⊢
  simpa [Try.underlying25, Try.underlying26, cells9U, cells9V] using this
theorem keyLits9T (f : Nat → Int) (h : ∀ i, i < 9 → (Lit.int .i64 (f i)).wf = true) : Try.prog.keyLits 4 54 (Value.agg (z9 f)).cells.toList = some (lits9 f) := by
  have e := keyLits9V f h
  simp only [z9, Value.cells] at e ⊢
  unfold Program.keyLits
  simp [Try.underlying54, cells9T, cells9V, e]
theorem eq9T (f g : Nat → Int) (hf : ∀ i, i < 9 → (Lit.int .i64 (f i)).wf = true) (hg : ∀ i, i < 9 → (Lit.int .i64 (g i)).wf = true) (W : World) :
    (Op.equalIn 10000 54 (.agg (z9 f)) (.agg (z9 g))).run Try.prog W = .ok (decide (l9 f = l9 g)) W := by
  have E := run_equalIn_deep (P := Try.prog) 9996 4 54 keyT9T
  obtain ⟨r, hr, hi⟩ := E W 4 4 (.agg (z9 f)) (.agg (z9 g)) _ _ (by simp [Value.formed, Try.underlying54, z9, cells9T]) (by simp [Value.formed, Try.underlying54, z9, cells9T]) (keyLits9T f hf) (keyLits9T g hg)
  rw [hr]
  congr 1
  cases r
  · symm; rw [decide_eq_false_iff_not]; intro h; have := hi.2 ((lits9_iff _ _).2 h); cases this
  · symm; rw [decide_eq_true_iff]; exact (lits9_iff _ _).1 (hi.1 rfl)

set_option linter.unusedSimpArgs false
attribute [local go_sem] Oper.semAt_some

theorem itT_fix {a : Int → Int → Bool} {m : Nat} (h : l9 (itT a (m + 1)) = l9 (itT a m)) (hm : m ≤ 2) : ∀ k, k < 9 → itT a m k = itT a 2 k := by
  have h0 := l9_at h
  have h1 : ∀ k, k < 9 → itT a (m + 2) k = itT a (m + 1) k := fun k hk => stT_congr h0 k hk
  intro k hk
  rcases (by omega : m = 0 ∨ m = 1 ∨ m = 2) with rfl | rfl | rfl
  · rw [← h0 k hk, ← h1 k hk]
  · rw [← h0 k hk]
  · rfl

set_option maxRecDepth 100000 in
set_option maxHeartbeats 8000000 in
theorem reachTable_calls (r : Nat → Int) (w : World) :
    Calls Try.prog 55 #[.iface 26 (.agg (z9 r))] w fun e w' => e = .returned (.agg (z9 (itT (alR r) 2))) ∧ Below w.heap.size w w' := by
  refine (callsIn_wide (n := 6)).1 ?_
  refine callsIn_of_wp_marks Try.func55 rfl trivial ?_ rfl
  simp only [Try.ntmps55, List.size_toArray, List.length_cons, List.length_nil, Nat.reduceAdd, Nat.reduceSub, Array.replicate_succ, Array.replicate_zero, List.push_toArray, List.append_toArray, List.nil_append, List.cons_append]
  have D0 := Box.new w 64 #[.iface 26 (.agg (z9 r))]
  have D1 := D0.alloc (.cells (z9 (fun _ => 0)) 54)
  have D2 := Lib.hid (D1.alloc (.cells (z9 (itT (alR r) 0)) 54))
  have Q0 := Box.new (w.alloc (.cells #[.iface 26 (.agg (z9 r))] 64)) 54 (z9 (fun _ => 0))
  have Q1 := Q0.alloc (.cells (z9 (itT (alR r) 0)) 54)
  have R0 := Box.new ((w.alloc (.cells #[.iface 26 (.agg (z9 r))] 64)).alloc (.cells (z9 (fun _ => 0)) 54)) 54 (z9 (itT (alR r) 0))
  simp only [World.size_alloc] at Q1 R0
  have Q1 := Lib.hid Q1
  have R0 := Lib.hid R0
  have B0 := Lib.hid ((((Below.refl w.heap.size w).alloc (Nat.le_refl _) (.cells #[.iface 26 (.agg (z9 r))] 64)).alloc (by simp) (.cells (z9 (fun _ => 0)) 54)).alloc (by simp; omega) (.cells (z9 (itT (alR r) 0)) 54))
  clear D0 D1 Q0
  gi_wp2
  change Code.wpIn _ _ _ _ _ _ (((w.alloc (.cells #[.iface 26 (.agg (z9 r))] 64)).alloc (.cells (z9 (fun _ => 0)) 54)).alloc (.cells (z9 (itT (alR r) 0)) 54))
  generalize ((w.alloc (.cells #[.iface 26 (.agg (z9 r))] 64)).alloc (.cells (z9 (fun _ => 0)) 54)).alloc (.cells (z9 (itT (alR r) 0)) 54) = wa at *
  refine wpIn_loop (fun (act : Act) (wr : World) => ∃ (m : Nat) (ds : List Nat) (u4 u5 u6 u7 u8 u9 u10 u11 u12 u13 u14 u15 u16 u17 u18 u19 u20 u21 u22 u23 u24 u25 u26 u27 u28 u29 u30 u31 u32 u33 u34 u35 u36 u37 u38 u39 u40 u41 u42 u43 : Value), act = { tmps := #[.iface 26 (.agg (z9 r)), .pointer (some ⟨w.heap.size, 0, none⟩), .pointer (some ⟨w.heap.size + 1, 0, none⟩), .pointer (some ⟨w.heap.size + 1 + 1, 0, none⟩), u4, u5, u6, u7, u8, u9, u10, u11, u12, u13, u14, u15, u16, u17, u18, u19, u20, u21, u22, u23, u24, u25, u26, u27, u28, u29, u30, u31, u32, u33, u34, u35, u36, u37, u38, u39, u40, u41, u42, u43], defers := marks ds } ∧ m ≤ 2 ∧ ds.length = m ∧ ds.Nodup ∧ (∀ D ∈ ds, w.heap.size + 3 ≤ D) ∧ MK ds wr ∧
    (Box wr (w.heap.size + 1 + 1) 54 (z9 (itT (alR r) m)) ∧ Box wr w.heap.size 64 #[.iface 26 (.agg (z9 r))] ∧ Box wr (w.heap.size + 1) 54 (z9 (fun _ => 0))) ∧ Below w.heap.size w wr) (fun act _ => 3 - act.defers.length) ?start ?round
  case start =>
    refine ⟨0, [], _, _, _, _, _, _, _, _, _, _, _, _, _, _, _, _, _, _, _, _, _, _, _, _, _, _, _, _, _, _, _, _, _, _, _, _, _, _, _, _, rfl, by omega, rfl, by simp, by simp, fun D hD => by simp at hD, ⟨R0.out, D2.out, Q1.out⟩, B0.out⟩
  case round =>
    rintro _ wr ⟨m, ds, u4, u5, u6, u7, u8, u9, u10, u11, u12, u13, u14, u15, u16, u17, u18, u19, u20, u21, u22, u23, u24, u25, u26, u27, u28, u29, u30, u31, u32, u33, u34, u35, u36, u37, u38, u39, u40, u41, u42, u43, rfl, hm, hl, hnd, hge, hmk, ⟨hN, hD, hQ⟩, hB⟩
    obtain ⟨x0, x1, x2, x3, x4, x5, x6, x7, x8⟩ := hN.nine
    have hsz := hN.lt
    have HL := Lib.hid hl
    clear hl
    gi_wp2_with (refine ⟨trivial, ?_⟩; gi_at_call 53; refine (pegPairs_calls _ _).mono ?_; rintro e w' ⟨rfl, rfl⟩)
    change Code.wpIn _ _ _ _ _ _ (wr.alloc (.cells (z9 (itT (alR r) m)) 54))
    have NX : Box (wr.alloc (.cells (z9 (itT (alR r) m)) 54)) wr.heap.size 54 (z9 (stT (alR r) (itT (alR r) m) [])) := Box.new wr 54 (z9 (itT (alR r) m))
    have hN2 := hN.alloc (.cells (z9 (itT (alR r) m)) 54)
    have hD2 := hD.alloc (.cells (z9 (itT (alR r) m)) 54)
    have hQ2 := hQ.alloc (.cells (z9 (itT (alR r) m)) 54)
    have hB2 := hB.alloc hB.size (.cells (z9 (itT (alR r) m)) 54)
    have hmk2 := hmk.below ((Below.refl wr.heap.size wr).alloc (Nat.le_refl _) (.cells (z9 (itT (alR r) m)) 54)) hmk.lt
    have hdl := hmk.lt
    have hnbw : wr.heap.size < (wr.alloc (.cells (z9 (itT (alR r) m)) 54)).heap.size := by simp
    clear x0 x1 x2 x3 x4 x5 x6 x7 x8 hN hD hQ hB hmk
    generalize hnow : itT (alR r) m = now at *
    have HNOW := Lib.hid hnow
    clear hnow
    generalize wr.alloc (.cells (z9 now) 54) = wq at *
    generalize wr.heap.size = nb at *
    have HLT := Lib.hid hdl
    have HNX := Lib.hid NX
    have HMK := Lib.hid hmk2
    have HGE := Lib.hid hge
    have HND := Lib.hid hnd
    have HN2 := Lib.hid hN2
    have HD2 := Lib.hid hD2
    have HQ2 := Lib.hid hQ2
    have HB2 := Lib.hid hB2
    clear hdl NX hmk2 hge hnd hN2 hD2 hQ2 hB2
    refine wpIn_rangeFunc_ownG rfl (by omega) (gf := 59) (lb := #[]) rfl trivial (enters_of Try.func59 (by kernel_rfl) rfl)
      (pegPairs_stops _ (by omega) _) (fun _ _ => trivial) (fun _ _ _ _ _ _ _ _ => trivial) (Below.refl _ _) (fun _ => rfl)
      (fun pre W => ((((Box W nb 54 (z9 (stT (alR r) now pre)) ∧ Box W (w.heap.size + 1 + 1) 54 (z9 now)) ∧ Box W w.heap.size 64 #[.iface 26 (.agg (z9 r))]) ∧ Box W (w.heap.size + 1) 54 (z9 (fun _ => 0))) ∧ Below w.heap.size w W) ∧ MK ds W)
      (fun _ _ _ => False)
      (OwnFrom.and (OwnFrom.and (OwnFrom.and (OwnFrom.and (OwnFrom.and (Own.from (box_ownS _ _ (fun pre : List PP => z9 (stT (alR r) now pre))) _) (Own.from (box_own _ _ _) _)) (Own.from (box_own _ _ _) _)) (Own.from (box_own _ _ _) _)) (ownFrom_below (Nat.le_refl _) HB2.out.size)) (mk_own (fun D hD => by have := HLT.out D hD; omega) trivial))
      (fun _ _ _ _ _ hs _ _ => hs)
      ⟨⟨⟨⟨⟨HNX.out, HN2.out⟩, HD2.out⟩, HQ2.out⟩, HB2.out⟩, HMK.out⟩
      (fun x => { tmps := #[.iface 26 (.agg (z9 r)), .pointer (some ⟨w.heap.size, 0, none⟩), .pointer (some ⟨w.heap.size + 1, 0, none⟩), .pointer (some ⟨w.heap.size + 1 + 1, 0, none⟩), .pointer (some ⟨nb, 0, none⟩), .int .i64 x.i, .int .i64 x.j, u7, u8, u9, u10, u11, u12, .agg (z9 now), .func (.func 59) #[] #[], .int .i64 x.i, .int .i64 x.j, u17, u18, u19, u20, u21, u22, u23, u24, u25, u26, u27, u28, u29, u30, u31, u32, u33, u34, u35, u36, u37, u38, u39, u40, u41, u42, u43], defers := [] }) ?assign ?body ?done ?stop
    case assign =>
      intro l x W K hK
      gi_wp2
      simpa [ppV, z9] using hK
    case body =>
      rintro l pre x W ⟨⟨⟨⟨⟨hX, hN⟩, hD⟩, hQ⟩, hB⟩, hMK⟩ hlt
      have hi := x.hi
      have hj := x.hj
      clear hlt
      have HX0 := Lib.hid hX
      have HN0 := Lib.hid hN
      have HD0 := Lib.hid hD
      have HQ0 := Lib.hid hQ
      have HB0 := Lib.hid hB
      have HK0 := Lib.hid hMK
      clear hX hN hD hQ hB hMK
      gi_wp2
      gi_loopw [17] (fun i wq => ∃ t : Nat, t ≤ 3 ∧ i = .int .i64 t ∧ ((((Box wq nb 54 (z9 (stI (alR r) now pre x t)) ∧ Box wq (w.heap.size + 1 + 1) 54 (z9 now)) ∧ Box wq w.heap.size 64 #[.iface 26 (.agg (z9 r))]) ∧ Box wq (w.heap.size + 1) 54 (z9 (fun _ => 0))) ∧ Below w.heap.size w wq) ∧ MK ds wq ∧ KeepsOthers W wq) (fun i _ => 3 - (intOf i).toNat)
      case atStart => exact ⟨0, by omega, rfl, ⟨⟨⟨⟨by rw [stI_zero]; exact HX0.out, HN0.out⟩, HD0.out⟩, HQ0.out⟩, HB0.out⟩, HK0.out, KeepsOthers.refl _⟩
      case round =>
        obtain ⟨t, ht, rfl, ⟨⟨⟨⟨hX, hN⟩, hD⟩, hQ⟩, hB⟩, hMK, hKO⟩ := hrel
        by_cases hlt : t < 3
        · have g1 := hN.get9 (k := t * 3 + x.i.toNat) (by omega)
          obtain ⟨c0, f0⟩ := hD.one
          have HX := Lib.hid hX
          have HN := Lib.hid hN
          have HD := Lib.hid hD
          have HQ := Lib.hid hQ
          have HB := Lib.hid hB
          have HMK := Lib.hid hMK
          have HKO := Lib.hid hKO
          clear hX hN hD hQ hB hMK hKO
          have hm := meth_R r
          by_cases h1 : (now (t * 3 + x.i.toNat) == 1) = true
          · have H1 := Lib.hid h1
            by_cases h2 : alR r x.i x.j = true
            · have H2 := Lib.hid h2
              gi_wp2_with (refine ⟨trivial, ?_⟩; refine (callsIn_wide.2 (allowsR_calls' r x.i x.j hi hj _)).mono ?_; rintro e w1 ⟨rfl, hb⟩; have HX1 := Lib.hid (HX.out.below hb HX.out.lt); have HN1 := Lib.hid (HN.out.below hb HN.out.lt); have HD1 := Lib.hid (HD.out.below hb HD.out.lt); have HQ1 := Lib.hid (HQ.out.below hb HQ.out.lt); have HB1 := Lib.hid (HB.out.trans (hb.mono HB.out.size)); have HK1 := Lib.hid (HMK.out.below hb HMK.out.lt); have KB := Lib.hid (HKO.out.trans (keepsOthers_of_below hb)); clear hb; obtain ⟨v, hv⟩ := HX1.out.at9 (k := t * 3 + x.j.toNat) (by omega); have hfz := HX1.out.frozen (t * 3 + x.j.toNat))
              go_roundw
              case rel =>
                have hnq := HB1.out.size
                refine ⟨t + 1, by omega, by go_num, ⟨⟨⟨⟨?_, HN1.out.other (by simp; omega) _⟩, HD1.out.other (by simp; omega) _⟩, HQ1.out.other (by simp; omega) _⟩, HB1.out.setCell (by simp; omega) _⟩, HK1.out.set (fun D hD => by have := HLT.out D hD; omega) _, KB.out.trans (KeepsOthers.setCell _ _ _)⟩
                have := HX1.out.setz (k := t * 3 + x.j.toNat) (by omega) 1
                rwa [z9_congr (stI_yes H1.out H2.out)] at this
              case measure => simp [intOf]; omega
            · have h2' : alR r x.i x.j = false := by simpa using h2
              have H2 := Lib.hid h2'
              clear h2
              gi_wp2_with (refine ⟨trivial, ?_⟩; refine (callsIn_wide.2 (allowsR_calls' r x.i x.j hi hj _)).mono ?_; rintro e w1 ⟨rfl, hb⟩; have HX1 := Lib.hid (HX.out.below hb HX.out.lt); have HN1 := Lib.hid (HN.out.below hb HN.out.lt); have HD1 := Lib.hid (HD.out.below hb HD.out.lt); have HQ1 := Lib.hid (HQ.out.below hb HQ.out.lt); have HB1 := Lib.hid (HB.out.trans (hb.mono HB.out.size)); have HK1 := Lib.hid (HMK.out.below hb HMK.out.lt); have KB := Lib.hid (HKO.out.trans (keepsOthers_of_below hb)); clear hb)
              go_roundw
              case rel => exact ⟨t + 1, by omega, by go_num, ⟨⟨⟨⟨by rw [← stI_no (by rw [H2.out, Bool.and_false])]; exact HX1.out, HN1.out⟩, HD1.out⟩, HQ1.out⟩, HB1.out⟩, HK1.out, KB.out⟩
              case measure => simp [intOf]; omega
          · have h1' : (now (t * 3 + x.i.toNat) == 1) = false := by simpa using h1
            have H1 := Lib.hid h1'
            clear h1 hm
            gi_wp2
            all_goals
              refine ⟨fun _ _ => trivial, ?_⟩
              gi_wp2
              go_roundw
              case rel => exact ⟨t + 1, by omega, by go_num, ⟨⟨⟨⟨by rw [← stI_no (by rw [H1.out, Bool.false_and])]; exact HX.out, HN.out⟩, HD.out⟩, HQ.out⟩, HB.out⟩, HMK.out, HKO.out⟩
              case measure => simp [intOf]; omega
        · obtain rfl : t = 3 := by omega
          rw [z9_congr (stI_last (alR r) now pre x)] at hX
          gi_wp2
          exact ⟨hKO.from _, trivial, ⟨⟨⟨⟨hX, hN⟩, hD⟩, hQ⟩, hB⟩, hMK⟩
    case done =>
      rintro Dp ys W hDp rfl ⟨⟨⟨⟨⟨hX, hN⟩, hD⟩, hQ⟩, hB⟩, hMK⟩ hK
      have HEQ := eq9T (stT (alR r) now ppAll) now (fun k _ => by have := itT_wf (alR r) (m + 1) k; rwa [show itT (alR r) (m + 1) = stT (alR r) now ppAll by rw [← HNOW.out]; rfl] at this) (fun k _ => by rw [← HNOW.out]; exact itT_wf (alR r) m k)
      have hstep : itT (alR r) (m + 1) = stT (alR r) now ppAll := by rw [← HNOW.out]; rfl
      have HST := Lib.hid hstep
      clear hstep
      obtain ⟨x0, x1, x2, x3, x4, x5, x6, x7, x8⟩ := hX.nine
      obtain ⟨n0, n1, n2, n3, n4, n5, n6, n7, n8⟩ := hN.nine
      have HMK2 := Lib.hid hMK
      have HK2 := Lib.hid hK
      have HDP := Lib.hid hDp
      clear hMK hK hDp
      have HNN := Lib.hid hN
      have HQQ := Lib.hid hQ
      have HDD := Lib.hid hD
      have HXX := Lib.hid hX
      have HBB := Lib.hid hB
      clear hN hD hX hB
      by_cases he : decide (l9 (stT (alR r) now ppAll) = l9 now) = true
      · rw [he] at HEQ
        have HEE : Hid (l9 (itT (alR r) (m + 1)) = l9 (itT (alR r) m)) := by unfold Hid; rw [HST.out, HNOW.out]; exact of_decide_eq_true he
        clear he
        unfold z9 at HEQ
        obtain ⟨y0, y1, y2, y3, y4, y5, y6, y7, y8⟩ := hQ.nine
        obtain ⟨f0, f1, f2, f3, f4, f5, f6, f7, f8⟩ := hQ.frozen9
        gi_wp2
        have hsq := HQQ.out.lt
        have hbx := HQQ.out.set9 now
        have hb9 := below_set9 HBB.out (b := w.heap.size + 1) (by omega) now
        have hsz3 : w.heap.size + 3 ≤ Dp := by have := HDP.out; omega
        have hmk9 : MK (Dp :: ds) (set9 W (w.heap.size + 1) now) := by
          intro D hD
          rcases List.mem_cons.1 hD with rfl | hD'
          · exact (set9_other W _ _ now (by omega)).trans HK2.out
          · exact (set9_other W _ _ now (by have := HGE.out D hD'; omega)).trans (HMK2.out D hD')
        change bodyPostM _ _ _ _ _ _ _ (set9 W (w.heap.size + 1) now)
        generalize set9 W (w.heap.size + 1) now = W9 at *
        refine leavesM (w0 := w) (Dp :: ds) W9 hmk9 (List.nodup_cons.2 ⟨fun hm' => by have := HLT.out Dp hm'; have := HDP.out; omega, HND.out⟩) (fun D hD => ?_) (fun W' h1 h2 => ⟨_, results_cell_row rfl _ _ (w.heap.size + 1) 54 (z9 now) (0, 0) _ rfl ((h1 _ ?_).trans hbx) Try.underlying54 rfl (by kernel_rfl), ?_, hb9.trans h2⟩)
        · rcases List.mem_cons.1 hD with rfl | hD'
          · omega
          · have := HGE.out D hD'; omega
        · intro hm'
          rcases List.mem_cons.1 hm' with e | hD'
          · omega
          · have := HGE.out _ hD'; omega
        · rw [← z9_congr (itT_fix HEE.out hm), HNOW.out]
      · have he' : decide (l9 (stT (alR r) now ppAll) = l9 now) = false := by simpa using he
        rw [he'] at HEQ
        have hm1 : m ≤ 1 := by
          rcases (by omega : m = 0 ∨ m = 1 ∨ m = 2) with rfl | rfl | rfl
          · omega
          · omega
          · exfalso
            rw [← HST.out, ← HNOW.out, itT_stop] at he'
            simp at he'
        clear he he'
        unfold z9 at HEQ
        obtain ⟨f0, f1, f2, f3, f4, f5, f6, f7, f8⟩ := HNN.out.frozen9
        gi_wp2
        have hsz3 : w.heap.size + 3 ≤ Dp := by have := HDP.out; omega
        have hbx := HNN.out.set9 (stT (alR r) now ppAll)
        have hb9 := below_set9 HBB.out (b := w.heap.size + 1 + 1) (by omega) (stT (alR r) now ppAll)
        have hmk9 : MK (Dp :: ds) (set9 W (w.heap.size + 1 + 1) (stT (alR r) now ppAll)) := by
          intro D hD
          rcases List.mem_cons.1 hD with rfl | hD'
          · exact (set9_other W _ _ _ (by omega)).trans HK2.out
          · exact (set9_other W _ _ _ (by have := HGE.out D hD'; omega)).trans (HMK2.out D hD')
        have hD9 : Box (set9 W (w.heap.size + 1 + 1) (stT (alR r) now ppAll)) w.heap.size 64 #[.iface 26 (.agg (z9 r))] := (set9_other W _ _ _ (by omega)).trans HDD.out
        have hQ9 : Box (set9 W (w.heap.size + 1 + 1) (stT (alR r) now ppAll)) (w.heap.size + 1) 54 (z9 (fun _ => 0)) := (set9_other W _ _ _ (by omega)).trans HQQ.out
        refine ⟨⟨m + 1, Dp :: ds, _, _, _, _, _, _, _, _, _, _, _, _, _, _, _, _, _, _, _, _, _, _, _, _, _, _, _, _, _, _, _, _, _, _, _, _, _, _, _, _, rfl, by omega, by rw [List.length_cons, HL.out], List.nodup_cons.2 ⟨fun hm' => by have := HLT.out Dp hm'; have := HDP.out; omega, HND.out⟩, fun D hD => ?_, hmk9, ⟨?_, hD9, hQ9⟩, hb9⟩, ?_⟩
        · rcases List.mem_cons.1 hD with rfl | hD'
          · omega
          · exact HGE.out D hD'
        · rw [HST.out]; exact hbx
        · have := HL.out
          simp [marks]
          omega
    case stop =>
      rintro Dp c pre W _ _ h _
      exact h.elim

end Go.Proofs.Ytfdjlgpdbgmdkac
