/- Contracts: which pegs are reached from which, by rules; strong rules, of the program. -/
import Derived.Test.YtbcgoboeeigcgaaRuReachW
namespace Go.Proofs.Ytbcgoboeeigcgaa
open Go.RowKit Go.Shelf
set_option linter.unusedVariables false
set_option linter.unusedSimpArgs false
attribute [local go_sem] Oper.semAt_some

/-- The marks of loops that are over. -/
def marks (ds : List Nat) : List Deferred := ds.map fun D => { target := .collected D, args := #[] }
/-- The marks are there, none with a call. -/
def MK (ds : List Nat) (w : World) : Prop := ∀ D ∈ ds, w.heap[D]? = some (.deferred (some []))
theorem MK.below {ds : List Nat} {w w' : World} {B : Nat} (h : MK ds w) (hb : Below B w w') (hd : ∀ D ∈ ds, D < B) : MK ds w' := fun D hD => (hb.block D (hd D hD)).trans (h D hD)
theorem MK.lt {ds : List Nat} {w : World} (h : MK ds w) : ∀ D ∈ ds, D < w.heap.size := fun D hD => by
  rcases Nat.lt_or_ge D w.heap.size with h' | h'
  · exact h'
  · have := h D hD; rw [Array.getElem?_eq_none h'] at this; cases this
theorem MK.set {ds : List Nat} {w : World} (h : MK ds w) {b k : Nat} (hb : ∀ D ∈ ds, D ≠ b) (u : Value) : MK ds (w.setCell ⟨b, k, none⟩ u) := fun D hD => (Below.heap_setCell _ _ _ _ (hb D hD)).trans (h D hD)
theorem mk_own {β : Type} {B : Nat} {ds : List Nat} (hd : ∀ D ∈ ds, D < B) (hB : True) : OwnFrom B (fun (_ : β) W => MK ds W) := fun s X Y row hs hg hrow D hD => by
  refine (hg.block D (MK.lt hs D hD) ?_).trans (hs D hD)
  intro e
  obtain ⟨h1, _⟩ := hrow D e.symm
  have := hd D hD
  omega
theorem leavesM {F : Fence} {n : Nat} {P : Program} {fn : Func} {tmps : Array Value} {R : Ending → World → Prop} {w0 : World} : ∀ (ds : List Nat) (W : World), MK ds W → ds.Nodup → (∀ D ∈ ds, w0.heap.size ≤ D) →
    (∀ W', (∀ b, b ∉ ds → W'.heap[b]? = W.heap[b]?) → Below w0.heap.size W W' → LeavesIn F n P fn tmps R [] .returning W') → LeavesInM F n P fn tmps R (marks ds) .returning W
  | [], W, _, _, _, h => h W (fun _ _ => rfl) (Below.refl _ _)
  | D :: ds, W, hk, hn, hs, h => by
    have hD := hk D (by simp)
    rw [List.nodup_cons] at hn
    refine ⟨by simp, .inl ⟨D, W.putObj D (.deferred none), rfl, run_takeDeferred hD, ?_⟩⟩
    have hb : Below w0.heap.size W (W.putObj D (.deferred none)) := belowK_b (w := w0) (Nat.le_refl _) W D _ _ (hs D (by simp)) hD rfl rfl
    refine leavesM ds _ (fun E hE => (World.putObj_heap_other (fun e => hn.1 (by rw [← e]; exact hE))).trans (hk E (by simp [hE]))) hn.2 (fun E hE => hs E (by simp [hE])) (fun W' h1 h2 => h W' (fun b hb' => ?_) (hb.trans h2))
    rw [h1 b (fun e => hb' (by simp [e])), World.putObj_heap_other (fun e => hb' (by simp [e]))]

theorem cells9T : Try.prog.cellsOf 45 = 9 := by kernel_rfl
theorem cells9V : Try.prog.cellsOf 23 = 9 := by kernel_rfl
theorem keyT9T : Try.prog.keyTypeAt 4 45 = true := by kernel_rfl
theorem keyLits9V (f : Nat → Int) (h : ∀ i, i < 9 → (Lit.int .i64 (f i)).wf = true) : Try.prog.keyLits 3 23 (Value.agg (z9 f)).cells.toList = some (lits9 f) := by
  have := keyLits9U f h
  unfold Program.keyLits at this ⊢
  simpa [Try.underlying23, Try.underlying27, cells9U, cells9V] using this
theorem keyLits9T (f : Nat → Int) (h : ∀ i, i < 9 → (Lit.int .i64 (f i)).wf = true) : Try.prog.keyLits 4 45 (Value.agg (z9 f)).cells.toList = some (lits9 f) := by
  have e := keyLits9V f h
  simp only [z9, Value.cells] at e ⊢
  unfold Program.keyLits
  simp [Try.underlying45, cells9T, cells9V, e]
theorem eq9T (f g : Nat → Int) (hf : ∀ i, i < 9 → (Lit.int .i64 (f i)).wf = true) (hg : ∀ i, i < 9 → (Lit.int .i64 (g i)).wf = true) (W : World) :
    (Op.equalIn 10000 45 (.agg (z9 f)) (.agg (z9 g))).run Try.prog W = .ok (decide (l9 f = l9 g)) W := by
  have E := run_equalIn_deep (P := Try.prog) 9996 4 45 keyT9T
  obtain ⟨r, hr, hi⟩ := E W 4 4 (.agg (z9 f)) (.agg (z9 g)) _ _ (by simp [Value.formed, Try.underlying45, z9, cells9T]) (by simp [Value.formed, Try.underlying45, z9, cells9T]) (keyLits9T f hf) (keyLits9T g hg)
  rw [hr]
  congr 1
  cases r
  · symm; rw [decide_eq_false_iff_not]; intro h; have := hi.2 ((lits9_iff _ _).2 h); cases this
  · symm; rw [decide_eq_true_iff]; exact (lits9_iff _ _).1 (hi.1 rfl)

end Go.Proofs.Ytbcgoboeeigcgaa
