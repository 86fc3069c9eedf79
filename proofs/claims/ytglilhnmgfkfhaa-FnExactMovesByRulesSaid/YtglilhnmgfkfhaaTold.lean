/- A range over a function whose elements lie in memory: the iterator tells the round what is known of the element in the world at hand. A law over the library's base law; no program. -/
import Derived.Test.YtglilhnmgfkfhaaIter
namespace Go.Proofs.Ytglilhnmgfkfhaa
open Go.RowKit Go.Shelf

/-- What the iterator owes: to each round an element of which G is known there. -/
def SeqTold {α : Type} (n : Nat) (P : Program) (g : Nat) (lb : Array Value) (encs : α → Array Value) (G : List α → α → World → Prop) (Kp : World → World → Prop) (S : List α → Prop) (w : World) : Prop :=
  ∀ (l : Nat) (J : List α → World → Prop) (W : World), Below w.heap.size w W → (∀ pre A B, J pre A → Below A.heap.size A B → J pre B) →
    (∀ pre x W1, J pre W1 → G pre x W1 → YieldAt Fence.wide (n - 1) P l (encs x) W1 fun e W' => e = .returned (.bool true) ∧ J (pre ++ [x]) W' ∧ Kp W1 W') →
    J [] W → CallsIn Fence.wide n P g (#[.func (.yield l) #[] #[]] ++ lb) W fun e W' => (∃ v, e = .returned v) ∧ ∃ xs, S xs ∧ J xs W'

/-- How a round ends: it goes on. -/
def toldPost {α : Type} (B : Nat) (Kp : World → World → Prop) (I : List α → World → Prop) (xs : List α) (W : World) : Exit → Act → World → Prop
  | .normal, _, W' => KeepsFrom B W W' ∧ Kp W W' ∧ I xs W'
  | _, _, _ => False

variable {P : Program} {n : Nat}

theorem rangeFunc_told {α : Type} {g : Operand} {ps : Array Tmp} {assign body : Code} {Q : Exit → Act → World → Prop} {a : Act} {w : World} (h1 : 1 ≤ n) {gf : Nat} {lb : Array Value}
    (hg : a.eval g = .func (.func gf) #[] lb) (eg : ∀ args w, (callFunc gf args).run P w = .ok (.enter gf args) w)
    {encs : α → Array Value} {G : List α → α → World → Prop} {Kp : World → World → Prop} {S : List α → Prop} (hseq : SeqTold (n - 1) P gf lb encs G Kp S w) (hps : ∀ x, (encs x).size = ps.size)
    (hKt : ∀ {A B C : World}, Kp A B → Kp B C → Kp A C) (hKb : ∀ (W : World) (l : Nat) (o o' : Obj), w.heap.size ≤ l → W.heap[l]? = some o → o.isCells = false → o.isWalk = false → Kp W (W.putObj l o'))
    (I : List α → World → Prop) (hI : OwnFrom w.heap.size I) (h0 : I [] w) (Ax : List α → α → Act → World → Prop) (hAx : ∀ pre x a', OwnFrom w.heap.size (fun (_ : Unit) W => Ax pre x a' W))
    (hassign : ∀ (l : Nat) (pre : List α) (x : α) (W : World) (K : Act → World → Prop), I pre W → G pre x W → (∀ a' W', KeepsFrom w.heap.size W W' → Kp W W' → I pre W' → Ax pre x a' W' → K a' W') →
      assign.wpIn (Fence.wide.inRound l) (n - 1 - 1) P (Exit.then K (fun _ _ _ => False)) { tmps := (ps.zip (encs x)).foldl (fun t (p, v) => t.setIfInBounds p v) a.tmps, defers := [] } W)
    (hbody : ∀ (l : Nat) (pre : List α) (x : α) (a' : Act) (W : World), I pre W → Ax pre x a' W → body.wpIn (Fence.wide.inRound l) (n - 1 - 1) P (toldPost w.heap.size Kp I (pre ++ [x]) W) a' W)
    (hdone : ∀ (D : Nat) (xs : List α) (W : World), w.heap.size ≤ D → S xs → I xs W → W.heap[D]? = some (.deferred (some [])) → Q .normal { a with defers := { target := .collected D, args := #[] } :: a.defers } W) :
    (Code.rangeFunc g ps assign body).wpIn Fence.wide n P Q a w := by
  refine wpIn_rangeFunc fun fn hfn => ?_
  -- the record of the loop, at each of its states
  let R : LoopState → Option Code → Obj := fun st pe => .loop { state := st, pending := pe, fn, tmps := a.tmps, params := ps, assign, body, defers := w.heap.size }
  -- the two blocks of book-keeping, and the world in which the iterator is called
  let L : Nat := w.heap.size + 1
  obtain ⟨V, hV⟩ : ∃ V, (w.alloc (.deferred (some []))).alloc (R .ready none) = V := ⟨_, rfl⟩
  have bV : Below w.heap.size w V := by rw [← hV]; exact ((Below.refl _ w).alloc (Nat.le_refl _) _).alloc (by simp) _
  have kV : V.heap[w.heap.size]? = some (.deferred (some [])) := by
    rw [← hV]; exact (Below.heap_alloc _ _ _ (by simp)).trans (World.alloc_heap_new w _)
  have lV : V.heap[L]? = some (R .ready none) := by
    rw [← hV]; have := World.alloc_heap_new (w.alloc (.deferred (some []))) (R .ready none); rwa [World.size_alloc] at this
  have iV : I [] V := by rw [← hV]; exact hI.alloc _ (hI.alloc _ h0)
  -- what holds between two rounds
  let J : List α → World → Prop := fun pre W => I pre W ∧ W.heap[w.heap.size]? = some (.deferred (some [])) ∧ W.heap[L]? = some (R .ready none)
  refine ⟨L, [{ target := .collected w.heap.size, args := #[] }], V, { target := .fn (.func gf) lb, args := #[.func (.yield L) #[] #[]] }, V, gf, #[.func (.yield L) #[] #[]] ++ lb, V,
    by rw [← hV]; exact run_enterLoop_outer _ _ _ _ _, by simp only [resolve, hg]; simp [go_sem], fun _ _ => trivial, by simp [invoke, go_sem, eg], fun _ => h1, ?_⟩
  refine (hseq L J V bV (fun pre A B ⟨i, k, l⟩ hb => ⟨hI _ _ _ none i (grown_of_below hb) (fun r e => by cases e), (hb.block _ (Array.getElem?_eq_some_iff.1 k).1).trans k, (hb.block _ (Array.getElem?_eq_some_iff.1 l).1).trans l⟩) ?round ⟨iV, kV, lV⟩).mono ?_
  case round =>
    rintro pre x W ⟨i, k, l⟩ hG
    refine ⟨fn, _, assign, body, run_yield l (hps x), roundIn_of_wpIn hfn (hassign L pre x W _ i hG fun a' U kf kp iU ax => ?_)⟩
    have kU := kf.same _ _ (Nat.le_refl _) k rfl
    have lU := kf.same _ _ (Nat.le_succ _) l rfl
    have ltU := (Array.getElem?_eq_some_iff.1 lU).1
    refine ⟨_, run_beginRound lU rfl, ?_⟩
    -- the round begins: the record is busy
    obtain ⟨U2, hU2⟩ : ∃ U2, U.putObj L (R .busy none) = U2 := ⟨_, rfl⟩
    have lU2 : U2.heap[L]? = some (R .busy none) := by rw [← hU2]; exact World.putObj_heap_same ltU
    have kU2 : U2.heap[w.heap.size]? = some (.deferred (some [])) := by rw [← hU2]; exact (World.putObj_heap_other (by omega)).trans kU
    have iU2 : I pre U2 := by rw [← hU2]; exact hI.putObj _ iU (Nat.le_succ _) lU rfl
    have aU2 : Ax pre x a' U2 := by rw [← hU2]; exact (hAx pre x a').putObj (s := ()) _ ax (Nat.le_succ _) lU rfl
    have pU2 : Kp U U2 := by rw [← hU2]; exact hKb _ _ _ _ (Nat.le_succ _) lU rfl rfl
    show body.wpIn (Fence.wide.inRound L) (n - 1 - 1) P _ a' (U.putObj L (R .busy none))
    rw [hU2]
    refine wpIn_mono (hbody L pre x a' U2 iU2 aU2) ?_
    rintro (_ | _ | _ | _ | _ | _) a3 U3 hp <;> first | exact hp.elim | skip
    obtain ⟨kf3, kp3, i3⟩ := hp
    have l3 := kf3.same _ _ (Nat.le_succ _) lU2 rfl
    have k3 := kf3.same _ _ (Nat.le_refl _) kU2 rfl
    refine ⟨_, _, run_endRound none l3, rfl, ⟨hI.putObj _ i3 (Nat.le_succ _) l3 rfl, (World.putObj_heap_other (by omega)).trans k3, World.putObj_heap_same (Array.getElem?_eq_some_iff.1 l3).1⟩, ?_⟩
    exact hKt kp (hKt pU2 (hKt kp3 (hKb _ _ _ _ (Nat.le_succ _) l3 rfl rfl)))
  · rintro e W2 ⟨⟨v, rfl⟩, xs, hS, i, k, l⟩
    exact ⟨none, _, run_endLoop l (by simp), hdone _ xs _ (Nat.le_refl _) hS (hI.putObj _ i (Nat.le_succ _) l rfl) ((World.putObj_heap_other (by omega)).trans k)⟩

end Go.Proofs.Ytglilhnmgfkfhaa
