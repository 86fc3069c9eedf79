/- A range over a function that keeps a private list between its yields. A law over the library's base law; no program. -/
import Derived.Test.YtglilhnmgfkfhaaWayIt
namespace Go.Proofs.Ytglilhnmgfkfhaa
open Go.RowKit Go.Shelf

/-- How a round ends: it goes on, and the private block is as it was. -/
def privPost {α : Type} (B : Nat) (bs : Nat → Prop) (I : Nat → List α → World → Prop) (R : Nat) (xs : List α) (W : World) : Exit → Act → World → Prop
  | .normal, _, W' => KeepsFrom B W W' ∧ KeepB (fun b => bs b ∨ b = R) W W' ∧ I R xs W'
  | _, _, _ => False

variable {P : Program} {n : Nat}

theorem rangeFunc_priv {α : Type} {g : Operand} {ps : Array Tmp} {assign body : Code} {Q : Exit → Act → World → Prop} {a : Act} {w : World} (h1 : 1 ≤ n) {gf : Nat} {lb : Array Value}
    (hg : a.eval g = .func (.func gf) #[] lb) (eg : ∀ args w, (callFunc gf args).run P w = .ok (.enter gf args) w)
    {encs : α → Array Value} {et : Nat} {bs : Nat → Prop} {xs : List α} (hseq : SeqPriv (n - 1) P gf lb encs et bs xs w) (hps : ∀ x, (encs x).size = ps.size) (hbs : ∀ b, bs b → b < w.heap.size)
    (I : Nat → List α → World → Prop) (hI : ∀ R, OwnFrom w.heap.size (I R)) (hIR : ∀ R pre A B, I R pre A → A.grownBy B (some R) → I R pre B) (h0 : ∀ R, w.heap.size + 2 ≤ R → I R [] w) (Ax : Nat → List α → α → Act → World → Prop) (hAx : ∀ R pre x a', OwnFrom w.heap.size (fun (_ : Unit) W => Ax R pre x a' W))
    (hassign : ∀ (l R : Nat) (pre : List α) (x : α) (W : World) (K : Act → World → Prop), w.heap.size + 2 ≤ R → (∃ cs, W.heap[R]? = some (.cells cs et (0, 0))) → (pre ++ [x]) <+: xs → I R pre W → (∀ a' W', KeepsFrom w.heap.size W W' → KeepB (fun b => bs b ∨ b = R) W W' → I R pre W' → Ax R pre x a' W' → K a' W') →
      assign.wpIn (Fence.wide.inRound l) (n - 1 - 1) P (Exit.then K (fun _ _ _ => False)) { tmps := (ps.zip (encs x)).foldl (fun t (p, v) => t.setIfInBounds p v) a.tmps, defers := [] } W)
    (hbody : ∀ (l R : Nat) (pre : List α) (x : α) (a' : Act) (W : World), w.heap.size + 2 ≤ R → (∃ cs, W.heap[R]? = some (.cells cs et (0, 0))) → (pre ++ [x]) <+: xs → I R pre W → Ax R pre x a' W → body.wpIn (Fence.wide.inRound l) (n - 1 - 1) P (privPost w.heap.size bs I R (pre ++ [x]) W) a' W)
    (hdone : ∀ (D R : Nat) (W : World), w.heap.size ≤ D → w.heap.size + 2 ≤ R → I R xs W → W.heap[D]? = some (.deferred (some [])) → Q .normal { a with defers := { target := .collected D, args := #[] } :: a.defers } W) :
    (Code.rangeFunc g ps assign body).wpIn Fence.wide n P Q a w := by
  refine wpIn_rangeFunc fun fn hfn => ?_
  -- the record of the loop, at each of its states
  let C : LoopState → Option Code → Obj := fun st pe => .loop { state := st, pending := pe, fn, tmps := a.tmps, params := ps, assign, body, defers := w.heap.size }
  -- the two blocks of book-keeping, and the world in which the iterator is called
  let L : Nat := w.heap.size + 1
  obtain ⟨V, hV⟩ : ∃ V, (w.alloc (.deferred (some []))).alloc (C .ready none) = V := ⟨_, rfl⟩
  have bV : Below w.heap.size w V := by rw [← hV]; exact ((Below.refl _ w).alloc (Nat.le_refl _) _).alloc (by simp) _
  have sV : V.heap.size = w.heap.size + 2 := by rw [← hV]; simp
  have kV : V.heap[w.heap.size]? = some (.deferred (some [])) := by
    rw [← hV]; exact (Below.heap_alloc _ _ _ (by simp)).trans (World.alloc_heap_new w _)
  have lV : V.heap[L]? = some (C .ready none) := by
    rw [← hV]; have := World.alloc_heap_new (w.alloc (.deferred (some []))) (C .ready none); rwa [World.size_alloc] at this
  have iV : ∀ R, w.heap.size + 2 ≤ R → I R [] V := by rw [← hV]; exact fun R hR => (hI R).alloc _ ((hI R).alloc _ (h0 R hR))
  -- what holds between two rounds
  let J : Nat → List α → World → Prop := fun R pre W => w.heap.size + 2 ≤ R ∧ I R pre W ∧ W.heap[w.heap.size]? = some (.deferred (some [])) ∧ W.heap[L]? = some (C .ready none)
  refine ⟨L, [{ target := .collected w.heap.size, args := #[] }], V, { target := .fn (.func gf) lb, args := #[.func (.yield L) #[] #[]] }, V, gf, #[.func (.yield L) #[] #[]] ++ lb, V,
    by rw [← hV]; exact run_enterLoop_outer _ _ _ _ _, by simp only [resolve, hg]; simp [go_sem], fun _ _ => trivial, by simp [invoke, go_sem, eg], fun _ => h1, ?_⟩
  refine (hseq L J V bV (fun R pre A B ⟨hR, i, k, l⟩ hb => ⟨hR, hIR _ _ _ _ i hb, (hb.block _ (Array.getElem?_eq_some_iff.1 k).1 (by simp; omega)).trans k, (hb.block _ (Array.getElem?_eq_some_iff.1 l).1 (by simp [L]; omega)).trans l⟩) ?round (fun R hR => ⟨by omega, iV R (by omega), kV, lV⟩)).mono ?_
  case round =>
    rintro R pre x W _ ⟨cs, hcs⟩ hpx ⟨hR, i, k, l⟩
    refine ⟨fn, _, assign, body, run_yield l (hps x), roundIn_of_wpIn hfn (hassign L R pre x W _ hR ⟨cs, hcs⟩ hpx i fun a' U kf kp iU ax => ?_)⟩
    have kU := kf.same _ _ (Nat.le_refl _) k rfl
    have lU := kf.same _ _ (Nat.le_succ _) l rfl
    have ltU := (Array.getElem?_eq_some_iff.1 lU).1
    have hKb : ∀ (A : World) (o' : Obj), KeepB (fun b => bs b ∨ b = R) A (A.putObj L o') := fun A o' b hb => World.putObj_heap_other (by
      rcases hb with hb | rfl
      · have := hbs b hb; show b ≠ w.heap.size + 1; omega
      · show b ≠ w.heap.size + 1; omega)
    refine ⟨_, run_beginRound lU rfl, ?_⟩
    -- the round begins: the record is busy
    obtain ⟨U2, hU2⟩ : ∃ U2, U.putObj L (C .busy none) = U2 := ⟨_, rfl⟩
    have lU2 : U2.heap[L]? = some (C .busy none) := by rw [← hU2]; exact World.putObj_heap_same ltU
    have kU2 : U2.heap[w.heap.size]? = some (.deferred (some [])) := by rw [← hU2]; exact (World.putObj_heap_other (by omega)).trans kU
    have iU2 : I R pre U2 := by rw [← hU2]; exact (hI R).putObj _ iU (Nat.le_succ _) lU rfl
    have aU2 : Ax R pre x a' U2 := by rw [← hU2]; exact (hAx R pre x a').putObj (s := ()) _ ax (Nat.le_succ _) lU rfl
    have pU2 : KeepB (fun b => bs b ∨ b = R) U U2 := by rw [← hU2]; exact hKb _ _
    have sU2 : U2.heap.size = U.heap.size := by rw [← hU2]; simp [World.putObj]
    show body.wpIn (Fence.wide.inRound L) (n - 1 - 1) P _ a' (U.putObj L (C .busy none))
    rw [hU2]
    refine wpIn_mono (hbody L R pre x a' U2 hR ⟨cs, (pU2 R (.inr rfl)).trans ((kp R (.inr rfl)).trans hcs)⟩ hpx iU2 aU2) ?_
    rintro (_ | _ | _ | _ | _ | _) a3 U3 hp <;> first | exact hp.elim | skip
    obtain ⟨kf3, kp3, i3⟩ := hp
    have l3 := kf3.same _ _ (Nat.le_succ _) lU2 rfl
    have k3 := kf3.same _ _ (Nat.le_refl _) kU2 rfl
    refine ⟨_, _, run_endRound none l3, rfl, ⟨hR, (hI R).putObj _ i3 (Nat.le_succ _) l3 rfl, (World.putObj_heap_other (by omega)).trans k3, World.putObj_heap_same (Array.getElem?_eq_some_iff.1 l3).1⟩, ?_, ?_⟩
    · exact keepB_t kp (keepB_t pU2 (keepB_t kp3 (hKb _ _)))
    · have h1 := kf.size
      have h2 := kf3.size
      simp [World.putObj]
      omega
  · rintro e W2 ⟨⟨v, rfl⟩, R, hR, i, k, l⟩
    exact ⟨none, _, run_endLoop l (by simp), hdone _ R _ (Nat.le_refl _) hR ((hI R).putObj _ i (Nat.le_succ _) l rfl) ((World.putObj_heap_other (by omega)).trans k)⟩

end Go.Proofs.Ytglilhnmgfkfhaa
