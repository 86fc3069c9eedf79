/- The iterator of the way, by the program: what it owes to its rounds. -/
import Derived.Test.YtglilhnmgfkfhaaWaySp
import Derived.Test.YtglilhnmgfkfhaaScIn
import Derived.Test.YtglilhnmgfkfhaaSlc
import Derived.Test.YtglilhnmgfkfhaaTold
namespace Go.Proofs.Ytglilhnmgfkfhaa
open Go.RowKit Go.Shelf
set_option linter.unusedVariables false

/-- What the iterator owes: it keeps a private block R between its yields, in which its rounds do not write. -/
def SeqPriv {α : Type} (n : Nat) (P : Program) (g : Nat) (lb : Array Value) (encs : α → Array Value) (et : Nat) (bs : Nat → Prop) (xs : List α) (w : World) : Prop :=
  ∀ (l : Nat) (J : Nat → List α → World → Prop) (W : World), Below w.heap.size w W → (∀ R pre A B, J R pre A → A.grownBy B (some R) → J R pre B) →
    (∀ R pre x W1, W.heap.size ≤ R → (∃ cs, W1.heap[R]? = some (.cells cs et (0, 0))) → (pre ++ [x]) <+: xs → J R pre W1 → YieldAt Fence.wide (n - 1) P l (encs x) W1 fun e W' => e = .returned (.bool true) ∧ J R (pre ++ [x]) W' ∧ KeepB (fun b => bs b ∨ b = R) W1 W' ∧ W1.heap.size ≤ W'.heap.size) →
    (∀ R, W.heap.size ≤ R → J R [] W) → CallsIn Fence.wide n P g (#[.func (.yield l) #[] #[]] ++ lb) W fun e W' => (∃ v, e = .returned v) ∧ ∃ R, J R xs W'

theorem grownR {W W' : World} {r : Option Nat} (h : Below W.heap.size W W') : W.grownBy W' r := ⟨h.os, h.tape, h.output, h.size, fun k hk _ => h.block k hk⟩
theorem grownSet (W : World) (R i : Nat) (v : Value) : W.grownBy (W.setCell ⟨R, i, none⟩ v) (some R) :=
  ⟨rfl, rfl, rfl, by simp [World.setCell], fun k _ hk => heap_setCell_other W ⟨R, i, none⟩ k v (fun e => hk (by rw [e]))⟩
theorem ownCells {B : Nat} {w : World} {g n c : Nat} {L : List Int} (h : OwnG 2 1 B w (some ⟨g, 0, none⟩) n c (L.map (Value.int .i64))) : ∃ cs, w.heap[g]? = some (.cells cs 2 (0, 0)) := by
  rcases h.2 with ⟨hv, _⟩ | ⟨g1, cap, cur, hv, _, hh, _⟩
  · simp at hv
  · injection hv with h1
    injection h1 with h1
    injection h1 with h1
    subst h1
    exact ⟨_, hh⟩
theorem ownKeptW {B : Nat} {w w' : World} {g n c : Nat} {xs : List Value} (h : OwnG 2 1 B w (some ⟨g, 0, none⟩) n c xs) (hb : w'.heap[g]? = w.heap[g]?) (hs : w.heap.size ≤ w'.heap.size) : OwnG 2 1 B w' (some ⟨g, 0, none⟩) n c xs := by
  refine ⟨h.1, ?_⟩
  rcases h.2 with ⟨hv, h2⟩ | ⟨g1, cap, cur, hv, h3, hh, h4⟩
  · simp at hv
  · have hv' := hv
    injection hv' with h1
    injection h1 with h1
    injection h1 with h1
    subst h1
    exact .inr ⟨_, cap, cur, hv, h3, hb.trans hh, h4⟩
def mvEnc (m : Mv) : Array Value := #[mvV m]

end Go.Proofs.Ytglilhnmgfkfhaa
