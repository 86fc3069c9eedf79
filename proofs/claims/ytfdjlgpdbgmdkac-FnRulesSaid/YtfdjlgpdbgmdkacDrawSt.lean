/- Contracts: the states that a law draws from its code. -/
import Derived.Test.YtfdjlgpdbgmdkacDraw
import Derived.Test.YtfdjlgpdbgmdkacPerfect
import Derived.Test.YtfdjlgpdbgmdkacOwnG
import Derived.Deep.AppendLies
import Derived.Deep.RegionLaw
namespace Go.Proofs.Ytfdjlgpdbgmdkac
open Go.RowKit
set_option linter.unusedVariables false

theorem grown_then {w w1 w2 : World} {row row2 : Option Nat} (h : w.grownBy w1 row) (h2 : w1.grownBy w2 row2) (hr : ∀ k, row2 = some k → w.heap.size ≤ k) : w.grownBy w2 row :=
  ⟨h2.os.trans h.os, h2.tape.trans h.tape, h2.output.trans h.output, Nat.le_trans h.size h2.size, fun k hk hne => (h2.block k (Nat.lt_of_lt_of_le hk h.size) (fun e => by have := hr k e.symm; omega)).trans (h.block k hk hne)⟩
theorem grown_setNew {w w1 : World} {row : Option Nat} (h : w.grownBy w1 row) {b i : Nat} (hb : w.heap.size ≤ b) (u : Value) : w.grownBy (w1.setCell ⟨b, i, none⟩ u) row :=
  grown_then h (grown_set w1 b i u) (fun k hk => by injection hk with hk; omega)
theorem grown_alloc {w w1 : World} {row : Option Nat} (h : w.grownBy w1 row) (o : Obj) : w.grownBy (w1.alloc o) row := h.trans (World.grownBy_alloc _ _ _)
theorem own_src {B g n c m d : Nat} {w : World} {A A' : Option Addr} {L : List Int} (h : Own B w A' m d L) (hs : Src w g A n c) : ∀ g', A' = some ⟨g', 0, none⟩ → some g ≠ some g' := by
  obtain ⟨k, x, hk, hx, hB, hA, hl⟩ := hs
  rintro g' rfl he
  injection he with he
  exact h.ne_box hB (by decide) he.symm
theorem Src.grownRow {g n c B : Nat} {w w1 : World} {A A' : Option Addr} {m d : Nat} {L : List Int} {o : Obj} (hs : Src w g A n c) (h : Own B w A' m d L) (hB : g < B) (hg : (w.alloc o).grownBy w1 (Value.slice A' m d).ownBlock) : Src w1 g A n c := by
  obtain ⟨k, x, hk, hx, hX, hA, hl⟩ := hs
  refine ⟨k, x, hk, hx, OwnG.grown_box (show OwnG 2 1 B w A' m d (L.map (Value.int .i64)) from h) hg hX (by decide), ?_, hl⟩
  have hA2 := hA.below ((Below.refl w.heap.size w).alloc (Nat.le_refl _) o)
  intro j hj
  obtain ⟨ad, rfl, hlt, b, hb8, hc⟩ := hA2 j hj
  refine ⟨ad, rfl, Nat.lt_of_lt_of_le hlt hg.size, b, hb8, hg.cell hc ?_⟩
  rw [add_block]
  intro e
  have := own_bk h _ e.symm
  have := hl _ rfl (by omega)
  omega
theorem Src.setNew {g n c b i : Nat} {w : World} {A : Option Addr} (hs : Src w g A n c) (hb : b ≠ g) (hlt : g < b) (u : Value) : Src (w.setCell ⟨b, i, none⟩ u) g A n c := by
  obtain ⟨k, x, hk, hx, hX, hA, hl⟩ := hs
  exact ⟨k, x, hk, hx, hX.other (fun e => hb e.symm) u, hA.grown (grown_set w b i u) (fun ad e h0 => by have := hl ad e h0; omega), hl⟩

/-- A state that has been drawn into memory of the call's own. -/
def RetDr (w : World) (g : Nat) (A : Option Addr) (n c : Nat) (Q : Int → List Int → Prop) (e : Ending) (w' : World) : Prop :=
  ∃ (p : Int) (A' : Option Addr) (m c' : Nat) (L : List Int), e = .returned (.agg #[.int .i64 p, .slice A' m c']) ∧ Own w.heap.size w' A' m c' L ∧ m ≤ 10 ∧ Q p L ∧ Src w' g A n c ∧ w.grownBy w' (some g)
def okDr (p : Int) (L : List Int) : Prop := (3 ≤ p ∧ p ≤ 5) ∧ (∀ x ∈ L, 0 ≤ x ∧ x ≤ p - 1) ∧ L.length ≤ 8

end Go.Proofs.Ytfdjlgpdbgmdkac
