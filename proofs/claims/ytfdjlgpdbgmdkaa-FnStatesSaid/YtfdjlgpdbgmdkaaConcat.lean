/- Contracts: slices.Concat over words of integers, slices.Grow of nothing. -/
import Derived.Test.YtfdjlgpdbgmdkaaMark
import Derived.Test.YtfdjlgpdbgmdkaaNews
import Derived.Test.YtfdjlgpdbgmdkaaOwnI
import Derived.Lib.AppendZeros
namespace Go.Proofs.Ytfdjlgpdbgmdkaa
open Go.RowKit
set_option linter.unusedVariables false

/-- A word that lies in memory. -/
structure Wd where
  ad : Addr
  n : Nat
  c : Nat
  L : List Int
def Wd.v (x : Wd) : Value := .slice (some x.ad) x.n x.c
def Wd.at (w : World) (x : Wd) : Prop := x.L.length = x.n ∧ x.n ≤ 16 ∧ Ints w (some x.ad) x.L
def WdsAt (w : World) (g : Nat) (ws : List Wd) : Prop := Box w g 24 (ws.map Wd.v).toArray ∧ ∀ x ∈ ws, x.at w
def catL (ws : List Wd) : List Int := (ws.map Wd.L).flatten
theorem WdsAt.below {w w' : World} {g : Nat} {ws : List Wd} (h : WdsAt w g ws) (hb : Below w.heap.size w w') : WdsAt w' g ws :=
  ⟨h.1.below hb h.1.lt, fun x hx => ⟨(h.2 x hx).1, (h.2 x hx).2.1, (h.2 x hx).2.2.below hb⟩⟩
theorem catL_succ {ws : List Wd} {j : Nat} {x : Wd} (h : ws[j]? = some x) : catL (ws.take (j + 1)) = catL (ws.take j) ++ x.L := by
  obtain ⟨hj, he⟩ := List.getElem?_eq_some_iff.1 h
  unfold catL
  rw [List.take_succ_eq_append_getElem hj, he]
  simp
theorem catL_len {ws : List Wd} {w : World} (h : ∀ x ∈ ws, x.at w) : (catL ws).length ≤ 16 * ws.length := by
  induction ws with
  | nil => simp [catL]
  | cons x t ih =>
    have h1 := h x List.mem_cons_self
    have h2 := ih (fun y hy => h y (List.mem_cons_of_mem _ hy))
    have e : catL (x :: t) = x.L ++ catL t := by simp [catL]
    rw [e, List.length_append, h1.1, List.length_cons]
    have := h1.2.1
    omega
theorem WdsAt.get {w : World} {g j : Nat} {ws : List Wd} (h : WdsAt w g ws) (hj : j < ws.length) : ∃ (ad : Addr) (n c : Nat) (L : List Int), ws[j]? = some ⟨ad, n, c, L⟩ ∧ L.length = n ∧ n ≤ 16 ∧ Ints w (some ad) L ∧ w.cell? ⟨g, j, none⟩ = some (.slice (some ad) n c) := by
  have hx := List.getElem?_eq_getElem hj
  have ha := h.2 _ (List.getElem_mem hj)
  refine ⟨ws[j].ad, ws[j].n, ws[j].c, ws[j].L, hx, ha.1, ha.2.1, ha.2.2, ?_⟩
  rw [h.1.cell j]
  simp [hj, Wd.v]

theorem OwnG.grown_belowB {e size B : Nat} {w w1 : World} {A : Option Addr} {n c : Nat} {xs : List Value} {B0 : Nat} (h : OwnG e size B w A n c xs) (hg : w.grownBy w1 (Value.slice A n c).ownBlock) (h1 : B0 ≤ B) (h2 : B0 ≤ w.heap.size) : Below B0 w w1 := by
  refine (Below.refl B0 w).grown hg h2 (fun k hk => ?_)
  rcases h.form with ⟨rfl, rfl, rfl⟩ | ⟨g, rfl, hB, _⟩
  · simp [Value.ownBlock] at hk
  · simp only [Value.ownBlock, Option.some.injEq] at hk
    omega

end Go.Proofs.Ytfdjlgpdbgmdkaa
