/- Contracts: turned rules, of both sides. -/
import Derived.Test.YtbcgoboeeigcgaaRuCode
import Derived.RegionTactic
import Derived.Laws.Rows
namespace Go.Proofs.Ytbcgoboeeigcgaa
open Go.RowKit
set_option linter.unusedVariables false

/-- Turned rules; noughts for what is no rules. -/
def tu0 (r : Nat → Int) (k : Nat) : Int := r (([0, 3, 6, 1, 4, 7, 2, 5, 8] : List Nat)[k]?.getD 0)
def tuK (r : Nat → Int) (n k : Nat) : Int := if k < n then tu0 r k else 0
theorem tuK_step (r : Nat → Int) (a b : Nat) (ha : a < 3) (hb : b < 3) : ∀ k, k < 9 → (if k = a * 3 + b then r (b * 3 + a) else tuK r (3 * a + b) k) = tuK r (3 * a + (b + 1)) k := by
  intro k hk
  unfold tuK
  by_cases h : k = a * 3 + b
  · subst h
    rw [if_pos rfl, if_pos (by omega)]
    rcases (by omega : a = 0 ∨ a = 1 ∨ a = 2) with rfl | rfl | rfl <;> rcases (by omega : b = 0 ∨ b = 1 ∨ b = 2) with rfl | rfl | rfl <;> rfl
  · rw [if_neg h]
    by_cases h2 : k < 3 * a + b
    · rw [if_pos h2, if_pos (by omega)]
    · rw [if_neg h2, if_neg (by omega)]
theorem Box.get9 {w : World} {b t k : Nat} {r : Nat → Int} (h : Box w b t (z9 r)) (hk : k < 9) : w.cell? ⟨b, k, none⟩ = some (.int .i64 (r k)) := by
  rw [h.cell k]
  match k, hk with
  | 0, _ => rfl
  | 1, _ => rfl
  | 2, _ => rfl
  | 3, _ => rfl
  | 4, _ => rfl
  | 5, _ => rfl
  | 6, _ => rfl
  | 7, _ => rfl
  | 8, _ => rfl
def tuR (r : Nat → Int) : Nat → Int := if ruB r = true then tu0 r else fun _ => 0
theorem results_row_tmp {P : Program} {fn : Func} {p q : Tmp} {ty : TypeId} (h : fn.results = #[.cell p ty, .tmp q]) (tmps : Array Value) (w : World) (g : Nat) (t : TypeId) (cs : Array Value) (fr : Nat × Nat) (d : TypeDesc)
    (hp : tmps.getD p undef = .pointer (some ⟨g, 0, none⟩)) (hg : w.heap[g]? = some (.cells cs t fr))
    (hu : P.underlying ty = some d) (hd : (match d with | .struct _ | .array _ _ => true | _ => false) = true) (hi : (P.info? ty).map (·.size) = some cs.size) :
    (results fn tmps).run P w = .ok (.tuple #[.agg cs, tmps.getD q undef]) w := by
  have hp' : tmps[p]?.getD undef = .pointer (some ⟨g, 0, none⟩) := by simpa using hp
  simp [results, h, hp', asAddr, run_loadVar_row w g t ty cs fr d hg hu hd hi]
theorem ret_two' {u v : Value} {a b : Int} (h : u = v) (h2 : b = a) : Ending.returned (.tuple #[u, .int .i64 a]) = .returned (.tuple #[v, .int .i64 b]) := by rw [h, h2]
theorem z9_congr {f g : Nat → Int} (h : ∀ k, k < 9 → f k = g k) : z9 f = z9 g := by
  unfold z9
  rw [h 0 (by omega), h 1 (by omega), h 2 (by omega), h 3 (by omega), h 4 (by omega), h 5 (by omega), h 6 (by omega), h 7 (by omega), h 8 (by omega)]

/-- The rules with the directions of turned rules. -/
theorem turn_rP {r : Nat → Int} (h : ruB r = true) : ∀ k, k < 9 → rP (fun i j => alR r j i) ppAll k = tuR r k := by
  intro k hk
  have hd := ruB_iff r
  rw [h, decide_eq_true_iff] at hd
  unfold l9 at hd
  simp only [List.cons.injEq, and_true, rP_0, rP_1, rP_2, rP_3, rP_4, rP_5, rP_6, rP_7, rP_8] at hd
  obtain ⟨h0, h1, h2, h3, h4, h5, h6, h7, h8⟩ := hd
  unfold tuR
  rw [if_pos h]
  match k, hk with
  | 0, _ => exact (rP_0 _).trans h0.symm
  | 1, _ => exact (rP_1 _).trans h3.symm
  | 2, _ => exact (rP_2 _).trans h6.symm
  | 3, _ => exact (rP_3 _).trans h1.symm
  | 4, _ => exact (rP_4 _).trans h4.symm
  | 5, _ => exact (rP_5 _).trans h7.symm
  | 6, _ => exact (rP_6 _).trans h2.symm
  | 7, _ => exact (rP_7 _).trans h5.symm
  | 8, _ => exact (rP_8 _).trans h8.symm

end Go.Proofs.Ytbcgoboeeigcgaa
