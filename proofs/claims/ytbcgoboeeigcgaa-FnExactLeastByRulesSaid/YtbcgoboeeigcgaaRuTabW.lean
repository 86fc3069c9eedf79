/- Words for the specification's tables. -/
import Derived.Test.YtbcgoboeeigcgaaRuBoth
import Derived.Test.YtbcgoboeeigcgaaOwnG
namespace Go.Proofs.Ytbcgoboeeigcgaa
open Go.RowKit
set_option linter.unusedVariables false

theorem l07Both_calls (r c : Nat → Int) (A : Option Addr) (n' : Nat) (i j : Nat) (hi : i < 3) (hj : j < 3) (hne : i ≠ j) (w : World) (hT : TabI w A c) (hc : ∀ k, 0 ≤ c k ∧ c k ≤ 1000000) :
    Calls Try.prog 39 #[.agg (z9 r), .slice A 3 n', .int .i64 i, .int .i64 j] w fun e w' => e = .returned (.tuple #[.int .i64 (bOne (alR r) c i j), .int .i64 (bTwo (alR r) c i j)]) ∧ Below w.heap.size w w' := by
  match i, hi, j, hj, hne with
  | 0, _, 1, _, _ => exact l07Both_01 r c A n' w hT hc
  | 0, _, 2, _, _ => exact l07Both_02 r c A n' w hT hc
  | 1, _, 0, _, _ => exact l07Both_10 r c A n' w hT hc
  | 1, _, 2, _, _ => exact l07Both_12 r c A n' w hT hc
  | 2, _, 0, _, _ => exact l07Both_20 r c A n' w hT hc
  | 2, _, 1, _, _ => exact l07Both_21 r c A n' w hT hc
  | 0, _, 0, _, h => exact absurd rfl h
  | 1, _, 1, _, h => exact absurd rfl h
  | 2, _, 2, _, h => exact absurd rfl h

/-- Three cells. -/
def t3 (f : Nat → Int) : Array Value := #[.int .i64 (f 0), .int .i64 (f 1), .int .i64 (f 2)]
theorem t3_set (f : Nat → Int) {k : Nat} (hk : k < 3) (v : Int) : (t3 f).setIfInBounds k (.int .i64 v) = t3 (fun j => if j = k then v else f j) := by
  match k, hk with
  | 0, _ => rfl
  | 1, _ => rfl
  | 2, _ => rfl
theorem t3_at (f : Nat → Int) {k : Nat} (hk : k < 3) : (t3 f)[k]? = some (.int .i64 (f k)) := by
  match k, hk with
  | 0, _ => rfl
  | 1, _ => rfl
  | 2, _ => rfl
theorem Box.at3 {w : World} {b t k : Nat} {f : Nat → Int} (h : Box w b t (t3 f)) (hk : k < 3) : w.cell? ⟨b, k, none⟩ = some (.int .i64 (f k)) := by
  rw [h.cell, t3_at f hk]
theorem Box.set3 {w : World} {b t k : Nat} {f : Nat → Int} (h : Box w b t (t3 f)) (hk : k < 3) (v : Int) : Box (w.setCell ⟨b, k, none⟩ (.int .i64 v)) b t (t3 (fun j => if j = k then v else f j)) := by
  have := h.set k (.int .i64 v)
  rwa [t3_set _ hk] at this
theorem t3_congr {f g : Nat → Int} (h : ∀ k, k < 3 → f k = g k) : t3 f = t3 g := by
  unfold t3
  rw [h 0 (by omega), h 1 (by omega), h 2 (by omega)]
/-- A row of the table for one disc more, so far. -/
def rowF (a : Int → Int → Bool) (c : Nat → Int) (i m : Nat) (j : Nat) : Int := if j < m ∧ j ≠ i then mV a c i j else 0
theorem rowF_same (a : Int → Int → Bool) (c : Nat → Int) (i : Nat) : rowF a c i (i + 1) = rowF a c i i := by
  funext j
  unfold rowF
  by_cases h : j < i ∧ j ≠ i
  · rw [if_pos h, if_pos (by omega)]
  · rw [if_neg h, if_neg (by omega)]
theorem rowF_next (a : Int → Int → Bool) (c : Nat → Int) {i m : Nat} (h : m ≠ i) (k : Nat) : (if k = m then mV a c i m else rowF a c i m k) = rowF a c i (m + 1) k := by
  unfold rowF
  by_cases h1 : k = m
  · subst h1; rw [if_pos rfl, if_pos (by omega)]
  · rw [if_neg h1]
    by_cases h2 : k < m ∧ k ≠ i
    · rw [if_pos h2, if_pos (by omega)]
    · rw [if_neg h2, if_neg (by omega)]
theorem more_at (a : Int → Int → Bool) (c : Nat → Int) {i j : Nat} (hi : i < 3) (hj : j < 3) : moreT a c (i * 3 + j) = rowF a c i 3 j := by
  match i, hi, j, hj with
  | 0, _, 0, _ => rfl
  | 0, _, 1, _ => rfl
  | 0, _, 2, _ => rfl
  | 1, _, 0, _ => rfl
  | 1, _, 1, _ => rfl
  | 1, _, 2, _ => rfl
  | 2, _, 0, _ => rfl
  | 2, _, 1, _ => rfl
  | 2, _, 2, _ => rfl
/-- What the specification chooses of two numbers. -/
def selV (o t : Int) : Int := if o < 0 ∨ (0 ≤ t ∧ t < o) then t else o
theorem sel_eq {a : Int → Int → Bool} {c : Nat → Int} {i j : Int} (ha : a i j = true ∨ (a i (3 - i - j) && a (3 - i - j) j) = true) (hc : ∀ k, 0 ≤ c k ∧ c k ≤ 1000000) : selV (bOne a c i j) (bTwo a c i j) = mV a c i j := by
  have c1 := hc (ixP i (3 - i - j))
  have c2 := hc (ixP (3 - i - j) j)
  have c3 := hc (ixP i j)
  have c4 := hc (ixP j i)
  unfold selV bOne bTwo mV wOne wTwo
  by_cases h1 : a i j = true
  · by_cases h2 : (a i (3 - i - j) && a (3 - i - j) j) = true
    · simp only [if_pos h1, if_pos h2]; split <;> omega
    · simp only [if_pos h1, if_neg h2]; split <;> omega
  · by_cases h2 : (a i (3 - i - j) && a (3 - i - j) j) = true
    · simp only [if_neg h1, if_pos h2]; split <;> omega
    · exact absurd ha (by rintro (h | h) <;> contradiction)

/-- A table as the specification keeps it. -/
def TabB (w : World) (v : Value) (c : Nat → Int) : Prop :=
  ∃ g c8 cur, v = .slice (some ⟨g, 0, none⟩) 3 c8 ∧ Box w g 48 cur ∧ ∀ i, i < 3 → ∃ b, cur[i]? = some (.slice (some ⟨b, 0, none⟩) 3 3) ∧ Box w b 2 (t3 (fun j => c (i * 3 + j)))
theorem TabB.below {w w' : World} {v : Value} {c : Nat → Int} (h : TabB w v c) (hb : Below w.heap.size w w') : TabB w' v c := by
  obtain ⟨g, c8, cur, hv, hg, h⟩ := h
  refine ⟨g, c8, cur, hv, hg.below hb hg.lt, fun i hi => ?_⟩
  obtain ⟨b, h1, h2⟩ := h i hi
  exact ⟨b, h1, h2.below hb h2.lt⟩
theorem TabB.grown {w w1 : World} {o : Obj} {v : Value} {c : Nat → Int} {B n c' : Nat} {A : Option Addr} {xs : List Value} (h : TabB w v c) (hO : OwnG 24 1 B w A n c' xs) (hg : (w.alloc o).grownBy w1 (Value.slice A n c').ownBlock) : TabB w1 v c := by
  obtain ⟨g, c8, cur, hv, hb, h⟩ := h
  refine ⟨g, c8, cur, hv, hO.grown_box hg hb (by decide), fun i hi => ?_⟩
  obtain ⟨b, h1, h2⟩ := h i hi
  exact ⟨b, h1, hO.grown_box hg h2 (by decide)⟩
theorem TabB.tabI {w : World} {v : Value} {c : Nat → Int} (h : TabB w v c) : ∃ g c8, v = .slice (some ⟨g, 0, none⟩) 3 c8 ∧ TabI w (some ⟨g, 0, none⟩) c := by
  obtain ⟨g, c8, cur, hv, hb, h⟩ := h
  refine ⟨g, c8, hv, g, rfl, hb.lt, fun i hi => ?_⟩
  obtain ⟨b, h1, h2⟩ := h i hi
  exact ⟨b, h2.lt, (hb.cell i).trans h1, fun j hj => h2.at3 hj⟩
theorem ownG_one {w : World} {g e B : Nat} {v : Value} (hb : Box w g e #[v]) (hB : B ≤ g) : OwnG e 1 B w (some ⟨g, 0, none⟩) 1 1 [v] :=
  ⟨by simp, .inr ⟨g, 1, #[v], rfl, hB, hb, Nat.le_refl _, by unfold maxLen; omega, by simp, by simp⟩⟩
theorem stillC {P : Program} {f : FuncId} {args : Array Value} {w : World} {v : Value} (h : Calls P f args w fun e w' => e = .returned v ∧ w = w') : Calls P f args w fun e w' => e = .returned v ∧ w' = w := h.mono fun _ _ ⟨he, hm⟩ => ⟨he, hm.symm⟩
theorem Ints.drewS {w : World} {A : Option Addr} {L : List Int} (h : Ints w A L) (n : Nat) : Ints { w with drawn := n } A L := h

theorem tab_of_own {w : World} {A : Option Addr} {B c8 : Nat} {rows : List Value} {a : Int → Int → Bool} {c : Nat → Int} (h : OwnG 48 1 B w A 3 c8 rows) (hR : ∀ d, d < 3 → ∃ b, rows[d]? = some (.slice (some ⟨b, 0, none⟩) 3 3) ∧ Box w b 2 (t3 (rowF a c d 3))) : TabB w (.slice A 3 c8) (moreT a c) := by
  rcases h.2 with ⟨_, h0⟩ | ⟨g, cap, cur, hv, hB, hh, hn, hcap, hs, htk⟩
  · omega
  · injection hv with h1 h2 h3
    subst h1
    refine ⟨g, c8, cur, rfl, hh, fun i hi => ?_⟩
    obtain ⟨b, h4, h5⟩ := hR i hi
    refine ⟨b, ?_, ?_⟩
    · rw [← h4, ← htk, List.getElem?_take, if_pos (by omega), Array.getElem?_toList]
    · rwa [t3_congr (f := fun j => moreT a c (i * 3 + j)) (fun k hk => more_at a c hi hk)]
theorem Try.infoS1 : (Try.prog.info? 48).map (fun i => (i.zero, i.size, i.bytes)) = some (some (.slice none 0 0), 1, 24) := by kernel_rfl
theorem Try.infoS2 : (Try.prog.info? 24).map (fun i => (i.zero, i.size, i.bytes)) = some (some (.slice none 0 0), 1, 24) := by kernel_rfl

end Go.Proofs.Ytbcgoboeeigcgaa
