/- Contracts: ranks of words of rings, by the specification's model and by the program. -/
import Derived.Test.YtfdjlgpdbgmdkacRings
namespace Go.Proofs.Ytfdjlgpdbgmdkac
open Go.RowKit
set_option linter.unusedVariables false

def rbL : List Int → Int
  | [] => 0
  | x :: t => (rbL t + x) % 2
def rkL : List Int → Int
  | [] => 0
  | x :: t => 2 * rkL t + (rbL t + x) % 2
theorem bit_bd {a b : Int} (ha : 0 ≤ a ∧ a ≤ 1) (hb : 0 ≤ b ∧ b ≤ 1) : 0 ≤ (a + b) % 2 ∧ (a + b) % 2 ≤ 1 := by
  omega
theorem rk_bd : ∀ L : List Int, (∀ x ∈ L, 0 ≤ x ∧ x ≤ 1) → (0 ≤ rbL L ∧ rbL L ≤ 1) ∧ 0 ≤ rkL L ∧ rkL L + 1 ≤ 2 ^ L.length
  | [], _ => by simp [rbL, rkL]
  | x :: t, h => by
    obtain ⟨h1, h2, h3⟩ := rk_bd t (fun y hy => h y (List.mem_cons_of_mem _ hy))
    have hx := h x List.mem_cons_self
    have hb := bit_bd h1 hx
    refine ⟨hb, ?_, ?_⟩
    · unfold rkL; omega
    · unfold rkL; rw [List.length_cons, Int.pow_succ]; omega
theorem rg_mem {L : List Int} (h : rgB L = true) : ∀ x ∈ L, 0 ≤ x ∧ x ≤ 1 := by
  unfold rgB at h
  rw [Bool.and_eq_true, List.all_eq_true] at h
  exact fun x hx => inB_of (h.1 x hx)
theorem pow16 {n : Nat} (h : n ≤ 16) : (2 : Int) ^ n ≤ 65536 := by
  have h0 : (2 : Nat) ^ n ≤ 65536 := Nat.le_trans (Nat.pow_le_pow_right (by omega) h) (by decide)
  have h2 : ((2 ^ n : Nat) : Int) ≤ 65536 := by omega
  rwa [Int.natCast_pow] at h2
theorem rk_drop_bd {L : List Int} (h : rgB L = true) (j : Nat) : (0 ≤ rbL (L.drop j) ∧ rbL (L.drop j) ≤ 1) ∧ 0 ≤ rkL (L.drop j) ∧ rkL (L.drop j) ≤ 65535 := by
  obtain ⟨h1, h2, h3⟩ := rk_bd (L.drop j) (fun x hx => rg_mem h x (List.mem_of_mem_drop hx))
  have := pow16 (n := (L.drop j).length) (by have := rgB_len h; simp; omega)
  exact ⟨h1, h2, by omega⟩
theorem rk_drop {L : List Int} {j : Nat} (h : j < L.length) : rbL (L.drop j) = (rbL (L.drop (j + 1)) + L[j]?.getD 0) % 2 ∧ rkL (L.drop j) = 2 * rkL (L.drop (j + 1)) + (rbL (L.drop (j + 1)) + L[j]?.getD 0) % 2 := by
  rw [List.drop_eq_getElem_cons h, List.getElem?_eq_getElem h]
  exact ⟨rfl, rfl⟩
theorem rk_end {L : List Int} {n : Nat} (h : L.length = n) : rbL (L.drop n) = 0 ∧ rkL (L.drop n) = 0 := by
  rw [List.drop_eq_nil_of_le (by omega)]
  exact ⟨rfl, rfl⟩

/-- The boxes of the rest and of the rank. -/
def RBox (w : World) (a b : Nat) (r k : Int) : Prop := Box w a 2 #[.int .i64 r] ∧ Box w b 2 #[.int .i64 k] ∧ a ≠ b
theorem RBox.below {w w' : World} {a b : Nat} {r k : Int} (h : RBox w a b r k) (hb : Below w.heap.size w w') : RBox w' a b r k := ⟨h.1.below hb h.1.lt, h.2.1.below hb h.2.1.lt, h.2.2⟩

def rgV (L : List Int) : Int := if rgB L = true then rkL L else 0
def rgE (L : List Int) : Int := if rgB L = true then 0 else 1
theorem rg_yes {L : List Int} (h : rgB L = true) : rgV L = rkL L ∧ rgE L = 0 := by unfold rgV rgE; rw [if_pos h, if_pos h]; exact ⟨rfl, rfl⟩
theorem rg_no {L : List Int} (h : rgB L = false) : rgV L = 0 ∧ rgE L = 1 := by unfold rgV rgE; rw [h]; exact ⟨rfl, rfl⟩

theorem rk_bd0 {L : List Int} (h : rgB L = true) : 0 ≤ rkL L ∧ rkL L ≤ 65535 := by
  have := (rk_drop_bd h 0).2
  simpa using this

end Go.Proofs.Ytfdjlgpdbgmdkac
