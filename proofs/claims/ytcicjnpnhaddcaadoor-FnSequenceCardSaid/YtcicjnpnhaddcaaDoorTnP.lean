/- Towers moved by turns: the pure side. -/
import Derived.Test.YtcicjnpnhaddcaaDoorStAt
import Derived.Test.YtcicjnpnhaddcaaDoorMovesL
namespace Go.Proofs.YtcicjnpnhaddcaaDoor
open Go.RowKit
open Go.RowKit (wrap64)
set_option linter.unusedVariables false

/-- The first legal move of another disc than 0, the move at a turn, and which one of the legal moves it is. -/
def otM (L : List Int) : Mv := ((movesL 3 L).find? (fun m => m.1 != 0)).getD (0, 0, 0)
def tnM (L : List Int) (i : Nat) : Mv := if i % 2 = 0 then otM L else (0, L[0]?.getD 0, (L[0]?.getD 0 + 1) % 3)
def tnP (i : Nat) (m : Mv) : Bool := (i % 2 == 1 && (m.1 == 0 && m.2.2 == (m.2.1 + 1) % 3)) || (i % 2 == 0 && decide (0 < m.1))
def tnL (n : Nat) : Nat → List Mv
  | 0 => []
  | k + 1 => tnL n k ++ [tnM (atL k n) (k + 1)]
theorem tnL_len (n : Nat) : ∀ k, (tnL n k).length = k
  | 0 => rfl
  | k + 1 => by simp [tnL, tnL_len n k]
def okTn (n t : Nat) : Bool := decide (2 ^ n ≤ t + 1) || (let L := atL t n; let m := tnM L (t + 1); stateB 3 L && decide ((movesL 3 L).find? (tnP (t + 1)) = some m) && decide (0 ≤ m.1 ∧ m.1 < n) && decide (0 ≤ m.2.1 ∧ m.2.1 ≤ 2) && decide (0 ≤ m.2.2 ∧ m.2.2 ≤ 2) && decide (L.set m.1.toNat m.2.2 = atL (t + 1) n) && (movesL 3 L).all (fun x => decide (0 ≤ x.1 ∧ x.1 ≤ 8 ∧ 0 ≤ x.2.1 ∧ x.2.1 ≤ 2 ∧ 0 ≤ x.2.2 ∧ x.2.2 ≤ 2)))
theorem okTn_all : ∀ n : Fin 9, ∀ t : Fin 256, okTn n.val t.val = true := by decide +kernel
theorem tn_at {n t : Nat} (hn : n ≤ 8) (ht : t + 1 < 2 ^ n) : stateB 3 (atL t n) = true ∧ (movesL 3 (atL t n)).find? (tnP (t + 1)) = some (tnM (atL t n) (t + 1)) ∧ (0 ≤ (tnM (atL t n) (t + 1)).1 ∧ (tnM (atL t n) (t + 1)).1 < n) ∧ (0 ≤ (tnM (atL t n) (t + 1)).2.1 ∧ (tnM (atL t n) (t + 1)).2.1 ≤ 2) ∧ (0 ≤ (tnM (atL t n) (t + 1)).2.2 ∧ (tnM (atL t n) (t + 1)).2.2 ≤ 2) ∧ (atL t n).set (tnM (atL t n) (t + 1)).1.toNat (tnM (atL t n) (t + 1)).2.2 = atL (t + 1) n ∧ ∀ x ∈ movesL 3 (atL t n), 0 ≤ x.1 ∧ x.1 ≤ 8 ∧ 0 ≤ x.2.1 ∧ x.2.1 ≤ 2 ∧ 0 ≤ x.2.2 ∧ x.2.2 ≤ 2 := by
  have h256 : 2 ^ n ≤ 256 := (pow2n8' hn).2
  have h := okTn_all ⟨n, by omega⟩ ⟨t, by omega⟩
  unfold okTn at h
  simp only [Bool.or_eq_true, Bool.and_eq_true, decide_eq_true_eq] at h
  rcases h with h | h
  · omega
  · exact ⟨h.1.1.1.1.1.1, h.1.1.1.1.1.2, h.1.1.1.1.2, h.1.1.1.2, h.1.1.2, h.1.2, fun x hx => of_decide_eq_true (List.all_eq_true.1 h.2 x hx)⟩
theorem atL_zero : ∀ n : Fin 9, atL 0 n.val = List.replicate n.val 0 := by decide +kernel
def mtB (n : Int) : Bool := inB n 0 8
def mtnL (n : Int) : List Mv := if mtB n = true then tnL n.toNat (2 ^ n.toNat - 1) else []
def mtnE (n : Int) : Int := if mtB n = true then 0 else 2
theorem mtn_yes {n : Nat} (h : inB (n : Int) 0 8 = true) : mtnL n = tnL n (2 ^ n - 1) ∧ mtnE n = 0 := by unfold mtnL mtnE mtB; rw [if_pos h, if_pos h]; exact ⟨by rw [Int.toNat_natCast], rfl⟩
theorem mtn_no {n : Int} (h : inB n 0 8 = false) : mtnL n = [] ∧ mtnE n = 2 := by unfold mtnL mtnE mtB; rw [h]; exact ⟨rfl, rfl⟩
theorem mtnL_len (n : Int) : (mtnL n).length ≤ 1048576 := by
  cases h : inB n 0 8 with
  | false => rw [(mtn_no h).1]; simp
  | true =>
    have h0 := inB_of h
    obtain ⟨m, rfl⟩ := Int.eq_ofNat_of_zero_le h0.1
    rw [(mtn_yes h).1, tnL_len]
    have := (pow2n8' (n := m) (by omega)).2
    omega

end Go.Proofs.YtcicjnpnhaddcaaDoor
