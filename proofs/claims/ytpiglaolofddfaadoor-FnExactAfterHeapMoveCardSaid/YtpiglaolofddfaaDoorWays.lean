/- Plain numbers of chapter 2: goals, distances to a peg, the greatest disc that differs, both numbers. No program. -/
import Derived.Test.YtpiglaolofddfaaDoorNum
namespace Go.Proofs.YtpiglaolofddfaaDoor
open Go.RowKit
set_option linter.unusedVariables false

/-- The peg to which the next lesser disc has to go, behind all discs of the list from the last one on. -/
def aft : List Int → Int → Int
  | [], a => a
  | x :: r, a => if x = aft r a then aft r a else 3 - aft r a - x
/-- The goals of the discs. -/
def goalsL : List Int → Int → List Int
  | [], _ => []
  | _ :: r, a => aft r a :: goalsL r a
theorem goalsL_len (L : List Int) (a : Int) : (goalsL L a).length = L.length := by
  induction L with
  | nil => rfl
  | cons x r ih => simp [goalsL, ih]
theorem goalsL_at (L : List Int) (a : Int) : ∀ d, d < L.length → (goalsL L a)[d]?.getD 0 = aft (L.drop (d + 1)) a := by
  induction L with
  | nil => intro d hd; simp at hd
  | cons x r ih =>
    intro d hd
    cases d with
    | zero => simp [goalsL]
    | succ d => simpa [goalsL] using ih d (by simpa using hd)
theorem aft_step (L : List Int) (a : Int) {d : Nat} (h : d < L.length) : aft (L.drop d) a = if L[d]?.getD 0 = aft (L.drop (d + 1)) a then aft (L.drop (d + 1)) a else 3 - aft (L.drop (d + 1)) a - L[d]?.getD 0 := by
  rw [List.drop_eq_getElem_cons h, List.getElem?_eq_getElem h]
  rfl
def pegsOk (L : List Int) : Prop := ∀ x ∈ L, 0 ≤ x ∧ x ≤ 2
theorem pegsOk_at {L : List Int} (h : pegsOk L) {d : Nat} (hd : d < L.length) : 0 ≤ L[d]?.getD 0 ∧ L[d]?.getD 0 ≤ 2 := by
  rw [List.getElem?_eq_getElem hd]
  exact h _ (List.getElem_mem hd)
theorem pegsOk_take {L : List Int} (h : pegsOk L) (d : Nat) : pegsOk (L.take d) := fun x hx => h x (List.mem_of_mem_take hx)
theorem aft_bd (L : List Int) (a : Int) (h : pegsOk L) (ha : 0 ≤ a ∧ a ≤ 2) : 0 ≤ aft L a ∧ aft L a ≤ 2 := by
  induction L with
  | nil => exact ha
  | cons x r ih =>
    have ih := ih (fun y hy => h y (List.mem_cons_of_mem _ hy))
    have hx := h x (by simp)
    unfold aft
    split <;> omega
theorem pegsOk_drop {L : List Int} (h : pegsOk L) (d : Nat) : pegsOk (L.drop d) := fun x hx => h x (List.mem_of_mem_drop hx)
theorem goalsL_bd (L : List Int) (a : Int) (h : pegsOk L) (ha : 0 ≤ a ∧ a ≤ 2) {d : Nat} (hd : d < L.length) : 0 ≤ (goalsL L a)[d]?.getD 0 ∧ (goalsL L a)[d]?.getD 0 ≤ 2 := by
  rw [goalsL_at L a d hd]
  exact aft_bd _ _ (pegsOk_drop h _) ha

/-- The row while it is filled from its end on: noughts below m. -/
def downto (G : List Int) (m j : Nat) : Value := if j < m then .int .i64 0 else .int .i64 (G.getD j 0)
theorem downto_step (G : List Int) (k : Nat) : ∀ j, (if j = k then Value.int .i64 (G[k]?.getD 0) else downto G (k + 1) j) = downto G k j := by
  intro j
  unfold downto
  by_cases h : j = k
  · subst h; simp
  · rw [if_neg h]
    by_cases h2 : j < k
    · rw [if_pos (by omega), if_pos h2]
    · rw [if_neg (by omega), if_neg h2]

/-- The sum of 2^d over the first k places at which the lists differ. -/
def pow2 (k : Nat) : Int := ((2 ^ k : Nat) : Int)
theorem pow2_zero : pow2 0 = 1 := rfl
theorem pow2_succ (k : Nat) : pow2 (k + 1) = 2 * pow2 k := by unfold pow2; rw [Nat.pow_succ]; omega
theorem pow2_bd {k : Nat} (h : k ≤ 8) : 1 ≤ pow2 k ∧ pow2 k ≤ 256 := by
  have : k = 0 ∨ k = 1 ∨ k = 2 ∨ k = 3 ∨ k = 4 ∨ k = 5 ∨ k = 6 ∨ k = 7 ∨ k = 8 := by omega
  rcases this with rfl | rfl | rfl | rfl | rfl | rfl | rfl | rfl | rfl <;> decide
def distTo (L G : List Int) : Nat → Int
  | 0 => 0
  | k + 1 => distTo L G k + if L[k]?.getD 0 = G[k]?.getD 0 then 0 else pow2 k
theorem distTo_bd (L G : List Int) : ∀ k, k ≤ 8 → 0 ≤ distTo L G k ∧ distTo L G k + 1 ≤ pow2 k
  | 0, _ => by simp [distTo, pow2_zero]
  | k + 1, h => by
    have ih := distTo_bd L G k (by omega)
    have hp := pow2_succ k
    have hb := pow2_bd (k := k) (by omega)
    unfold distTo
    split <;> omega
def distP (L : List Int) (a : Int) : Int := distTo L (goalsL L a) L.length
theorem distP_bd (L : List Int) (a : Int) (h : L.length ≤ 8) : 0 ≤ distP L a ∧ distP L a ≤ 255 := by
  have h1 := distTo_bd L (goalsL L a) L.length h
  have h2 := pow2_bd h
  unfold distP
  omega

/-- The greatest one of the first k places at which the lists differ, and -1 if there is none. -/
def grt (L M : List Int) : Nat → Int
  | 0 => -1
  | k + 1 => if L[k]?.getD 0 = M[k]?.getD 0 then grt L M k else k
theorem grt_bd (L M : List Int) : ∀ k, -1 ≤ grt L M k ∧ grt L M k < k
  | 0 => by simp [grt]
  | k + 1 => by
    have := grt_bd L M k
    unfold grt
    split <;> omega
theorem grt_ne (L M : List Int) : ∀ k (d : Nat), grt L M k = d → L[d]?.getD 0 ≠ M[d]?.getD 0
  | 0, d, h => by unfold grt at h; omega
  | k + 1, d, h => by
    unfold grt at h
    split at h
    · exact grt_ne L M k d h
    · next hne =>
      have : k = d := by omega
      subst this
      exact hne
theorem grt_eq (L M : List Int) : ∀ k, grt L M k = -1 → ∀ d, d < k → L[d]?.getD 0 = M[d]?.getD 0
  | 0, _, d, hd => absurd hd (by omega)
  | k + 1, h, d, hd => by
    unfold grt at h
    split at h
    · next he =>
      by_cases hk : d = k
      · subst hk; exact he
      · exact grt_eq L M k h d (by omega)
    · omega

/-- Both numbers at the greatest disc d that differs. -/
def oneN (L M : List Int) (d : Nat) : Int :=
  distP (L.take d) (3 - L[d]?.getD 0 - M[d]?.getD 0) + distP (M.take d) (3 - L[d]?.getD 0 - M[d]?.getD 0) + 1
def twoN (L M : List Int) (d : Nat) : Int :=
  distP (L.take d) (M[d]?.getD 0) + distP (M.take d) (L[d]?.getD 0) + pow2 d + 1
theorem oneN_bd (L M : List Int) {d : Nat} (h : d ≤ 8) : 0 ≤ oneN L M d ∧ oneN L M d ≤ 1000 := by
  have h1 := distP_bd (L.take d) (3 - L[d]?.getD 0 - M[d]?.getD 0) (by simp; omega)
  have h2 := distP_bd (M.take d) (3 - L[d]?.getD 0 - M[d]?.getD 0) (by simp; omega)
  unfold oneN
  omega
theorem twoN_bd (L M : List Int) {d : Nat} (h : d ≤ 8) : 0 ≤ twoN L M d ∧ twoN L M d ≤ 1000 := by
  have h1 := distP_bd (L.take d) (M[d]?.getD 0) (by simp; omega)
  have h2 := distP_bd (M.take d) (L[d]?.getD 0) (by simp; omega)
  have h3 := pow2_bd h
  unfold twoN
  omega

/-- The code of one state and of two states of three pegs. -/
def code1 (p : Int) (L : List Int) : Int := if stateB p L = true then (if p = 3 then 0 else 2) else 1
def code2 (p : Int) (L : List Int) (q : Int) (M : List Int) : Int :=
  if stateB p L = true ∧ stateB q M = true then (if p = 3 ∧ q = 3 ∧ L.length = M.length then 0 else 2) else 1
def codeW (p : Int) (L : List Int) (a : Int) : Int := if code1 p L = 0 then (if inB a 0 2 = true then 0 else 2) else code1 p L
theorem code1_zero {p : Int} {L : List Int} (h : code1 p L = 0) : stateB p L = true ∧ p = 3 := by
  unfold code1 at h
  split at h
  · next h1 =>
    split at h
    · next h2 => exact ⟨h1, h2⟩
    · omega
  · omega
theorem code2_zero {p q : Int} {L M : List Int} (h : code2 p L q M = 0) : stateB p L = true ∧ stateB q M = true ∧ p = 3 ∧ q = 3 ∧ L.length = M.length := by
  unfold code2 at h
  split at h
  · next h1 =>
    split at h
    · next h2 => exact ⟨h1.1, h1.2, h2⟩
    · omega
  · omega
theorem codeW_zero {p a : Int} {L : List Int} (h : codeW p L a = 0) : stateB p L = true ∧ p = 3 ∧ 0 ≤ a ∧ a ≤ 2 := by
  unfold codeW at h
  split at h
  · next h1 =>
    have := code1_zero h1
    split at h
    · next h2 => exact ⟨this.1, this.2, inB_of h2⟩
    · omega
  · next h1 => exact absurd h h1
theorem code1_bd (p : Int) (L : List Int) : 0 ≤ code1 p L ∧ code1 p L ≤ 2 := by unfold code1; split <;> (try split) <;> omega
theorem codeW_bd (p : Int) (L : List Int) (a : Int) : 0 ≤ codeW p L a ∧ codeW p L a ≤ 2 := by
  have := code1_bd p L
  unfold codeW; split <;> (try split) <;> omega
theorem code2_bd (p q : Int) (L M : List Int) : 0 ≤ code2 p L q M ∧ code2 p L q M ≤ 2 := by unfold code2; split <;> (try split) <;> omega
theorem state_pegsOk {L : List Int} (h : stateB 3 L = true) : pegsOk L := fun x hx => by have := stateB_mem h x hx; omega

/-- What both numbers of two states are, and the code. -/
def nbE (p : Int) (L : List Int) (q : Int) (M : List Int) : Int := if code2 p L q M = 0 then (if grt L M L.length = -1 then 5 else 0) else code2 p L q M
def nbOne (p : Int) (L : List Int) (q : Int) (M : List Int) : Int := if nbE p L q M = 0 then oneN L M (grt L M L.length).toNat else 0
def nbTwo (p : Int) (L : List Int) (q : Int) (M : List Int) : Int := if nbE p L q M = 0 then twoN L M (grt L M L.length).toNat else 0

end Go.Proofs.YtpiglaolofddfaaDoor
