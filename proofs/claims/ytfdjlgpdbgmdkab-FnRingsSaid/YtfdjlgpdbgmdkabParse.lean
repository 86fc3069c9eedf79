/- Contracts: the state of a text. -/
import Derived.Test.YtfdjlgpdbgmdkabMark
import Derived.Test.YtfdjlgpdbgmdkabState1
import Derived.Deep.AppendLies
import Derived.Deep.RegionLaw
namespace Go.Proofs.Ytfdjlgpdbgmdkab
open Go.RowKit
set_option linter.unusedVariables false

/-- The number of the byte at a place, as a digit. -/
def dgt (s : ByteArray) (i : Nat) : Int := ((s.data.toList.getD i 0).toNat : Int) - 48
/-- The first k numbers from the end on. -/
def prsL (s : ByteArray) (k : Nat) : List Int := (List.range k).map (fun j => dgt s (s.size - 1 - j))
theorem prsL_len (s : ByteArray) (k : Nat) : (prsL s k).length = k := by simp [prsL]
theorem prsL_succ (s : ByteArray) (k : Nat) : prsL s (k + 1) = prsL s k ++ [dgt s (s.size - 1 - k)] := by simp [prsL, List.range_succ]

theorem dgt_at (s : ByteArray) {i : Nat} (h : i < s.size) : dgt s i = ((s[i]'h).toNat : Int) - 48 := by
  have h' : i < s.data.toList.length := by simpa using h
  unfold dgt
  rw [List.getD_eq_getElem?_getD, List.getElem?_eq_getElem h', Option.getD_some]
  rfl
/-- Whether the text has the form of a state's, and the byte 1 is a colon. -/
def formT (s : ByteArray) : Bool := decide (2 ≤ s.size ∧ s.size ≤ 10 ∧ dgt s 1 = 10)
def okT (s : ByteArray) : Bool := formT s && stateB (dgt s 0) (prsL s (s.size - 2))
def psP (s : ByteArray) : Int := if okT s = true then dgt s 0 else 0
def psL (s : ByteArray) : List Int := if okT s = true then prsL s (s.size - 2) else []
def psE (s : ByteArray) : Int := if okT s = true then 0 else 6
theorem ps_yes {s : ByteArray} (h : okT s = true) : psP s = dgt s 0 ∧ psL s = prsL s (s.size - 2) ∧ psE s = 0 := by unfold psP psL psE; simp [h]
theorem ps_no {s : ByteArray} (h : okT s = false) : psP s = 0 ∧ psL s = [] ∧ psE s = 6 := by unfold psP psL psE; simp [h]
theorem psL_len (s : ByteArray) : (psL s).length ≤ 1048576 := by
  unfold psL
  by_cases h : okT s = true
  · rw [if_pos h, prsL_len]
    unfold okT formT at h
    simp only [Bool.and_eq_true, decide_eq_true_iff] at h
    omega
  · rw [if_neg h]; simp
theorem okT_no {s : ByteArray} (h : formT s = false) : okT s = false := by unfold okT; rw [h]; rfl

/-- A state and a bool are the answer. -/
def RetSB (w : World) (P : Int) (n : Nat) (L : List Int) (b : Bool) (e : Ending) (w' : World) : Prop :=
  ∃ A c, e = .returned (.tuple #[.agg #[.int .i64 P, .slice A n c], .bool b]) ∧ Own w.heap.size w' A n c L ∧ Below w.heap.size w w'
theorem retSB_zero {w w' : World} {e : Ending} {b : Bool} (he : e = .returned (.tuple #[.agg #[.int .i64 0, .slice none 0 0], .bool b])) (hb : Below w.heap.size w w') : RetSB w 0 ([] : List Int).length [] b e w' :=
  ⟨none, 0, he, Own.nilS _ _, hb⟩
theorem retState_none {w w' : World} {e : Ending} {E : Int} (he : e = .returned (.tuple #[.agg #[.int .i64 0, .slice none 0 0], .int .i64 E])) (hb : Below w.heap.size w w') : RetState w 0 ([] : List Int).length [] E e w' :=
  ⟨none, 0, he, Own.nilS _ _, hb⟩

theorem digitValue_calls (b : Int) (w : World) (h0 : 0 ≤ b) (h1 : b < 256) :
    Calls Try.prog 37 #[.int .u8 b] w fun e w' => e = .returned (.int .i64 (b - 48)) ∧ w = w' := by
  go_enter Try.func37, Try.ntmps37
  go_wp2
  go_ret
  exact ⟨rfl, rfl⟩

end Go.Proofs.Ytfdjlgpdbgmdkab
