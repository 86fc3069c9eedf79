/- Contracts: the door, and what the program asks of a heap behind it. -/
import Derived.Test.YtpiglaolofddfaaDoorHpM
namespace Go.Proofs.YtpiglaolofddfaaDoor
open Go.RowKit
set_option linter.unusedVariables false

/-- The door: the piles and no error, or the code of what is no heap. -/
def doorZ (LL : List (List Int)) : Nat → Int := if heapB LL = true then pilesOf LL else fun _ => 0
def doorE (LL : List (List Int)) : Int := if heapB LL = true then 0 else 1
theorem door_yes {LL : List (List Int)} (h : heapB LL = true) : doorZ LL = pilesOf LL ∧ doorE LL = 0 := ⟨by unfold doorZ; rw [if_pos h], by unfold doorE; rw [if_pos h]⟩
theorem door_no {LL : List (List Int)} (h : heapB LL = false) : doorZ LL = (fun _ => 0) ∧ doorE LL = 1 := ⟨by unfold doorZ; rw [h]; rfl, by unfold doorE; rw [h]; rfl⟩

theorem box_set12 {w : World} {b b' t : Nat} {cs : Array Value} (h : Box w b t cs) (hb : b ≠ b') (Z : Nat → Int) : Box (set12 w b' Z) b t cs := ((((((((((((h.other hb _).other hb _).other hb _).other hb _).other hb _).other hb _).other hb _).other hb _).other hb _).other hb _).other hb _).other hb _)

set_option maxRecDepth 100000 in
set_option maxHeartbeats 4000000 in
theorem heapDoor_calls (A : Option Addr) (n c : Nat) (rs : List Rw) (ea : Addr) (w : World) (hL : rs.length = n) (hn : n ≤ 1048576) (hb : totN rs ≤ 1048576) (hI : IntsSS w A rs) (hS : Sent w ea) :
    Calls Tryd.prog 22 #[.agg #[.slice A n c]] w fun e w' => e = .returned (.tuple #[.agg (zA (doorZ (LLof rs))), .int .i64 (doorE (LLof rs))]) ∧ Below w.heap.size w w' := by
  have hmf : ∀ (fn : Fn) (first cap : Array Value) (w : World), (Instr.makeFunc fn first cap).run Tryd.prog w = .ok (.func fn first cap) w := fun _ _ _ _ => rfl
  obtain ⟨W, hW⟩ : ∃ W, W = ((w.alloc (.cells #[.slice A n c] 29)).alloc (.cells (zA (fun _ => 0)) 50)).alloc (.cells #[.int .i64 0] 2) := ⟨_, rfl⟩
  have hb0 : Below w.heap.size w W := by rw [hW]; exact (((Below.refl _ _).alloc (Nat.le_refl _) _).alloc (by simp) _).alloc (by simp; omega) _
  have HI := Lib.hid (hI.below hb0)
  have HB0 := Lib.hid hb0
  have S0 := Lib.hid (hS.below hb0)
  have P0 : Hid (Box W (w.heap.size + 1) 50 (zA (fun _ => 0))) := by
    have := (Box.new (w.alloc (.cells #[.slice A n c] 29)) 50 (zA (fun _ => 0))).alloc (.cells #[.int .i64 0] 2)
    rw [← hW, show (w.alloc (.cells #[.slice A n c] 29)).heap.size = w.heap.size + 1 by simp] at this
    exact this
  have C0 : Hid (Box W (w.heap.size + 1 + 1) 2 #[.int .i64 0]) := by
    have := Box.new ((w.alloc (.cells #[.slice A n c] 29)).alloc (.cells (zA (fun _ => 0)) 50)) 2 #[.int .i64 0]
    rw [← hW, show ((w.alloc (.cells #[.slice A n c] 29)).alloc (.cells (zA (fun _ => 0)) 50)).heap.size = w.heap.size + 1 + 1 by simp] at this
    exact this
  have HL := Lib.hid hL
  have HT := Lib.hid hb
  have HW := Lib.hid hW
  clear hb0 hI hS hL hb hW
  go_enter_defers Tryd.func22, Tryd.ntmps22
  go_wp2_with fail
  have hW := HW.out
  simp only [zA] at hW
  rw [← hW]
  clear hW HW
  refine (mustBeHeap_calls A n c rs ea _ HL.out hn HT.out HI.out S0.out).mono ?_
  rintro e w1 ⟨he, hb1⟩
  have P1 := Lib.hid (P0.out.below hb1 P0.out.lt)
  have C1 := Lib.hid (C0.out.below hb1 C0.out.lt)
  have HB1 := Lib.hid (HB0.out.trans (hb1.mono HB0.out.size))
  clear hb1 P0 C0 HB0 S0 HI
  rcases he with ⟨hh, rfl⟩ | ⟨hh, rfl⟩
  · obtain ⟨q1, q2⟩ := door_yes hh
    have Q := Lib.hid (And.intro q1 q2)
    clear q1 q2 hh
    obtain ⟨d0, d1, d2, d3, d4, d5, d6, d7, d8, d9, d10, d11⟩ := P1.out.z12
    have f1 := P1.out.frozen
    obtain ⟨c0, c1⟩ := C1.out.one
    generalize pilesOf (LLof rs) = Z at *
    simp only [zA]
    go_wp2
    obtain ⟨W3, hW3⟩ : ∃ W3, W3 = (set12 w1 (w.heap.size + 1) Z).setCell ⟨w.heap.size + 1 + 1, 0, none⟩ (.int .i64 0) := ⟨_, rfl⟩
    have P3 := (Box.set12 P1.out Z).other (a := ⟨w.heap.size + 1 + 1, 0, none⟩) (by simp) (.int .i64 0)
    have B3 : Below w.heap.size w ((set12 w1 (w.heap.size + 1) Z).setCell ⟨w.heap.size + 1 + 1, 0, none⟩ (.int .i64 0)) := (below_set12 HB1.out (show w.heap.size ≤ w.heap.size + 1 by omega) Z).setCell (by simp; omega) _
    have C3 : Box W3 (w.heap.size + 1 + 1) 2 #[.int .i64 0] := by
      rw [hW3]
      refine Box.set (cs := #[.int .i64 0]) ?_ 0 (.int .i64 0)
      exact box_set12 C1.out (by omega) Z
    rw [← hW3] at P3 B3
    unfold set12 at hW3
    rw [← hW3]
    clear hW3 d0 d1 d2 d3 d4 d5 d6 d7 d8 d9 d10 d11 f1 c0 c1 P1 C1 HB1
    obtain ⟨d0, d1, d2, d3, d4, d5, d6, d7, d8, d9, d10, d11⟩ := P3.z12
    obtain ⟨c0, c1⟩ := C3.one
    refine leaves_cons (f := 37) (args := #[.pointer (some ⟨w.heap.size + 1 + 1, 0, none⟩)]) (by simp) (by simp [go_sem]) ?_
    refine (door_idle ⟨w.heap.size + 1 + 1, 0, none⟩ _).mono ?_
    rintro e u' w'' ⟨rfl, rfl, rfl⟩
    simp [Leaves, settle, results, Tryd.results22, go_sem, c0, d0, d1, d2, d3, d4, d5, d6, d7, d8, d9, d10, d11]
    rw [Q.out.1, Q.out.2]
    exact ⟨⟨rfl, rfl⟩, B3⟩
  · obtain ⟨q1, q2⟩ := door_no hh
    have Q := Lib.hid (And.intro q1 q2)
    clear q1 q2 hh
    go_wp2
    obtain ⟨c0, c1⟩ := C1.out.one
    refine leaves_cons (f := 37) (args := #[.pointer (some ⟨w.heap.size + 1 + 1, 0, none⟩)]) (by simp) (by simp [go_sem]) ?_
    refine (door_caught ⟨w.heap.size + 1 + 1, 0, none⟩ 0 _ [] _ c0 c1).mono ?_
    rintro e u' w'' ⟨rfl, rfl, rfl⟩
    have P3 := P1.out.other (a := ⟨w.heap.size + 1 + 1, 0, none⟩) (by simp) (.int .i64 1)
    have B3 : Below w.heap.size w (w1.setCell ⟨w.heap.size + 1 + 1, 0, none⟩ (.int .i64 1)) := HB1.out.setCell (by simp; omega) _
    have C3 : Box _ (w.heap.size + 1 + 1) 2 #[.int .i64 1] := Box.set C1.out 0 (.int .i64 1)
    obtain ⟨c0, c1⟩ := C3.one
    generalize w1.setCell ⟨w.heap.size + 1 + 1, 0, none⟩ (.int .i64 1) = W3 at *
    obtain ⟨d0, d1, d2, d3, d4, d5, d6, d7, d8, d9, d10, d11⟩ := P3.z12
    simp [Leaves, settle, results, Tryd.results22, go_sem, c0, d0, d1, d2, d3, d4, d5, d6, d7, d8, d9, d10, d11]
    rw [Q.out.1, Q.out.2]
    exact ⟨⟨rfl, rfl⟩, B3⟩

end Go.Proofs.YtpiglaolofddfaaDoor
