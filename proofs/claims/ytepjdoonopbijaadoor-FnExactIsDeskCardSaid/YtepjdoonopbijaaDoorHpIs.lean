/- Contracts: whether something is a heap. -/
import Derived.Test.YtepjdoonopbijaaDoorHpSpec
import Derived.Test.YtepjdoonopbijaaDoorHpO
namespace Go.Proofs.YtepjdoonopbijaaDoor
open Go.RowKit
set_option linter.unusedVariables false

theorem implIsHeap_h (A : Option Addr) (n c : Nat) (rs : List Rw) (ea : Addr) (w : World) (hL : rs.length = n) (hn : n ≤ 1048576) (hb : totN rs ≤ 1048576) (hI : IntsSS w A rs) (hS : Sent w ea) :
    Calls Tryd.prog 17 #[.agg #[.slice A n c]] w fun e w' => e = .returned (.bool (heapB (LLof rs))) ∧ Below w.heap.size w w' := by
  have hb0 : Below w.heap.size w (w.alloc (.cells #[.slice A n c] 33)) := (Below.refl _ _).alloc (Nat.le_refl _) _
  have HL := Lib.hid hL
  have HI := Lib.hid (hI.below hb0)
  have HB0 := Lib.hid hb0
  have S0 := Lib.hid (hS.below hb0)
  have HT := Lib.hid hb
  clear hb0 hI hL hb hS
  go_enter Tryd.func17, Tryd.ntmps17
  go_wp2_with fail
  refine (heapDoor_calls A n c rs ea _ HL.out hn HT.out HI.out S0.out).mono ?_
  rintro e w1 ⟨rfl, hb1⟩
  have HB1 := Lib.hid (HB0.out.trans (hb1.mono HB0.out.size))
  have HD : Hid ((doorE (LLof rs) == 0) = heapB (LLof rs)) := by unfold Hid doorE; cases heapB (LLof rs) <;> rfl
  clear hb1
  generalize doorZ (LLof rs) = Z
  simp only [zA]
  generalize doorE (LLof rs) = E at *
  go_wp2
  go_ret
  exact ⟨ret_bool HD.out, HB1.out.alloc (HB1.out.size) _⟩

end Go.Proofs.YtepjdoonopbijaaDoor
