/- Contracts: the plain numbers of chapter 9. -/
import Derived.Test.YtcicjnpnhaddcaaDoorPop
import Derived.Test.YtcicjnpnhaddcaaDoorPow2
namespace Go.Proofs.YtcicjnpnhaddcaaDoor
open Go.RowKit
open Go.RowKit (wrap64)
set_option linter.unusedVariables false

theorem pop_le_of {k m : Nat} (h : k < 2 ^ m) (hm : m ≤ 32) : pop k ≤ m := by unfold pop; rw [popF_fuel m k h 32 hm]; exact popF_le _ _
theorem pow2n8' {n : Nat} (h : n ≤ 8) : 1 ≤ 2 ^ n ∧ 2 ^ n ≤ 256 :=
  ⟨Nat.one_le_two_pow, Nat.le_trans (Nat.pow_le_pow_right (by omega) h) (by decide)⟩

theorem isUpTo_calls (a hi : Int) (w : World) :
    Calls Tryd.prog 27 #[.int .i64 a, .int .i64 hi] w fun e w' => e = .returned (.bool (inB a 0 hi)) ∧ w = w' := by
  by_cases h1 : 0 ≤ a
  · by_cases h2 : a ≤ hi
    · go_enter Tryd.func27, Tryd.ntmps27
      go_wp2
      go_ret
      exact ⟨ret_in (by simp; omega), rfl⟩
    · go_enter Tryd.func27, Tryd.ntmps27
      go_wp2
      go_ret
      exact ⟨ret_in (by simp; omega), rfl⟩
  · go_enter Tryd.func27, Tryd.ntmps27
    go_wp2
    go_ret
    exact ⟨ret_in (by simp; omega), rfl⟩

def dgV (d : Int) : Int := if inB d 0 1000000000 = true then (pop d.toNat : Int) else 0
def dgE (d : Int) : Int := if inB d 0 1000000000 = true then 0 else 2
theorem dg_yes {d : Nat} (h : inB (d : Int) 0 1000000000 = true) : dgV d = (pop d : Int) ∧ dgE d = 0 := by unfold dgV dgE; rw [if_pos h, if_pos h, Int.toNat_natCast]; exact ⟨rfl, rfl⟩
theorem dg_no {d : Int} (h : inB d 0 1000000000 = false) : dgV d = 0 ∧ dgE d = 2 := by unfold dgV dgE; rw [h]; exact ⟨rfl, rfl⟩
def twoV (b : Bool) (v : Int) : Int := if b = true then v else 0
def twoE (b : Bool) : Int := if b = true then 0 else 2
theorem two_yes {b : Bool} {v : Int} (h : b = true) : twoV b v = v ∧ twoE b = 0 := by unfold twoV twoE; rw [h]; exact ⟨rfl, rfl⟩
theorem two_no {b : Bool} {v : Int} (h : b = false) : twoV b v = 0 ∧ twoE b = 2 := by unfold twoV twoE; rw [h]; exact ⟨rfl, rfl⟩
def saB (n d : Int) : Bool := inB n 0 8 && inB d 0 (((2 ^ n.toNat : Nat) : Int) - 1)
def saV (n d : Int) : Int := twoV (saB n d) ((2 ^ pop d.toNat : Nat) : Int)
def saE (n d : Int) : Int := twoE (saB n d)
def shB (n d : Int) : Bool := inB n 0 8 && inB d 0 (n - 1)
def shV (n d : Int) : Int := twoV (shB n d) ((2 ^ (n - 1 - d).toNat : Nat) : Int)
def shE (n d : Int) : Int := twoE (shB n d)








end Go.Proofs.YtcicjnpnhaddcaaDoor
