/- Contracts: copies of states, and the state after a legal move. -/
import Derived.Test.YtfdjlgpdbgmdkacMark
import Derived.Test.YtfdjlgpdbgmdkacLegal
import Derived.Test.YtfdjlgpdbgmdkacNews
import Derived.Laws.CopyOwn
import Derived.Laws.AppendOwnNone
import Derived.Deep.RegionHeld3
import Derived.Deep.DeepCutAuto
namespace Go.Proofs.Ytfdjlgpdbgmdkac
open Go.RowKit
set_option linter.unusedVariables false

theorem Try.sizeI : (Try.prog.info? 2).map (·.size) = some 1 := by kernel_rfl

/-- A list of integers has room. -/
theorem own_below {B : Nat} {w w1 : World} {A : Option Addr} {n c : Nat} {L : List Int} (h : Own B w A n c L) (hg : w.grownBy w1 (Value.slice A n c).ownBlock) {B0 : Nat} (hB : B0 ≤ B) (hs : B0 ≤ w.heap.size) : Below B0 w w1 :=
  (Below.refl B0 w).grown hg hs (fun k hk => Nat.le_trans hB (own_bk h k hk))

set_option maxHeartbeats 400000 in
theorem l01Own_calls (A : Option Addr) (n c : Nat) (L : List Int) (w : World) (hL : L.length = n) (hn : n ≤ 1048576) (hA : A = none → c = 0) (hI : Ints w A L) :
    Calls Try.prog 56 #[.slice A n c] w fun e w' => ∃ A' c', e = .returned (.slice A' n c') ∧ Own w.heap.size w' A' n c' L ∧ Below w.heap.size w w' := by
  obtain ⟨i0, hi, hz0, hz1, hz2⟩ := info_parts Try.infoI
  have HL : Hid (L.length = n) := hL
  have he : Own w.heap.size (w.alloc (.cells #[] 2)) (some ⟨w.heap.size, 0, none⟩) 0 0 [] := Own.emptyAt (Box.new _ _ _) (Nat.le_refl _)
  have HB0 := Lib.hid ((Below.refl w.heap.size w).alloc (Nat.le_refl _) (.cells #[] 2))
  have HI := Lib.hid (hI.below HB0.out)
  rcases A with _ | ad
  · obtain rfl := hA rfl
    have hn0 : n = 0 := by
      rcases Nat.eq_zero_or_pos n with h | h
      · exact h
      · obtain ⟨_, h1, _⟩ := hI 0 (by omega)
        cases h1
    subst hn0
    obtain rfl : L = [] := List.eq_nil_of_length_eq_zero hL
    clear hL hI
    go_enter Try.func56, Try.ntmps56
    go_wp2_with (at_builtin; refine wpList_append_own_none rfl _ _ 37 rfl w.heap.size 2 i0 1 Try.underlying37 hi _ _ _ rfl he rfl ?_)
    go_ret
    exact ⟨_, _, rfl, he, HB0.out⟩
  · clear hL hI hA
    go_enter Try.func56, Try.ntmps56
    go_wp2_with (at_builtin; refine wpList_append_own _ rfl _ _ 37 rfl w.heap.size 2 i0 (.int .i64 0) 1 8 Try.underlying37 hi hz0 hz1 hz2 rfl (by decide) _ _ _ rfl he ad n c (L.map (Value.int .i64)) rfl (by simp [HL.out]) (HI.out.news) (ints_oneCell _ _) (by unfold maxLen; omega) (by omega) (by simp) ?_; intro v' w1 hown' hgrow _; obtain ⟨A', c', rfl⟩ := own_shape hown'; have HO := Lib.hid hown'; have HG := Lib.hid hgrow; clear hown' hgrow)
    go_ret
    refine ⟨A', c', by simp, ?_, ?_⟩
    · have := HO.out
      unfold Own
      simpa using this
    · exact HB0.out.trans (own_below he HG.out (Nat.le_refl _) (by simp))

end Go.Proofs.Ytfdjlgpdbgmdkac
