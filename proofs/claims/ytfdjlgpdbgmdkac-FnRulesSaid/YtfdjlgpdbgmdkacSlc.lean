/- Contracts: slices.Clone of a list of integers. -/
import Derived.Test.YtfdjlgpdbgmdkacMark
import Derived.Test.YtfdjlgpdbgmdkacNews
import Derived.Test.YtfdjlgpdbgmdkacOwnG
import Derived.Laws.Cover3
namespace Go.Proofs.Ytfdjlgpdbgmdkac
open Go.RowKit
set_option linter.unusedVariables false

theorem OwnG.grown_belowC {e size B : Nat} {w w1 : World} {A : Option Addr} {n c : Nat} {xs : List Value} {B0 : Nat} (h : OwnG e size B w A n c xs) (hg : w.grownBy w1 (Value.slice A n c).ownBlock) (h1 : B0 ≤ B) (h2 : B0 ≤ w.heap.size) : Below B0 w w1 := by
  refine (Below.refl B0 w).grown hg h2 (fun k hk => ?_)
  rcases h.form with ⟨rfl, rfl, rfl⟩ | ⟨g, rfl, hB, _⟩
  · simp [Value.ownBlock] at hk
  · simp only [Value.ownBlock, Option.some.injEq] at hk
    omega

set_option maxHeartbeats 1000000 in
theorem clone_calls (ad : Addr) (n c : Nat) (L : List Int) (w : World) (hL : L.length = n) (hn : n ≤ 1000) (hI : Ints w (some ad) L) :
    Calls Try.prog 31 #[.slice (some ad) n c] w fun e w' => ∃ A c', e = .returned (.slice A n c') ∧ Own w.heap.size w' A n c' L ∧ Below w.heap.size w w' := by
  obtain ⟨i0, hi, hz0, hz1, hz2⟩ := info_parts Try.infoI
  have HL := Lib.hid hL
  have hb0 := (Below.refl w.heap.size w).alloc (Nat.le_refl _) (.cells #[] 2)
  have HI := Lib.hid (hI.below hb0)
  have HB := Lib.hid hb0
  have HO := Lib.hid (OwnG.emptyAt (e := 2) (size := 1) (Box.new w 2 #[]) (Nat.le_refl w.heap.size))
  have heq : ∀ W : World, (binOp .eql 37 (.slice (some ad) n c) (.slice none 0 0)).run Try.prog W = .ok (.bool false) W := fun W => by
    simp only [binOp]
    simp [run_equal_slice_nil W 37 2 (some ad) n c Try.underlying37]
  clear hL hI hb0
  go_enter Try.func31, Try.ntmps31
  go_wp2_with (at_builtin; refine wpList_append_own _ rfl _ _ 37 rfl w.heap.size 2 i0 (.int .i64 0) 1 8 Try.underlying37 hi hz0 hz1 hz2 rfl (by decide) _ _ _ rfl HO.out ad n c (L.map (Value.int .i64)) rfl (by simp [HL.out]) (HI.out.news) (ints_oneCell _ _) (by unfold maxLen; omega) (by omega) (by simp) ?_; intro v' w4 hown' hgrow _; obtain ⟨A4, c4, rfl⟩ := ownG_shape hown'; have HO4 := Lib.hid hown'; have HG4 := Lib.hid hgrow; clear hown' hgrow)
  go_ret
  exact ⟨A4, c4, by simp, by simpa [Own] using HO4.out, HB.out.trans (OwnG.grown_belowC HO.out HG4.out (Nat.le_refl _) (by simp))⟩

end Go.Proofs.Ytfdjlgpdbgmdkac
