/- Chapter 8's lists of moves, with what their answers have to do with each other. -/
import Derived.Test.YtfllbdpdfgkkaaaPmF
import Derived.Test.YtfllbdpdfgkkaaaPnF
import Derived.Test.YtfllbdpdfgkkaaaRunM
import Derived.Test.YtfllbdpdfgkkaaaPerfect
import Derived.Test.YtfllbdpdfgkkaaaPnM
namespace Go.Proofs.Ytfllbdpdfgkkaaa
open Go.RowKit
set_option linter.unusedVariables false

def okPm (q m : Nat) : Bool :=
  let p : Int := (q : Int) + 3
  let M := pmV p m
  decide ((M.length : Int) = pnV p m) && (if perfB p m 0 = true then rsB p (List.replicate m 0) M && decide (stA (List.replicate m 0) M M.length = List.replicate m (p - 1)) && perfB p m (p - 1) else !perfB p m (p - 1))
theorem okPm_all : ∀ q : Fin 3, ∀ m : Fin 9, okPm q.val m.val = true := by decide +kernel

theorem pm_all (p m : Int) : ∃ (M : List Mv) (E : Int), (∀ W, Calls Try.prog 6 #[.int .i64 p, .int .i64 m] W (RetMvs W M.length M E)) ∧ (∀ W, Calls Try.prog 7 #[.int .i64 p, .int .i64 m] W (RetMvs W M.length M E)) ∧ M.length ≤ 1048576 ∧
    ((E = 2 ∧ M = []) ∨ (E = 0 ∧ (3 ≤ p ∧ p ≤ 5) ∧ (∀ W, Calls Try.prog 9 #[.int .i64 p, .int .i64 m] W fun e w' => e = .returned (.tuple #[.int .i64 M.length, .int .i64 0]) ∧ Below W.heap.size W w') ∧ ∃ (P0 P1 E0 : Int) (L0 L1 : List Int), (∀ W, Calls Try.prog 10 #[.int .i64 p, .int .i64 m, .int .i64 0] W (RetState W P0 L0.length L0 E0)) ∧ (∀ W, Calls Try.prog 10 #[.int .i64 p, .int .i64 m, .int .i64 (p - 1)] W (RetState W P1 L1.length L1 E0)) ∧ (L0.length ≤ 8 ∧ L1.length ≤ 8) ∧ (E0 = 2 ∨ (E0 = 0 ∧ (∀ (A : Option Addr) (c : Nat) (AM : Option Addr) (cM : Nat) (W : World), Ints W A L0 → Mvs W AM M → Calls Try.prog 11 #[.agg #[.int .i64 P0, .slice A L0.length c], .slice AM M.length cM] W (RetState W P1 L1.length L1 0)))))) := by
  refine ⟨pmV p m, prC 5 p 8 m, fun W => implPresumedMoves_ret p m W, fun W => specPresumedMoves_ret p m W, pmV_len p m, ?_⟩
  by_cases hB : prB 5 p 8 m = true
  · right
    have hb := prB_of hB
    obtain ⟨q, rfl⟩ : ∃ q : Nat, p = (q : Int) + 3 := ⟨(p - 3).toNat, by omega⟩
    obtain ⟨k, rfl⟩ : ∃ k : Nat, m = k := ⟨m.toNat, by omega⟩
    have h := okPm_all ⟨q, by omega⟩ ⟨k, by omega⟩
    unfold okPm at h
    simp only [Bool.and_eq_true, decide_eq_true_eq] at h
    obtain ⟨h1, h2⟩ := h
    have hN : prB 10 ((q : Int) + 3) 60 k = true := prB_yes ⟨by omega, by omega, by omega, by omega⟩
    refine ⟨prC_yes hB, ⟨by omega, by omega⟩, fun W => ?_, ?_⟩
    · have h := implPresumedNumber_calls ((q : Int) + 3) k W
      rw [prC_yes hN, ← h1] at h
      exact h
    · refine ⟨perfP ((q : Int) + 3) k 0, perfP ((q : Int) + 3) k ((q : Int) + 3 - 1), perfE ((q : Int) + 3) k 0, perfL ((q : Int) + 3) k 0, perfL ((q : Int) + 3) k ((q : Int) + 3 - 1), fun W => implPerfectState_ret _ _ _ W, ?_, ?_, ?_⟩
      · intro W
        have h := implPerfectState_ret ((q : Int) + 3) k ((q : Int) + 3 - 1) W
        have he : perfE ((q : Int) + 3) k ((q : Int) + 3 - 1) = perfE ((q : Int) + 3) k 0 := by
          unfold perfE
          by_cases hp : perfB ((q : Int) + 3) k 0 = true
          · rw [if_pos hp] at h2 ⊢
            simp only [Bool.and_eq_true] at h2
            rw [if_pos h2.2]
          · rw [if_neg hp] at h2 ⊢
            simp only [Bool.not_eq_true'] at h2
            rw [h2]
            rfl
        rw [he] at h
        exact h
      · have hl : ∀ a : Int, (perfL ((q : Int) + 3) k a).length ≤ 8 := fun a => by
          unfold perfL
          split
          · rw [List.length_replicate, Int.toNat_natCast]; omega
          · simp
        exact ⟨hl _, hl _⟩
      · by_cases hp : perfB ((q : Int) + 3) k 0 = true
        · right
          rw [if_pos hp] at h2
          simp only [Bool.and_eq_true, decide_eq_true_eq] at h2
          obtain ⟨⟨h3, h4⟩, h5⟩ := h2
          have e0 : perfL ((q : Int) + 3) k 0 = List.replicate k 0 := by unfold perfL; rw [if_pos hp, Int.toNat_natCast]
          have e1 : perfL ((q : Int) + 3) k ((q : Int) + 3 - 1) = List.replicate k ((q : Int) + 3 - 1) := by unfold perfL; rw [if_pos h5, Int.toNat_natCast]
          have p0 : perfP ((q : Int) + 3) k 0 = (q : Int) + 3 := by unfold perfP; rw [if_pos hp]
          have p1 : perfP ((q : Int) + 3) k ((q : Int) + 3 - 1) = (q : Int) + 3 := by unfold perfP; rw [if_pos h5]
          refine ⟨by unfold perfE; rw [if_pos hp], fun A c AM cM W hI hM => ?_⟩
          rw [e0] at hI
          rw [e0, e1, p0, p1]
          obtain ⟨r1, r2, r3, _⟩ := rm_yes h3
          have h := implRunMoves_ret A k c ((q : Int) + 3) (List.replicate k 0) AM _ cM (pmV ((q : Int) + 3) k) W (by simp) (by omega) hI rfl (pmV_len _ _) hM
          rw [r1, r2, r3, h4] at h
          simp only [List.length_replicate] at h ⊢
          exact h
        · left
          unfold perfE
          rw [if_neg hp]
  · left
    have hB' : prB 5 p 8 m = false := by simpa using hB
    exact ⟨prC_no hB', by unfold pmV; rw [hB']; rfl⟩

end Go.Proofs.Ytfllbdpdfgkkaaa
