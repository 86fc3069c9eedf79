/- States: contracts, with what their answers have to do with each other. -/
import Derived.Test.YtfdjlgpdbgmdkaaSsP
import Derived.Test.YtfdjlgpdbgmdkaaRowsS
import Derived.Test.YtfdjlgpdbgmdkaaSpecIs
namespace Go.Proofs.Ytfdjlgpdbgmdkaa
open Go.RowKit
set_option linter.unusedVariables false
set_option maxRecDepth 100000

/-- All that the law asks of a state. -/
def SsGood (p : Int) (L : List Int) (m : Nat) (rk : Int) (LL : List (List Int)) : Prop :=
  ∃ (tx : ByteArray) (q : Nat) (cn : Nat → Nat), p = q ∧ (LL.length = q ∧ q ≤ 5) ∧ (∀ W, Calls Try.prog 10 #[.int .i64 p, .int .i64 (m : Int), .int .i64 rk] W (RetState W p m L 0)) ∧ (∀ (A : Option Addr) (c : Nat) (W : World), Ints W A L → Calls Try.prog 11 #[.agg #[.int .i64 p, .slice A m c]] W (fun e w' => e = .returned (.tuple #[.string tx, .int .i64 0]) ∧ Below W.heap.size W w')) ∧ (∀ W, Calls Try.prog 12 #[.string tx] W (RetState W p m L 0)) ∧ (∀ (A : Option Addr) (c : Nat) (W : World), Ints W A L → Calls Try.prog 13 #[.agg #[.int .i64 p, .slice A m c]] W (RetT W LL 0)) ∧
    cn 0 = 0 ∧ cn q = m ∧ (∀ j, j ≤ q → cn j ≤ 1000) ∧
    ∀ j : Nat, j < q → ∃ R : List Int, LL[j]? = some R ∧ cn (j + 1) = cn j + R.length ∧ R.length ≤ 10 ∧ ((R = [] ∧ ∃ v, (∀ (A : Option Addr) (c : Nat) (W : World), Ints W A L → Calls Try.prog 15 #[.agg #[.int .i64 p, .slice A m c], .int .i64 (j : Int)] W (fun e w' => e = .returned (.tuple #[.int .i64 v, .int .i64 4]) ∧ Below W.heap.size W w'))) ∨ (∃ (M : List Int) (x : Int), R = M ++ [x] ∧ (∀ (A : Option Addr) (c : Nat) (W : World), Ints W A L → Calls Try.prog 15 #[.agg #[.int .i64 p, .slice A m c], .int .i64 (j : Int)] W (fun e w' => e = .returned (.tuple #[.int .i64 x, .int .i64 0]) ∧ Below W.heap.size W w'))))
theorem ss_all (p : Int) (L : List Int) (m : Nat) (hL : L.length = m) (hm : m ≤ 10) : ∃ (rk E : Int) (b : Bool) (LL : List (List Int)), (∀ (A : Option Addr) (c : Nat) (W : World), Ints W A L → Calls Try.prog 6 #[.agg #[.int .i64 p, .slice A m c]] W (fun e w' => e = .returned (.tuple #[.int .i64 rk, .int .i64 E]) ∧ Below W.heap.size W w')) ∧ (∀ (A : Option Addr) (c : Nat) (W : World), Ints W A L → Calls Try.prog 7 #[.agg #[.int .i64 p, .slice A m c]] W (fun e w' => e = .returned (.tuple #[.int .i64 rk, .int .i64 E]) ∧ Below W.heap.size W w')) ∧ (∀ (A : Option Addr) (c : Nat) (W : World), Ints W A L → Calls Try.prog 8 #[.agg #[.int .i64 p, .slice A m c]] W (fun e w' => e = .returned (.bool b) ∧ Below W.heap.size W w')) ∧ (∀ (A : Option Addr) (c : Nat) (W : World), Ints W A L → Calls Try.prog 9 #[.agg #[.int .i64 p, .slice A m c]] W (fun e w' => e = .returned (.bool b) ∧ Below W.heap.size W w')) ∧ (E ≠ 0 ∨ (E = 0 ∧ SsGood p L m rk LL)) := by
  subst hL
  refine ⟨rankV p L, codeS p L, stateB p L, stkV p L, fun A c W hI => implRankOf_calls A _ c p L W rfl (by omega) hI, fun A c W hI => specRankOf_calls A _ c p L W rfl (by omega) hI, fun A c W hI => implIsState_calls A _ c p L W rfl (by omega) hI, fun A c W hI => specIsState_calls A _ c p L W rfl (by omega) hI, ?_⟩
  cases h : stateB p L with
  | false => left; rw [codeS_no h]; decide
  | true =>
    right
    refine ⟨codeS_yes h, ?_⟩
    have hp := fitsB_bd (st_facts h).1
    obtain ⟨q, hq⟩ := Int.eq_ofNat_of_zero_le (show 0 ≤ p by omega)
    obtain ⟨r1, r2, r3⟩ := ss_rank h
    obtain ⟨t1, t2, t3, t4⟩ := ss_text h
    have e0 : stkV p L = stacksL q L L.length := by unfold stkV; rw [if_pos h, hq, Int.toNat_natCast]
    refine ⟨sttV p L, q, cntS L L.length, hq, ⟨by rw [e0, stacksL_len], by omega⟩, fun W => ?_, fun A c W hI => ?_, fun W => ?_, fun A c W hI => ?_, rfl, ?_, fun j hj => ?_, fun j hj => ?_⟩
    · have k := implStateOfRank_ret p (L.length : Int) (rankV p L) W
      rw [r1, r2, r3] at k
      exact k
    · have k := implStateText_calls A L.length c p L W rfl (by omega) hI
      rw [codeS_yes h] at k
      exact k
    · have k := implParseState_ret (sttV p L) W (by omega)
      rw [t2, t3, t4] at k
      exact k
    · have k := implStacksOf_ret A L.length c p L W rfl (by omega) hI
      rw [codeS_yes h] at k
      exact k.mono fun e w' hh => retT_own (stkV_small p L) hh
    · have := ss_cnt h
      rw [hq, Int.toNat_natCast] at this
      exact this
    · have h1 := cntS_le L L.length j
      have h2 : j * L.length ≤ 5 * 10 := Nat.mul_le_mul (by omega) hm
      omega
    · have hlen : (stkL L (j : Int) L.length).length ≤ 10 := by
        have h1 : cntS L L.length (j + 1) = cntS L L.length j + (stkL L (j : Int) L.length).length := rfl
        have h2 : ∀ i k, i ≤ k → cntS L L.length i ≤ cntS L L.length k := by
          intro i k
          induction k with
          | zero =>
            intro h0
            have e0 : i = 0 := by omega
            subst e0
            exact Nat.le_refl _
          | succ k ih =>
            intro hi
            by_cases e : i = k + 1
            · subst e; exact Nat.le_refl _
            · exact Nat.le_trans (ih (by omega)) (Nat.le_add_right _ _)
        have h3 := h2 (j + 1) q (by omega)
        have h4 := ss_cnt h
        rw [hq, Int.toNat_natCast] at h4
        omega
      refine ⟨stkL L (j : Int) L.length, ?_, rfl, hlen, ?_⟩
      · rw [e0]
        unfold stacksL
        rw [List.getElem?_map, List.getElem?_range hj]
        rfl
      · rcases ss_top h (a := j) (by omega) with ⟨h1, h2⟩ | ⟨M, x, h1, h2, h3⟩
        · left
          refine ⟨h1, topV p j L, fun A c W hI => ?_⟩
          have k := implTopOf_calls A L.length c p L j W rfl (by omega) hI
          rw [h2] at k
          exact k
        · right
          refine ⟨M, x, h1, fun A c W hI => ?_⟩
          have k := implTopOf_calls A L.length c p L j W rfl (by omega) hI
          rw [h2, h3] at k
          exact k
theorem rn_allS (p : Int) (L : List Int) (m : Nat) (P : List Int) (q : Nat) (hL : L.length = m) (hm : m ≤ 10) (hP : P.length = q) (hq : q ≤ 7) : ∃ (P' : Int) (R : List Int) (k : Nat) (E : Int), R.length = k ∧ k ≤ 1048576 ∧
    (∀ (A : Option Addr) (c : Nat) (B : Option Addr) (d : Nat) (W : World), Ints W A L → Ints W B P → Calls Try.prog 17 #[.agg #[.int .i64 p, .slice A m c], .slice B q d] W (RetState W P' k R E)) ∧
    (∀ (A : Option Addr) (c : Nat) (B : Option Addr) (d : Nat) (W : World), Ints W A L → Ints W B P → Calls Try.prog 18 #[.agg #[.int .i64 p, .slice A m c], .slice B q d] W (RetState W P' k R E)) ∧
    (E ≠ 0 ∨ (E = 0 ∧ ∃ (a : Nat) (M1 M2 : List Mv), M1.length = a ∧ M2.length = a ∧ (∀ (A : Option Addr) (c : Nat) (W : World), Ints W A L → m ≤ c → c ≤ 9223372036854775807 → Calls Try.prog 19 #[.agg #[.int .i64 p, .slice A m c]] W (RetMvs W a M1 0)) ∧ (∀ (A : Option Addr) (c : Nat) (W : World), Ints W A R → k ≤ c → c ≤ 9223372036854775807 → Calls Try.prog 19 #[.agg #[.int .i64 P', .slice A k c]] W (RetMvs W a M2 0)))) := by
  subst hL hP
  have hk : (rpV p L P).length ≤ 1048576 := by
    unfold rpV
    split
    · unfold rnL; simp; omega
    · simp
  refine ⟨rpP p L P, rpV p L P, (rpV p L P).length, rpE p L P, rfl, hk, fun A c B d W hI hJ => implRenamePegs_ret p A _ c L B _ d P W rfl (by omega) hI rfl (by omega) hJ, fun A c B d W hI hJ => specRenamePegs_ret p A _ c L B _ d P W rfl (by omega) hI rfl (by omega) hJ, ?_⟩
  by_cases hE : rpE p L P = 0
  · right
    obtain ⟨h1, h2, h3, h4⟩ := ss_ren hE
    refine ⟨hE, (lmL p L).length, lmL p L, lmL p (rpV p L P), rfl, h4.symm, fun A c W hI hc1 hc2 => ?_, fun A c W hI hc1 hc2 => ?_⟩
    · have k := implLegalMoves_ret A L.length c p L W rfl (by omega) hI hc1 hc2
      rw [codeS_yes h1] at k
      exact k
    · rw [h2]
      have k := implLegalMoves_ret A (rpV p L P).length c p (rpV p L P) W rfl hk hI hc1 hc2
      rw [codeS_yes h3, ← h4] at k
      exact k
  · exact .inl hE
theorem pf_all (k n a : Int) : ∃ (P : Int) (R : List Int) (q : Nat) (E : Int), R.length = q ∧ q ≤ 1048576 ∧ (∀ W, Calls Try.prog 21 #[.int .i64 k, .int .i64 n, .int .i64 a] W (RetState W P q R E)) ∧ (∀ W, Calls Try.prog 22 #[.int .i64 k, .int .i64 n, .int .i64 a] W (RetState W P q R E)) ∧ (E ≠ 0 ∨ (E = 0 ∧ (∀ (A : Option Addr) (c : Nat) (W : World), Ints W A R → Calls Try.prog 23 #[.agg #[.int .i64 P, .slice A q c]] W (fun e w' => e = .returned (.tuple #[.bool true, .int .i64 0]) ∧ Below W.heap.size W w')))) := by
  refine ⟨perfP k n a, perfL k n a, _, perfE k n a, rfl, perfL_len k n a, fun W => implPerfectState_ret k n a W, fun W => specPerfectState_ret k n a W, ?_⟩
  by_cases hE : perfE k n a = 0
  · right
    obtain ⟨h1, h2, h3⟩ := ss_perf hE
    refine ⟨hE, fun A c W hI => ?_⟩
    have kk := implIsPerf_calls A (perfL k n a).length c k (perfL k n a) W rfl (perfL_len k n a) hI
    rw [h2, h3] at kk
    rw [h1]
    exact kk
  · exact .inl hE
theorem ip_all (p : Int) (L : List Int) (m : Nat) (hL : L.length = m) (hm : m ≤ 10) : ∃ (v : Bool) (E : Int), (∀ (A : Option Addr) (c : Nat) (W : World), Ints W A L → Calls Try.prog 23 #[.agg #[.int .i64 p, .slice A m c]] W (fun e w' => e = .returned (.tuple #[.bool v, .int .i64 E]) ∧ Below W.heap.size W w')) ∧ (∀ (A : Option Addr) (c : Nat) (W : World), Ints W A L → Calls Try.prog 25 #[.agg #[.int .i64 p, .slice A m c]] W (fun e w' => e = .returned (.tuple #[.bool v, .int .i64 E]) ∧ Below W.heap.size W w')) := by
  subst hL
  exact ⟨ipV p L, codeS p L, fun A c W hI => implIsPerf_calls A _ c p L W rfl (by omega) hI, fun A c W hI => specIsPerf_calls A _ c p L W rfl (by omega) hI⟩
theorem sr_all (k n a : Int) : ∃ (P : Int) (R : List Int) (q : Nat) (E : Int), R.length = q ∧ q ≤ 1048576 ∧ (∀ W, Calls Try.prog 10 #[.int .i64 k, .int .i64 n, .int .i64 a] W (RetState W P q R E)) ∧ (∀ W, Calls Try.prog 27 #[.int .i64 k, .int .i64 n, .int .i64 a] W (RetState W P q R E)) :=
  ⟨sorP k n a, sorL k n a, _, sorE k n a, rfl, sorL_len k n a, fun W => implStateOfRank_ret k n a W, fun W => specStateOfRank_ret k n a W⟩
theorem ps_all (t : ByteArray) (ht : t.size ≤ 1000000000000000000) : ∃ (P : Int) (R : List Int) (q : Nat) (E : Int), R.length = q ∧ q ≤ 1048576 ∧ (∀ W, Calls Try.prog 12 #[.string t] W (RetState W P q R E)) ∧ (∀ W, Calls Try.prog 29 #[.string t] W (RetState W P q R E)) := by
  refine ⟨psP t, psL t, _, psE t, rfl, ?_, fun W => implParseState_ret t W ht, fun W => specParseState_ret t W ht⟩
  unfold psL
  split
  next h =>
    rw [prsL_len]
    unfold okT formT at h
    rw [Bool.and_eq_true, decide_eq_true_iff] at h
    omega
  · simp
theorem tp_all (p : Int) (L : List Int) (m : Nat) (i : Int) (hL : L.length = m) (hm : m ≤ 10) : ∃ (v E : Int), (∀ (A : Option Addr) (c : Nat) (W : World), Ints W A L → Calls Try.prog 15 #[.agg #[.int .i64 p, .slice A m c], .int .i64 i] W (fun e w' => e = .returned (.tuple #[.int .i64 v, .int .i64 E]) ∧ Below W.heap.size W w')) ∧ (∀ (A : Option Addr) (c : Nat) (W : World), Ints W A L → Calls Try.prog 31 #[.agg #[.int .i64 p, .slice A m c], .int .i64 i] W (fun e w' => e = .returned (.tuple #[.int .i64 v, .int .i64 E]) ∧ Below W.heap.size W w')) := by
  subst hL
  exact ⟨topV p i L, topE p i L, fun A c W hI => implTopOf_calls A _ c p L i W rfl (by omega) hI, fun A c W hI => specTopOf_calls A _ c p L i W rfl (by omega) hI⟩
theorem sk_all (p : Int) (L : List Int) (m : Nat) (hL : L.length = m) (hm : m ≤ 10) : ∃ (LL : List (List Int)) (E : Int), (∀ (A : Option Addr) (c : Nat) (W : World), Ints W A L → Calls Try.prog 13 #[.agg #[.int .i64 p, .slice A m c]] W (RetT W LL E)) ∧ (∀ (A : Option Addr) (c : Nat) (W : World), Ints W A L → Calls Try.prog 33 #[.agg #[.int .i64 p, .slice A m c]] W (RetT W LL E)) := by
  subst hL
  exact ⟨stkV p L, codeS p L, fun A c W hI => (implStacksOf_ret A _ c p L W rfl (by omega) hI).mono fun e w' h => retT_own (stkV_small p L) h, fun A c W hI => (specStacksOf_ret A _ c p L W rfl (by omega) hI).mono fun e w' h => retT_own (stkV_small p L) h⟩
theorem tx_all (p : Int) (L : List Int) (m : Nat) (hL : L.length = m) (hm : m ≤ 10) : ∃ (v : ByteArray) (E : Int), (∀ (A : Option Addr) (c : Nat) (W : World), Ints W A L → Calls Try.prog 11 #[.agg #[.int .i64 p, .slice A m c]] W (fun e w' => e = .returned (.tuple #[.string v, .int .i64 E]) ∧ Below W.heap.size W w')) ∧ (∀ (A : Option Addr) (c : Nat) (W : World), Ints W A L → Calls Try.prog 35 #[.agg #[.int .i64 p, .slice A m c]] W (fun e w' => e = .returned (.tuple #[.string v, .int .i64 E]) ∧ Below W.heap.size W w')) := by
  subst hL
  exact ⟨sttV p L, codeS p L, fun A c W hI => implStateText_calls A _ c p L W rfl (by omega) hI, fun A c W hI => specStateText_calls A _ c p L W rfl (by omega) hI⟩

end Go.Proofs.Ytfdjlgpdbgmdkaa
