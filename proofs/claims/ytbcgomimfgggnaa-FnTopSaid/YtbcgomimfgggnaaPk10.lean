/- Distances: contracts, with what their answers have to do with each other. · FnTop: contracts, with what their answers have to do with each other. · Contracts: the numbers that the laws of words draw from their code. · Contracts: the states that a law draws from its code. · Contracts: the states that a law draws: one that seldom is none. · Contracts: what the law FnWays draws from its code: a state and a peg. -/
import Derived.Test.YtbcgomimfgggnaaPk5
import Derived.Test.YtbcgomimfgggnaaPk7
import Derived.Test.YtbcgomimfgggnaaPk9
import Derived.Test.YtbcgomimfgggnaaPk1
import Derived.Laws.Bits64b
import Derived.BigQuiet
import Derived.Test.YtbcgomimfgggnaaPk4
import Derived.Deep.AppendLies
import Derived.Deep.RegionLaw
import Derived.Deep.Cut
namespace Go.Proofs.Ytbcgomimfgggnaa
open Go.RowKit
set_option linter.unusedVariables false
set_option maxRecDepth 100000

theorem own_capT {B : Nat} {w : World} {A : Option Addr} {n c : Nat} {L : List Int} (h : Own B w A n c L) : n ≤ c ∧ c ≤ 9223372036854775807 := by
  have h := OwnG.cap h
  unfold maxLen at h
  omega
theorem wb_small (p : Int) (L : List Int) (q : Int) (M : List Int) : (wbL p L q M).length ≤ 800 := by
  unfold wbL wbT
  split
  · next h =>
    split
    · simp
    · next hg =>
      have h8 := (state_facts (code2_zero h).1 rfl).2.2.1
      have hb := (grt_bd L M L.length).2
      have hD : (grt L M L.length).toNat ≤ 7 := by omega
      unfold wbD
      split
      · exact w1L_len _ _ _ _ _ hD
      · exact w2L_len _ _ _ _ _ hD
  · simp
theorem fdw_all (p : Int) (L : List Int) (m : Nat) (q : Int) (M : List Int) (k : Nat) (hL : L.length = m) (hm : m ≤ 10) (hM : M.length = k) (hk : k ≤ 10) : ∃ (WL : List Mv) (n : Nat) (E : Int), (WL.length = n ∧ n ≤ 800) ∧ (∀ (A : Option Addr) (c : Nat) (B : Option Addr) (d : Nat) (W : World), Ints W A L → m ≤ c → c ≤ 9223372036854775807 → Ints W B M → k ≤ d → d ≤ 9223372036854775807 → Calls Try.prog 13 #[.agg #[.int .i64 p, .slice A m c], .agg #[.int .i64 q, .slice B k d]] W (RetMvs W n WL E)) ∧ (∀ (A : Option Addr) (c : Nat) (B : Option Addr) (d : Nat) (W : World), Ints W A L → m ≤ c → c ≤ 9223372036854775807 → Ints W B M → k ≤ d → d ≤ 9223372036854775807 → Calls Try.prog 18 #[.agg #[.int .i64 p, .slice A m c], .agg #[.int .i64 q, .slice B k d]] W (RetMvs W n WL E)) ∧ ((E ≠ 0 ∧ n = 0) ∨ (E = 0 ∧ q = 3 ∧ (∀ (A : Option Addr) (c : Nat) (B : Option Addr) (d : Nat) (W : World), Ints W A L → m ≤ c → c ≤ 9223372036854775807 → Ints W B M → k ≤ d → d ≤ 9223372036854775807 → Calls Try.prog 9 #[.agg #[.int .i64 p, .slice A m c], .agg #[.int .i64 q, .slice B k d]] W (fun e w' => e = .returned (.tuple #[.int .i64 (n : Int), .int .i64 0]) ∧ Below W.heap.size W w')) ∧ (∀ (A : Option Addr) (c : Nat) (D : Option Addr) (d : Nat) (W : World), Ints W A L → Mvs W D WL → Calls Try.prog 14 #[.agg #[.int .i64 p, .slice A m c], .slice D n d] W (RetState W q k M 0)))) := by
  subst hL hM
  refine ⟨wbL p L q M, (wbL p L q M).length, code2 p L q M, ⟨rfl, wb_small p L q M⟩, fun A c B d W hI h1 h2 hJ h3 h4 => implWayBetween_ret A _ c p L B _ d q M W rfl (by omega) hI h1 h2 rfl (by omega) hJ h3 h4, fun A c B d W hI h1 h2 hJ h3 h4 => specWayBetween_ret A _ c p L B _ d q M W rfl (by omega) hI h1 h2 rfl (by omega) hJ h3 h4, ?_⟩
  by_cases h : code2 p L q M = 0
  · right
    obtain ⟨hp, hs, f1, f2, f3, f4, hq⟩ := fd_way h
    refine ⟨h, hq, fun A c B d W hI h1 h2 hJ h3 h4 => ?_, fun A c D d W hI hV => ?_⟩
    · have k := implDistanceByRule_calls A _ c p L B _ d q M W rfl (by omega) hI h1 h2 rfl (by omega) hJ h3 h4
      rw [f2, ← f1] at k
      exact k
    · have k := implRunMoves_ret A _ c p L D _ d (wbL p L q M) W rfl (by omega) hI rfl (by have := wb_small p L q M; omega) hV
      subst hp hq
      have hB : rsB 3 L (wbL 3 L 3 M) = true := by
        have := wb_small 3 L 3 M
        unfold rsB; rw [hs, f3]; simp; omega
      have hC : rsC 3 L (wbL 3 L 3 M) = 0 := by
        have := wb_small 3 L 3 M
        unfold rsC; rw [if_pos hs, if_pos (by omega), if_pos f3]
      have hR : rmL 3 L (wbL 3 L 3 M) = M := by unfold rmL; rw [if_pos hB, f4]
      have hP : rmP 3 L (wbL 3 L 3 M) = 3 := by unfold rmP; rw [if_pos hB]
      rw [hC, hR, hP] at k
      exact k
  · left
    exact ⟨h, by rw [wbL_no h]; rfl⟩
theorem fdd_all (p : Int) (L : List Int) (m : Nat) (q : Int) (M : List Int) (k : Nat) (hL : L.length = m) (hm : m ≤ 10) (hM : M.length = k) (hk : k ≤ 10) : ∃ (D E F1 F2 E1 C : Int), (∀ (A : Option Addr) (c : Nat) (B : Option Addr) (d : Nat) (W : World), Ints W A L → m ≤ c → c ≤ 9223372036854775807 → Ints W B M → k ≤ d → d ≤ 9223372036854775807 → Calls Try.prog 9 #[.agg #[.int .i64 p, .slice A m c], .agg #[.int .i64 q, .slice B k d]] W (fun e w' => e = .returned (.tuple #[.int .i64 D, .int .i64 E]) ∧ Below W.heap.size W w')) ∧ (∀ (A : Option Addr) (c : Nat) (B : Option Addr) (d : Nat) (W : World), Ints W A L → m ≤ c → c ≤ 9223372036854775807 → Ints W B M → k ≤ d → d ≤ 9223372036854775807 → Calls Try.prog 10 #[.agg #[.int .i64 p, .slice A m c], .agg #[.int .i64 q, .slice B k d]] W (fun e w' => e = .returned (.tuple #[.int .i64 D, .int .i64 E]) ∧ Below W.heap.size W w')) ∧ (∀ (A : Option Addr) (c : Nat) (B : Option Addr) (d : Nat) (W : World), Ints W A L → m ≤ c → c ≤ 9223372036854775807 → Ints W B M → k ≤ d → d ≤ 9223372036854775807 → Calls Try.prog 21 #[.agg #[.int .i64 p, .slice A m c], .agg #[.int .i64 q, .slice B k d]] W (fun e w' => e = .returned (.tuple #[.int .i64 F1, .int .i64 E1]) ∧ Below W.heap.size W w')) ∧ (∀ (A : Option Addr) (c : Nat) (B : Option Addr) (d : Nat) (W : World), Ints W A L → m ≤ c → c ≤ 9223372036854775807 → Ints W B M → k ≤ d → d ≤ 9223372036854775807 → Calls Try.prog 22 #[.agg #[.int .i64 p, .slice A m c], .agg #[.int .i64 q, .slice B k d]] W (fun e w' => e = .returned (.tuple #[.int .i64 F1, .int .i64 E1]) ∧ Below W.heap.size W w')) ∧ (∀ (A : Option Addr) (c : Nat) (B : Option Addr) (d : Nat) (W : World), Ints W A L → m ≤ c → c ≤ 9223372036854775807 → Ints W B M → k ≤ d → d ≤ 9223372036854775807 → Calls Try.prog 23 #[.agg #[.int .i64 p, .slice A m c], .agg #[.int .i64 q, .slice B k d]] W (fun e w' => e = .returned (.tuple #[.int .i64 F2, .int .i64 E1]) ∧ Below W.heap.size W w')) ∧ (∀ (A : Option Addr) (c : Nat) (B : Option Addr) (d : Nat) (W : World), Ints W A L → m ≤ c → c ≤ 9223372036854775807 → Ints W B M → k ≤ d → d ≤ 9223372036854775807 → Calls Try.prog 24 #[.agg #[.int .i64 p, .slice A m c], .agg #[.int .i64 q, .slice B k d]] W (fun e w' => e = .returned (.tuple #[.int .i64 F2, .int .i64 E1]) ∧ Below W.heap.size W w')) ∧ (∀ (A : Option Addr) (c : Nat) (B : Option Addr) (d : Nat) (W : World), Ints W A L → m ≤ c → c ≤ 9223372036854775807 → Ints W B M → k ≤ d → d ≤ 9223372036854775807 → Calls Try.prog 25 #[.agg #[.int .i64 p, .slice A m c], .agg #[.int .i64 q, .slice B k d]] W (fun e w' => e = .returned (.tuple #[.int .i64 C, .int .i64 E]) ∧ Below W.heap.size W w')) ∧ (∀ (A : Option Addr) (c : Nat) (B : Option Addr) (d : Nat) (W : World), Ints W A L → m ≤ c → c ≤ 9223372036854775807 → Ints W B M → k ≤ d → d ≤ 9223372036854775807 → Calls Try.prog 26 #[.agg #[.int .i64 p, .slice A m c], .agg #[.int .i64 q, .slice B k d]] W (fun e w' => e = .returned (.tuple #[.int .i64 C, .int .i64 E]) ∧ Below W.heap.size W w')) ∧
    (E ≠ 0 ∨ (E = 0 ∧ (∀ (A : Option Addr) (c : Nat) (B : Option Addr) (d : Nat) (W : World), Ints W A M → k ≤ c → c ≤ 9223372036854775807 → Ints W B L → m ≤ d → d ≤ 9223372036854775807 → Calls Try.prog 9 #[.agg #[.int .i64 q, .slice A k c], .agg #[.int .i64 p, .slice B m d]] W (fun e w' => e = .returned (.tuple #[.int .i64 D, .int .i64 0]) ∧ Below W.heap.size W w')) ∧ (1 ≤ C ∧ C ≤ 2) ∧ (E1 ≠ 0 ∨ (E1 = 0 ∧ D = (if F2 < F1 then F2 else F1) ∧ (C = 2 ↔ F1 = F2))))) := by
  subst hL hM
  refine ⟨nwV 0 min p L q M, nbC 0 p L q M, nwV 0 fstI p L q M, nwV 0 sndI p L q M, nbC 5 p L q M, nwV 1 waysI p L q M, fun A c B d W hI h1 h2 hJ h3 h4 => implDistanceByRule_calls A _ c p L B _ d q M W rfl (by omega) hI h1 h2 rfl (by omega) hJ h3 h4, fun A c B d W hI h1 h2 hJ h3 h4 => specDistanceByRule_calls A _ c p L B _ d q M W rfl (by omega) hI h1 h2 rfl (by omega) hJ h3 h4, fun A c B d W hI h1 h2 hJ h3 h4 => implOneMoveNumber_calls A _ c p L B _ d q M W rfl (by omega) hI h1 h2 rfl (by omega) hJ h3 h4, fun A c B d W hI h1 h2 hJ h3 h4 => specOneMoveNumber_calls A _ c p L B _ d q M W rfl (by omega) hI h1 h2 rfl (by omega) hJ h3 h4, fun A c B d W hI h1 h2 hJ h3 h4 => implTwoMoveNumber_calls A _ c p L B _ d q M W rfl (by omega) hI h1 h2 rfl (by omega) hJ h3 h4, fun A c B d W hI h1 h2 hJ h3 h4 => specTwoMoveNumber_calls A _ c p L B _ d q M W rfl (by omega) hI h1 h2 rfl (by omega) hJ h3 h4, fun A c B d W hI h1 h2 hJ h3 h4 => implWaysByRule_calls A _ c p L B _ d q M W rfl (by omega) hI h1 h2 rfl (by omega) hJ h3 h4, fun A c B d W hI h1 h2 hJ h3 h4 => specWaysByRule_calls A _ c p L B _ d q M W rfl (by omega) hI h1 h2 rfl (by omega) hJ h3 h4, ?_⟩
  by_cases h : nbC 0 p L q M = 0
  · right
    obtain ⟨f1, f2, f3, f4⟩ := fd_two h
    refine ⟨h, fun A c B d W hI h1 h2 hJ h3 h4 => ?_, f3, ?_⟩
    · have k := implDistanceByRule_calls A _ c q M B _ d p L W rfl (by omega) hI h1 h2 rfl (by omega) hJ h3 h4
      rw [f2, f1] at k
      exact k
    · rcases f4 with f4 | ⟨g1, g2, g3⟩
      · exact .inl f4
      · exact .inr ⟨g1, by rw [g2]; split <;> omega, g3⟩
  · exact .inl h

end Go.Proofs.Ytbcgomimfgggnaa

namespace Go.Proofs.Ytbcgomimfgggnaa
open Go.RowKit
set_option linter.unusedVariables false
set_option maxRecDepth 100000

theorem top_all (m : Nat) (L M : List Int) (hL : L.length = m) (hM : M.length = m) (hm : m ≤ 6) (hp : pegsOk L) (hq : pegsOk M) : ∃ (D : Int) (W1 W2 : List Int) (WL : List Mv) (nl : Nat), (W1.length = m ∧ W2.length = m ∧ WL.length = nl ∧ nl ≤ 800 ∧ (nl : Int) = D) ∧
    (∀ (A : Option Addr) (c : Nat) (B : Option Addr) (d : Nat) (W : World), Ints W A L → m ≤ c → c ≤ 9223372036854775807 → Ints W B M → m ≤ d → d ≤ 9223372036854775807 → Calls Try.prog 9 #[.agg #[.int .i64 3, .slice A m c], .agg #[.int .i64 3, .slice B m d]] W (fun e w' => e = .returned (.tuple #[.int .i64 D, .int .i64 0]) ∧ Below W.heap.size W w')) ∧ (∀ (A : Option Addr) (c : Nat) (B : Option Addr) (d : Nat) (W : World), Ints W A L → m ≤ c → c ≤ 9223372036854775807 → Ints W B M → m ≤ d → d ≤ 9223372036854775807 → Calls Try.prog 10 #[.agg #[.int .i64 3, .slice A m c], .agg #[.int .i64 3, .slice B m d]] W (fun e w' => e = .returned (.tuple #[.int .i64 D, .int .i64 0]) ∧ Below W.heap.size W w')) ∧
    (∀ (A : Option Addr) (c : Nat) (W : World), Ints W A L → Calls Try.prog 11 #[.agg #[.int .i64 3, .slice A m c]] W (RetInts W m W1 0)) ∧ (∀ (A : Option Addr) (c : Nat) (W : World), Ints W A M → Calls Try.prog 11 #[.agg #[.int .i64 3, .slice A m c]] W (RetInts W m W2 0)) ∧ (∀ (A : Option Addr) (c : Nat) (B : Option Addr) (d : Nat) (W : World), Ints W A W1 → Ints W B W2 → m ≤ c → m ≤ d → Calls Try.prog 12 #[.int .i64 3, .slice A m c, .slice B m d] W (fun e w' => e = .returned (.tuple #[.int .i64 D, .int .i64 0]) ∧ Below W.heap.size W w')) ∧
    (∀ (A : Option Addr) (c : Nat) (B : Option Addr) (d : Nat) (W : World), Ints W A L → m ≤ c → c ≤ 9223372036854775807 → Ints W B M → m ≤ d → d ≤ 9223372036854775807 → Calls Try.prog 13 #[.agg #[.int .i64 3, .slice A m c], .agg #[.int .i64 3, .slice B m d]] W (RetMvs W nl WL 0)) ∧ (∀ (A : Option Addr) (c : Nat) (AM : Option Addr) (d : Nat) (W : World), Ints W A L → Mvs W AM WL → Calls Try.prog 14 #[.agg #[.int .i64 3, .slice A m c], .slice AM nl d] W (RetState W 3 m M 0)) ∧
    ∀ a : Int, 0 ≤ a → a ≤ 2 → ∃ F G : Int, ((0 ≤ F ∧ F ≤ 255) ∧ (0 ≤ G ∧ G ≤ 255) ∧ D ≤ F + G ∧ F ≤ D + G ∧ G ≤ D + F) ∧ (∀ (A : Option Addr) (c : Nat) (W : World), Ints W A L → Calls Try.prog 16 #[.agg #[.int .i64 3, .slice A m c], .int .i64 a] W (fun e w' => e = .returned (.tuple #[.int .i64 F, .int .i64 0]) ∧ Below W.heap.size W w')) ∧ (∀ (A : Option Addr) (c : Nat) (W : World), Ints W A M → Calls Try.prog 16 #[.agg #[.int .i64 3, .slice A m c], .int .i64 a] W (fun e w' => e = .returned (.tuple #[.int .i64 G, .int .i64 0]) ∧ Below W.heap.size W w')) := by
  subst hL
  obtain ⟨f1, f2, f3, f4, f5, f6, f7, f8, f9, f10⟩ := top_facts hp hq hM hm
  obtain ⟨_, hs, g1, g2, g3, g4, _⟩ := fd_way f9
  refine ⟨dR L M, wosL L, wosL M, wbL 3 L 3 M, (wbL 3 L 3 M).length, ⟨wosL_len L, by rw [wosL_len, hM], rfl, wb_small 3 L 3 M, by rw [g1, f1]⟩, fun A c B d W hI h1 h2 hJ h3 h4 => ?_, fun A c B d W hI h1 h2 hJ h3 h4 => ?_, fun A c W hI => ?_, fun A c W hI => ?_, fun A c B d W hI hJ h1 h2 => ?_, fun A c B d W hI h1 h2 hJ h3 h4 => ?_, fun A c AM d W hI hV => ?_, fun a h0 h2 => ?_⟩
  · have k := implDistanceByRule_calls A _ c 3 L B _ d 3 M W rfl (by omega) hI h1 h2 hM (by omega) hJ h3 h4
    rw [f1, f2] at k
    exact k
  · have k := specDistanceByRule_calls A _ c 3 L B _ d 3 M W rfl (by omega) hI h1 h2 hM (by omega) hJ h3 h4
    rw [f1, f2] at k
    exact k
  · have k := implWordOfState_ret A _ c 3 L W rfl (by omega) hI
    rw [f3, f5, wosL_len] at k
    exact k
  · have k := implWordOfState_ret A _ c 3 M W hM (by omega) hI
    rw [f4, f6, wosL_len, hM] at k
    exact k
  · have k := implWordDistance_calls 3 A _ c (wosL L) B _ d (wosL M) W (wosL_len L) (by omega) hI (by rw [wosL_len, hM]) (by omega) hJ h1 h2
    rw [f7, f8] at k
    exact k
  · have k := implWayBetween_ret A _ c 3 L B _ d 3 M W rfl (by omega) hI h1 h2 hM (by omega) hJ h3 h4
    rw [f9] at k
    exact k
  · have k := implRunMoves_ret A _ c 3 L AM _ d (wbL 3 L 3 M) W rfl (by omega) hI rfl (by have := wb_small 3 L 3 M; omega) hV
    have hB : rsB 3 L (wbL 3 L 3 M) = true := by
      have := wb_small 3 L 3 M
      unfold rsB; rw [hs, g3]; simp; omega
    have hC : rsC 3 L (wbL 3 L 3 M) = 0 := by
      have := wb_small 3 L 3 M
      unfold rsC; rw [if_pos hs, if_pos (by omega), if_pos g3]
    have hR : rmL 3 L (wbL 3 L 3 M) = M := by unfold rmL; rw [if_pos hB, g4]
    have hP : rmP 3 L (wbL 3 L 3 M) = 3 := by unfold rmP; rw [if_pos hB]
    rw [hC, hR, hP, hM] at k
    exact k
  · obtain ⟨e1, e2, e3, e4, t1, t2, t3⟩ := f10 a ⟨h0, h2⟩
    refine ⟨distP L a, distP M a, ⟨distP_bd L a (by omega), distP_bd M a (by omega), t1, t2, t3⟩, fun A c W hI => ?_, fun A c W hI => ?_⟩
    · have k := implDistTo_calls A _ c 3 L a W rfl (by omega) hI
      rw [e1, e3] at k
      exact k
    · have k := implDistTo_calls A _ c 3 M a W hM (by omega) hI
      rw [e2, e4] at k
      exact k

end Go.Proofs.Ytbcgomimfgggnaa

namespace Go.Proofs.Ytbcgomimfgggnaa
open Go.RowKit
set_option linter.unusedVariables false
set_option maxRecDepth 100000

/-- The source of drawn numbers in block g: a code that lies ahead of it, a place in it, a number. -/
def Dic (w : World) (g : Nat) (A : Option Addr) (n c : Nat) : Prop :=
  ∃ k h : Nat, k ≤ n ∧ h < 18446744073709551616 ∧ Box w g 53 #[.slice A n c, .int .i64 k, .int .u64 h] ∧ By w A n ∧ ∀ ad, A = some ad → 0 < n → ad.block < g
theorem Dic.below {w w' : World} {g : Nat} {A : Option Addr} {n c : Nat} (h : Dic w g A n c) (hb : Below w.heap.size w w') : Dic w' g A n c := by
  obtain ⟨k, x, hk, hx, hB, hA, hl⟩ := h
  exact ⟨k, x, hk, hx, hB.below hb hB.lt, hA.below hb, hl⟩
theorem Dic.lt {w : World} {g : Nat} {A : Option Addr} {n c : Nat} (h : Dic w g A n c) : g < w.heap.size := by
  obtain ⟨k, x, hk, hx, hB, hA, hl⟩ := h
  exact hB.lt

theorem below_calls (g : Nat) (A : Option Addr) (n c : Nat) (m : Int) (w : World) (hn : n ≤ 4096) (h : Dic w g A n c) :
    Calls Try.prog 8 #[.pointer (some ⟨g, 0, none⟩), .int .i64 m] w fun e w' => ∃ x : Int, e = .returned (.int .i64 x) ∧ (0 ≤ x ∧ x ≤ 16777470 ∧ (x < m ∨ x = 0)) ∧ Dic w' g A n c ∧ w.grownBy w' (some g) := by
  have hDic := h
  obtain ⟨k, x, hk, hx, hB, hA, hl⟩ := h
  obtain ⟨c0, c1, c2⟩ := hB.three
  have z0 := hB.frozen 0
  have z1 := hB.frozen 1
  have z2 := hB.frozen 2
  by_cases hm1 : m < 1
  · go_enter Try.func8, Try.ntmps8
    go_wp2
    go_ret
    exact ⟨0, rfl, ⟨by omega, by omega, .inr rfl⟩, hDic, World.grownBy.refl _ _⟩
  · obtain ⟨H, hH, eH⟩ := wrapu_is ((x : Int) * 6364136223846793005)
    obtain ⟨y, hy, eY⟩ := mask24 H hH
    have e64 : wrap64 (y : Int) = y := wrap_small _ (by clear eY eH hH hx; omega) (by clear eY eH hH hx; omega)
    have EH := Lib.hid eH
    have EY := Lib.hid eY
    have E64 := Lib.hid e64
    have HH := Lib.hid hH
    clear eH eY e64 hH hx
    go_enter Try.func8, Try.ntmps8
    go_wp2
    simp only [EH.out, EY.out, E64.out]
    have hB1 : Box (w.setCell ⟨g, 2, none⟩ (.int .u64 (H : Int))) g 53 #[.slice A n c, .int .i64 k, .int .u64 H] := hB.set 2 _
    have hG1 := grown_set w g 2 (.int .u64 (H : Int))
    have hA1 := hA.grown hG1 hl
    clear c0 c1 c2 z0 z1 z2 hB hA EH EY E64 hDic
    generalize w.setCell ⟨g, 2, none⟩ (.int .u64 (H : Int)) = w1 at *
    obtain ⟨c0, c1, c2⟩ := hB1.three
    have z1 := hB1.frozen 1
    by_cases hkn : k < n
    · obtain ⟨ad, rfl, hlt, b, hb, hc⟩ := hA1 k hkn
      have hi0 : (0 : Int) ≤ (k : Int) := by omega
      have hi1 : (k : Int) < (n : Int) := by omega
      have E2 := Lib.hid (wrap_small ((y : Int) + b) (by omega) (by omega))
      have E1 := Lib.hid (wrap_small (b : Int) (by omega) (by omega))
      have E3 := Lib.hid (wrap_small ((k : Int) + 1) (by omega) (by omega))
      go_region
      go_wp2
      go_region
      go_wp2
      go_ret
      obtain ⟨t0, t1, t2⟩ := mod_in ((y : Int) + b) m (by omega) (by omega)
      have hG2 := grown_set w1 g 1 (.int .i64 ((k : Int) + 1))
      exact ⟨_, rfl, ⟨t0, by omega, .inl t2⟩, ⟨k + 1, H, hkn, HH.out, hB1.set 1 (.int .i64 ((k : Int) + 1)), hA1.grown (grown_drew (grown_drew hG2)) hl, hl⟩, grown_drew (grown_drew (hG1.trans hG2))⟩
    · have hi1 : ¬ (k : Int) < (n : Int) := by omega
      go_region
      go_wp2
      go_ret
      obtain ⟨t0, t1, t2⟩ := mod_in (y : Int) m (by omega) (by omega)
      exact ⟨_, rfl, ⟨t0, by omega, .inl t2⟩, ⟨k, H, hk, HH.out, hB1, hA1, hl⟩, grown_drew hG1⟩

theorem Dic.drews {w : World} {g : Nat} {A : Option Addr} {n c : Nat} (h : Dic w g A n c) : Dic w.drew g A n c := h
theorem box_dic {w : World} {g n c k : Nat} {h : Int} {A : Option Addr} (hk : k ≤ n) (hU : U64 h) (hB : Box w g 53 #[.slice A n c, .int .i64 k, .int .u64 h]) (hA : By w A n) (hl : ∀ ad, A = some ad → 0 < n → ad.block < g) : Dic w g A n c := by
  obtain ⟨H, hH, rfl⟩ := hU
  exact ⟨k, H, hk, hH, hB, hA, hl⟩
theorem Dic.alloc {w : World} {g : Nat} {A : Option Addr} {n c : Nat} (h : Dic w g A n c) (o : Obj) : Dic (w.alloc o) g A n c := h.below ((Below.refl _ _).alloc (Nat.le_refl _) _)

theorem u64_dice (n : Nat) (hn : n ≤ 4096) : U64 (82546853 + (n : Int)) := ⟨82546853 + n, by omega, by omega⟩
theorem roll_calls (A : Option Addr) (n c : Nat) (w : World) (hn : n ≤ 4096) (hA : By w A n) (hl : ∀ ad, A = some ad → 0 < n → ad.block < w.heap.size) :
    Calls Try.prog 7 #[.slice A n c, .int .u64 9949] w fun e w' => ∃ g, e = .returned (.pointer (some ⟨g, 0, none⟩)) ∧ w.heap.size ≤ g ∧ Dic w' g A n c ∧ Below w.heap.size w w' := by
  have HA := Lib.hid hA
  have HL := Lib.hid hl
  have HU := Lib.hid (u64_dice n hn)
  have HN := Lib.hid hn
  clear hA hl hn
  have hN0 : (n : Int) ≤ 4096 := by have := HN.out; omega
  go_enter Try.func7, Try.ntmps7
  go_wp2
  have hB0 := Box.new w 53 #[.slice A n c, .int .i64 0, .int .u64 (82546853 + (n : Int))]
  have hb0 : Below w.heap.size w (w.alloc (.cells #[.slice A n c, .int .i64 0, .int .u64 (82546853 + (n : Int))] 53)) := (Below.refl _ _).alloc (Nat.le_refl _) _
  go_loopw [6] (fun i wr => ∃ (k : Nat) (h : Int), k ≤ n ∧ Hid (U64 h) ∧ i = .int .i64 (k : Int) ∧ Box wr w.heap.size 53 #[.slice A n c, .int .i64 0, .int .u64 h] ∧ Below w.heap.size w wr) (fun i _ => n - (intOf i).toNat)
  case atStart => exact ⟨0, _, Nat.zero_le _, HU, rfl, hB0, hb0⟩
  case round =>
    obtain ⟨k, h, hk, hU, rfl, hB, hb⟩ := hrel
    obtain ⟨c0, c1, c2⟩ := hB.three
    have z2 := hB.frozen 2
    have hi0 : (0 : Int) ≤ (k : Int) := by omega
    by_cases hkn : k < n
    · obtain ⟨ad, rfl, hlt, b, hb8, hc⟩ := HA.out.below hb k hkn
      have hi1 : (k : Int) < (n : Int) := by omega
      have hi2 : True := trivial
      go_wp2
      go_region
      go_wp2
      exact ⟨⟨k + 1, _, hkn, Lib.hid (u64_wrap (IntKind.u64.wrap (IntKind.u64.wrap (h * 1099511628211) + (b : Int)) + 5)), rfl, hB.set 2 (.int .u64 (IntKind.u64.wrap (IntKind.u64.wrap (IntKind.u64.wrap (h * 1099511628211) + (b : Int)) + 5))), (below_set hb (Nat.le_refl _) _).drew⟩, by simp only [intOf]; omega⟩
    · have hi1 : ¬ (k : Int) < (n : Int) := by omega
      go_wp2
      go_ret
      exact ⟨_, rfl, Nat.le_refl _, box_dic (k := 0) (Nat.zero_le _) hU.out hB (HA.out.below hb) HL.out, hb⟩

end Go.Proofs.Ytbcgomimfgggnaa

namespace Go.Proofs.Ytbcgomimfgggnaa
open Go.RowKit
set_option linter.unusedVariables false
set_option maxRecDepth 100000

theorem grown_then {w w1 w2 : World} {row row2 : Option Nat} (h : w.grownBy w1 row) (h2 : w1.grownBy w2 row2) (hr : ∀ k, row2 = some k → w.heap.size ≤ k) : w.grownBy w2 row :=
  ⟨h2.os.trans h.os, h2.tape.trans h.tape, h2.output.trans h.output, Nat.le_trans h.size h2.size, fun k hk hne => (h2.block k (Nat.lt_of_lt_of_le hk h.size) (fun e => by have := hr k e.symm; omega)).trans (h.block k hk hne)⟩
theorem grown_setNew {w w1 : World} {row : Option Nat} (h : w.grownBy w1 row) {b i : Nat} (hb : w.heap.size ≤ b) (u : Value) : w.grownBy (w1.setCell ⟨b, i, none⟩ u) row :=
  grown_then h (grown_set w1 b i u) (fun k hk => by injection hk with hk; omega)
theorem grown_alloc {w w1 : World} {row : Option Nat} (h : w.grownBy w1 row) (o : Obj) : w.grownBy (w1.alloc o) row := h.trans (World.grownBy_alloc _ _ _)
theorem own_src {B g n c m d : Nat} {w : World} {A A' : Option Addr} {L : List Int} (h : Own B w A' m d L) (hs : Src w g A n c) : ∀ g', A' = some ⟨g', 0, none⟩ → some g ≠ some g' := by
  obtain ⟨k, x, hk, hx, hB, hA, hl⟩ := hs
  rintro g' rfl he
  injection he with he
  exact h.ne_box hB (by decide) he.symm
theorem Src.grownRow {g n c B : Nat} {w w1 : World} {A A' : Option Addr} {m d : Nat} {L : List Int} {o : Obj} (hs : Src w g A n c) (h : Own B w A' m d L) (hB : g < B) (hg : (w.alloc o).grownBy w1 (Value.slice A' m d).ownBlock) : Src w1 g A n c := by
  obtain ⟨k, x, hk, hx, hX, hA, hl⟩ := hs
  refine ⟨k, x, hk, hx, OwnG.grown_box (show OwnG 2 1 B w A' m d (L.map (Value.int .i64)) from h) hg hX (by decide), ?_, hl⟩
  have hA2 := hA.below ((Below.refl w.heap.size w).alloc (Nat.le_refl _) o)
  intro j hj
  obtain ⟨ad, rfl, hlt, b, hb8, hc⟩ := hA2 j hj
  refine ⟨ad, rfl, Nat.lt_of_lt_of_le hlt hg.size, b, hb8, hg.cell hc ?_⟩
  rw [add_block]
  intro e
  have := own_bk h _ e.symm
  have := hl _ rfl (by omega)
  omega
theorem Src.setNew {g n c b i : Nat} {w : World} {A : Option Addr} (hs : Src w g A n c) (hb : b ≠ g) (hlt : g < b) (u : Value) : Src (w.setCell ⟨b, i, none⟩ u) g A n c := by
  obtain ⟨k, x, hk, hx, hX, hA, hl⟩ := hs
  exact ⟨k, x, hk, hx, hX.other (fun e => hb e.symm) u, hA.grown (grown_set w b i u) (fun ad e h0 => by have := hl ad e h0; omega), hl⟩

set_option maxHeartbeats 400000 in
theorem l01DrawSize_calls (g : Nat) (A : Option Addr) (n c : Nat) (w : World) (hn : n ≤ 4096) (h : Src w g A n c) :
    Calls Try.prog 98 #[.pointer (some ⟨g, 0, none⟩)] w fun e w' => ∃ k m : Int, e = .returned (.tuple #[.int .i64 k, .int .i64 m]) ∧ (3 ≤ k ∧ k ≤ 5) ∧ (0 ≤ m ∧ m ≤ 8) ∧ Src w' g A n c ∧ w.grownBy w' (some g) := by
  have HS0 := Lib.hid h
  clear h
  go_enter Try.func98, Try.ntmps98
  go_wp2_with fail
  have hlt := HS0.out.lt
  refine (l01Pick_calls g A n c _ 6 _ [3, 3, 3, 4, 4, 5] _ hn (by omega) (by omega) rfl (ints_new w 2 _) (fun ad e => by injection e with e; subst e; simp only; omega) (HS0.out.alloc _)).mono ?_
  rintro e w1 ⟨k, rfl, hx, hS, hG⟩
  have HS1 := Lib.hid hS
  have HG1 := Lib.hid ((World.grownBy_alloc w (.cells (([3, 3, 3, 4, 4, 5] : List Int).map (Value.int .i64)).toArray 2) _).trans hG)
  have hk : 3 ≤ k ∧ k ≤ 5 := by simp only [List.mem_cons, List.not_mem_nil, or_false] at hx; omega
  clear hx hS hG hlt HS0
  go_wp2_with fail
  have hlt := HS1.out.lt
  refine (l01Pick_calls g A n c _ 3 _ [4, 5, 5] _ hn (by omega) (by omega) rfl (ints_new w1 2 _) (fun ad e => by injection e with e; subst e; simp only; omega) (HS1.out.alloc _)).mono ?_
  rintro e w2 ⟨v, rfl, hx, hS, hG⟩
  have HS2 := Lib.hid hS
  have HG2 := Lib.hid ((grown_alloc HG1.out _).trans hG)
  have hv : 4 ≤ v ∧ v ≤ 8 := by simp only [List.mem_cons, List.not_mem_nil, or_false] at hx; omega
  clear hx hS hG hlt HS1 HG1
  by_cases h3 : k = 3
  · subst h3
    go_wp2_with fail
    have hlt := HS2.out.lt
    refine (l01Pick_calls g A n c _ 3 _ [4, 6, 8] _ hn (by omega) (by omega) rfl (ints_new w2 2 _) (fun ad e => by injection e with e; subst e; simp only; omega) (HS2.out.alloc _)).mono ?_
    rintro e w3 ⟨v2, rfl, hx, hS, hG⟩
    have HS3 := Lib.hid hS
    have HG3 := Lib.hid ((grown_alloc HG2.out _).trans hG)
    have hv2 : 4 ≤ v2 ∧ v2 ≤ 8 := by simp only [List.mem_cons, List.not_mem_nil, or_false] at hx; omega
    clear hx hS hG hlt HS2 HG2 hv
    go_wp2_with fail
    refine (l01Next_calls g A n c (v2 + 1) _ hn HS3.out).mono ?_
    rintro e w4 ⟨x, rfl, hx, hS, hG⟩
    have HS4 := Lib.hid hS
    have HG4 := Lib.hid (HG3.out.trans hG)
    clear hS hG
    go_wp2
    go_ret2
    exact ⟨_, _, rfl, by omega, by omega, HS4.out, HG4.out⟩
  · have hd : (k == 3) = false := by simpa using h3
    go_wp2_with fail
    refine (l01Next_calls g A n c (v + 1) _ hn HS2.out).mono ?_
    rintro e w4 ⟨x, rfl, hx, hS, hG⟩
    have HS4 := Lib.hid hS
    have HG4 := Lib.hid (HG2.out.trans hG)
    clear hS hG
    go_wp2
    go_ret2
    exact ⟨_, _, rfl, by omega, by omega, HS4.out, HG4.out⟩

set_option maxHeartbeats 4000000 in
theorem l01DrawOf_calls (g : Nat) (A : Option Addr) (n c : Nat) (k : Int) (m : Nat) (w : World) (hn : n ≤ 4096) (h : Src w g A n c) (hk : 1 ≤ k ∧ k ≤ 5) (hm : m ≤ 9) :
    Calls Try.prog 80 #[.pointer (some ⟨g, 0, none⟩), .int .i64 k, .int .i64 m] w fun e w' => ∃ A' c' L, e = .returned (.agg #[.int .i64 k, .slice A' m c']) ∧ Own w.heap.size w' A' m c' L ∧ (∀ x ∈ L, 0 ≤ x ∧ x ≤ k - 1) ∧ Src w' g A n c ∧ w.grownBy w' (some g) := by
  obtain ⟨i0, hi, hz0, hz1q, hz2⟩ := info_parts Try.infoI
  have hgw := h.lt
  have HS0 := Lib.hid ((h.alloc (.cells #[.int .i64 0, .slice none 0 0] 30)).alloc (.cells #[] 2))
  have X0 := Lib.hid ((Box.new w 30 #[.int .i64 0, .slice none 0 0]).alloc (.cells #[] 2))
  have Y0 : Hid (Box ((w.alloc (.cells #[.int .i64 0, .slice none 0 0] 30)).alloc (.cells #[] 2)) (w.heap.size + 1) 2 #[]) := by
    have := Box.new (w.alloc (.cells #[.int .i64 0, .slice none 0 0] 30)) 2 #[]
    rw [World.size_alloc] at this
    exact this
  have HG0 := Lib.hid (grown_alloc (grown_alloc (World.grownBy.refl w (some g)) (.cells #[.int .i64 0, .slice none 0 0] 30)) (.cells #[] 2))
  have hs0 : ((w.alloc (.cells #[.int .i64 0, .slice none 0 0] 30)).alloc (.cells #[] 2)).heap.size = w.heap.size + 2 := by simp
  clear h
  go_enter Try.func80, Try.ntmps80
  go_wp2_with fail
  generalize (w.alloc (.cells #[.int .i64 0, .slice none 0 0] 30)).alloc (.cells #[] 2) = W0 at *
  refine (l01Next_calls g A n c k _ hn HS0.out).mono ?_
  rintro e w1 ⟨v, rfl, hv, hS, hG⟩
  have hv1 : 0 ≤ v ∧ v ≤ k - 1 := by omega
  have BX := Lib.hid (Box.new w1 30 #[.int .i64 k, .slice (some ⟨w.heap.size + 1, 0, none⟩) 0 0])
  have X1 := Lib.hid ((X0.out.grown hG (by intro e; injection e with e; omega)).alloc (.cells #[.int .i64 k, .slice (some ⟨w.heap.size + 1, 0, none⟩) 0 0] 30))
  have Y1 := Lib.hid ((Y0.out.grown hG (by intro e; injection e with e; omega)).alloc (.cells #[.int .i64 k, .slice (some ⟨w.heap.size + 1, 0, none⟩) 0 0] 30))
  have HS1 := Lib.hid (hS.alloc (.cells #[.int .i64 k, .slice (some ⟨w.heap.size + 1, 0, none⟩) 0 0] 30))
  have HG1 := Lib.hid (grown_alloc (HG0.out.trans hG) (.cells #[.int .i64 k, .slice (some ⟨w.heap.size + 1, 0, none⟩) 0 0] 30))
  have hs1 : w.heap.size + 2 ≤ w1.heap.size := by have := hG.size; omega
  clear hv hS hG X0 Y0 HS0 HG0
  go_wp2_with fail
  generalize hW1 : w1.alloc (.cells #[.int .i64 k, .slice (some ⟨w.heap.size + 1, 0, none⟩) 0 0] 30) = W1 at *
  have hz1 : W1.heap.size = w1.heap.size + 1 := by rw [← hW1, World.size_alloc]
  clear hW1
  generalize w1.heap.size = bx at *
  have hlt := HS1.out.lt
  refine (l01Pick_calls g A n c _ 4 _ [1, 1, 2, 5] _ hn (by omega) (by omega) rfl (by have := ints_new W1 2 [1, 1, 2, 5]; rw [hz1] at this; exact this) (fun ad e => by injection e with e; subst e; simp only; omega) (HS1.out.alloc _)).mono ?_
  rintro e w2 ⟨st, rfl, hx, hS, hG⟩
  have HS2 := Lib.hid hS
  have BX2 := Lib.hid ((BX.out.alloc _).grown hG (by intro e; injection e with e; omega))
  have X2 := Lib.hid ((X1.out.alloc _).grown hG (by intro e; injection e with e; omega))
  have Y2 := Lib.hid ((Y1.out.alloc _).grown hG (by intro e; injection e with e; omega))
  have HG2 := Lib.hid ((grown_alloc HG1.out _).trans hG)
  clear hx hS hG hlt X1 Y1 BX HS1 HG1
  go_wp2
  go_loopw [2, 8] (fun q v wr => ∃ (j : Nat) (u : Int), j ≤ m ∧ q = .int .i64 ((m : Int) - j) ∧ v = .int .i64 u ∧ (0 ≤ u ∧ u ≤ k - 1) ∧ (∃ A' c' L, Box wr bx 30 #[.int .i64 k, .slice A' j c'] ∧ Own (w.heap.size + 1) wr A' j c' L ∧ ∀ x ∈ L, 0 ≤ x ∧ x ≤ k - 1) ∧ Box wr w.heap.size 30 #[.int .i64 0, .slice none 0 0] ∧ Src wr g A n c ∧ w.grownBy wr (some g)) (fun q _ _ => (intOf q).toNat)
  case atStart => exact ⟨0, v, Nat.zero_le _, by simp, rfl, hv1, ⟨_, _, [], BX2.out, Own.emptyAt Y2.out (Nat.le_refl _), fun x hx => absurd hx (by simp)⟩, X2.out, HS2.out, HG2.out⟩
  case round =>
    obtain ⟨j, u, hj, rfl, rfl, hu, ⟨A', c', L, hb, ho, hl⟩, hx, hs, hg⟩ := hrel
    have BX := Lib.hid hb
    have O := Lib.hid ho
    have HLM := Lib.hid hl
    have X := Lib.hid hx
    have HS := Lib.hid hs
    have HG := Lib.hid hg
    have hsz := hg.size
    clear hb ho hl hx hs hg BX2 X2 Y2 HS2 HG2
    by_cases hlt : j < m
    · have hlt2 : (0 : Int) < (m : Int) - j := by omega
      go_wp2_with fail
      refine (l01Next_calls g A n c st _ hn HS.out).mono ?_
      rintro e w3 ⟨x, rfl, hx, hS, hG⟩
      have hne : ∀ b, g < b → some b ≠ some g := fun b hb e => by injection e with e; omega
      have HS3 := Lib.hid hS
      have BX3 := Lib.hid (BX.out.grown hG (hne _ (by omega)))
      have X3 := Lib.hid (X.out.grown hG (hne _ hgw))
      have O3 := Lib.hid (O.out.kept hG (own_src O.out HS.out))
      have HG3 := Lib.hid (HG.out.trans hG)
      have hsz3 := HG3.out.size
      clear hx hS hG BX X O HS HG
      by_cases hx0 : x = 0
      · have ht : (x == 0) = true := by simpa using hx0
        clear hx0
        go_wp2_with fail
        refine (l01Next_calls g A n c k _ hn HS3.out).mono ?_
        rintro e w4 ⟨u2, rfl, hx, hS, hG⟩
        have hu2 : 0 ≤ u2 ∧ u2 ≤ k - 1 := by omega
        have HS4 := Lib.hid hS
        have BX4 := Lib.hid (BX3.out.grown hG (hne _ (by omega)))
        have X4 := Lib.hid (X3.out.grown hG (hne _ hgw))
        have O4 := Lib.hid (O3.out.kept hG (own_src O3.out HS3.out))
        have HG4 := Lib.hid (HG3.out.trans hG)
        have hsz4 := HG4.out.size
        clear hx hS hG BX3 X3 O3 HS3 HG3 ht
        obtain ⟨b0, b1, bf0, bf1⟩ := BX4.out.two
        go_wp2_with (at_builtin; refine wpList_append_own _ rfl _ _ 28 rfl (w.heap.size + 1) 2 i0 (.int .i64 0) 1 8 Try.underlying28 hi hz0 hz1q hz2 rfl (by decide) _ _ _ rfl (OwnG.alloc (show OwnG 2 1 (w.heap.size + 1) w4 A' j c' (L.map (Value.int .i64)) from O4.out) _) ⟨w4.heap.size, 0, none⟩ 1 1 [.int .i64 u2] rfl rfl (cell_one_new _ _ _) (by simp [Value.oneCell']) (by unfold maxLen; omega) (by omega) (by simp; omega) ?_; intro v' w6 hown' hgrow _; obtain ⟨A6, c6, rfl⟩ := ownG_shape hown'; have HP := Lib.hid (Own.pushed O4.out hgrow hown'); have HS6 := Lib.hid (HS4.out.grownRow O4.out (by omega) hgrow); have HGR := Lib.hid hgrow; have HBc := (HP.out.2.1 _ _ _ BX4.out (by decide)).two; clear hown' hgrow)
        obtain ⟨d0, d1, df0, df1⟩ := HBc
        go_wp2
        go_roundw
        case rel =>
          refine ⟨j + 1, u2, by omega, by go_num, rfl, hu2, ⟨A6, c6, L ++ [u2], (HP.out.2.1 _ _ _ BX4.out (by decide)).set 1 _, HP.out.1.setBoxed (HP.out.2.1 _ _ _ BX4.out (by decide)) (by decide) _ _, ?_⟩, (HP.out.2.1 _ _ _ X4.out (by decide)).other (by show w.heap.size ≠ bx; omega) _, HS6.out.setNew (by omega) (by omega) _, ?_⟩
          · intro x hx
            rcases List.mem_append.1 hx with h | h
            · exact HLM.out x h
            · simp only [List.mem_singleton] at h
              rw [h]
              exact hu2
          · exact grown_setNew (grown_then (grown_alloc HG4.out _) HGR.out (fun k hk => by have := own_bk O4.out k hk; omega)) (by omega) _
        case measure => simp [intOf]; omega
      · have ht : (x == 0) = false := by simpa using hx0
        clear hx0
        obtain ⟨b0, b1, bf0, bf1⟩ := BX3.out.two
        go_wp2_with (at_builtin; refine wpList_append_own _ rfl _ _ 28 rfl (w.heap.size + 1) 2 i0 (.int .i64 0) 1 8 Try.underlying28 hi hz0 hz1q hz2 rfl (by decide) _ _ _ rfl (OwnG.alloc (show OwnG 2 1 (w.heap.size + 1) w3 A' j c' (L.map (Value.int .i64)) from O3.out) _) ⟨w3.heap.size, 0, none⟩ 1 1 [.int .i64 u] rfl rfl (cell_one_new _ _ _) (by simp [Value.oneCell']) (by unfold maxLen; omega) (by omega) (by simp; omega) ?_; intro v' w6 hown' hgrow _; obtain ⟨A6, c6, rfl⟩ := ownG_shape hown'; have HP := Lib.hid (Own.pushed O3.out hgrow hown'); have HS6 := Lib.hid (HS3.out.grownRow O3.out (by omega) hgrow); have HGR := Lib.hid hgrow; have HBc := (HP.out.2.1 _ _ _ BX3.out (by decide)).two; clear hown' hgrow)
        obtain ⟨d0, d1, df0, df1⟩ := HBc
        go_wp2
        go_roundw
        case rel =>
          refine ⟨j + 1, u, by omega, by go_num, rfl, hu, ⟨A6, c6, L ++ [u], (HP.out.2.1 _ _ _ BX3.out (by decide)).set 1 _, HP.out.1.setBoxed (HP.out.2.1 _ _ _ BX3.out (by decide)) (by decide) _ _, ?_⟩, (HP.out.2.1 _ _ _ X3.out (by decide)).other (by show w.heap.size ≠ bx; omega) _, HS6.out.setNew (by omega) (by omega) _, ?_⟩
          · intro x hx
            rcases List.mem_append.1 hx with h | h
            · exact HLM.out x h
            · simp only [List.mem_singleton] at h
              rw [h]
              exact hu
          · exact grown_setNew (grown_then (grown_alloc HG3.out _) HGR.out (fun k hk => by have := own_bk O3.out k hk; omega)) (by omega) _
        case measure => simp [intOf]; omega
    · obtain rfl : j = m := by omega
      have hlt2 : ¬ (0 : Int) < (j : Int) - j := by omega
      obtain ⟨b0, b1, _, _⟩ := BX.out.two
      obtain ⟨r0, r1, rf0, rf1⟩ := X.out.two
      go_wp2
      refine bodyPost_ret (v := .agg #[.int .i64 k, .slice A' j c']) (by simp [results, Try.results80, go_sem, r0, r1]) rfl ⟨A', c', rfl, L, ?_, HLM.out, ?_, ?_⟩
      · exact ((O.out.setBoxed X.out (by decide) _ _).setBoxed (X.out.set _ _) (by decide) _ _).mono (by omega)
      · exact (HS.out.setNew (by omega) hgw _).setNew (by omega) hgw _
      · exact grown_setNew (grown_setNew HG.out (Nat.le_refl _) _) (Nat.le_refl _) _

/-- A state that has been drawn into memory of the call's own. -/
def RetDr (w : World) (g : Nat) (A : Option Addr) (n c : Nat) (Q : Int → List Int → Prop) (e : Ending) (w' : World) : Prop :=
  ∃ (p : Int) (A' : Option Addr) (m c' : Nat) (L : List Int), e = .returned (.agg #[.int .i64 p, .slice A' m c']) ∧ Own w.heap.size w' A' m c' L ∧ m ≤ 10 ∧ Q p L ∧ Src w' g A n c ∧ w.grownBy w' (some g)
def okDr (p : Int) (L : List Int) : Prop := (3 ≤ p ∧ p ≤ 5) ∧ (∀ x ∈ L, 0 ≤ x ∧ x ≤ p - 1) ∧ L.length ≤ 8

set_option maxHeartbeats 1000000 in
theorem l01Draw_ret (g : Nat) (A : Option Addr) (n c : Nat) (w : World) (hn : n ≤ 4096) (h : Src w g A n c) :
    Calls Try.prog 97 #[.pointer (some ⟨g, 0, none⟩)] w (RetDr w g A n c okDr) := by
  have hgw := h.lt
  have HS0 := Lib.hid (h.alloc (.cells #[.int .i64 0, .slice none 0 0] 30))
  have X0 := Lib.hid (Box.new w 30 #[.int .i64 0, .slice none 0 0])
  have HG0 := Lib.hid (grown_alloc (World.grownBy.refl w (some g)) (.cells #[.int .i64 0, .slice none 0 0] 30))
  have hne : some w.heap.size ≠ some g := fun e => by injection e with e; omega
  clear h
  go_enter Try.func97, Try.ntmps97
  go_wp2_with fail
  refine (l01DrawSize_calls g A n c _ hn HS0.out).mono ?_
  rintro e w1 ⟨k, m, rfl, hk, hm, hS, hG⟩
  have HS1 := Lib.hid hS
  have X1 := Lib.hid (X0.out.grown hG hne)
  have HG1 := Lib.hid (HG0.out.trans hG)
  have hs1 := HG1.out.size
  clear hS hG HS0 X0 HG0
  obtain ⟨j, rfl⟩ := Int.eq_ofNat_of_zero_le hm.1
  go_wp2_with fail
  refine (l01DrawOf_calls g A n c k j _ hn HS1.out (by omega) (by omega)).mono ?_
  rintro e w2 ⟨A', c', L, rfl, hO, hl, hS, hG⟩
  have HS2 := Lib.hid hS
  have X2 := Lib.hid (X1.out.grown hG hne)
  have HG2 := Lib.hid (HG1.out.trans hG)
  have O2 := Lib.hid (hO.mono hs1)
  have HLM := Lib.hid hl
  have HLn := Lib.hid (Own.len hO)
  clear hS hG hO hl HS1 X1 HG1
  obtain ⟨r0, r1, rf0, rf1⟩ := X2.out.two
  go_wp2
  refine bodyPost_ret (v := .agg #[.int .i64 k, .slice A' j c']) (by simp [results, Try.results97, go_sem, r0, r1]) rfl ⟨k, A', j, c', L, rfl, ?_, by omega, ⟨hk, HLM.out, by have := HLn.out; omega⟩, ?_, ?_⟩
  · exact (O2.out.setBoxed X2.out (by decide) _ _).setBoxed (X2.out.set _ _) (by decide) _ _
  · exact (HS2.out.setNew (by omega) hgw _).setNew (by omega) hgw _
  · exact grown_setNew (grown_setNew HG2.out (Nat.le_refl _) _) (Nat.le_refl _) _

end Go.Proofs.Ytbcgomimfgggnaa

namespace Go.Proofs.Ytbcgomimfgggnaa
open Go.RowKit
set_option linter.unusedVariables false
set_option maxRecDepth 100000

def RetBd (B0 : Nat) (w : World) (g : Nat) (A : Option Addr) (n c : Nat) (e : Ending) (w' : World) : Prop :=
  ∃ (p' : Int) (A' : Option Addr) (m' c' : Nat) (L' : List Int), e = .returned (.agg #[.int .i64 p', .slice A' m' c']) ∧ Own B0 w' A' m' c' L' ∧ m' ≤ 10 ∧ True ∧ Src w' g A n c ∧ w.grownBy w' (some g)
def lenVB : Value → Nat
  | .slice _ n _ => n
  | _ => 0

set_option maxHeartbeats 8000000 in
theorem l01Bad_ret (g : Nat) (A : Option Addr) (n c : Nat) (p : Int) (Ax : Option Addr) (m cx B0 : Nat) (L : List Int) (w : World) (hn : n ≤ 4096) (h : Src w g A n c) (hO : Own B0 w Ax m cx L) (hm : m ≤ 9) (hB0 : B0 ≤ w.heap.size) (hgB : g < B0) :
    Calls Try.prog 96 #[.pointer (some ⟨g, 0, none⟩), .agg #[.int .i64 p, .slice Ax m cx]] w (RetBd B0 w g A n c) := by
  obtain ⟨i0, hi, hz0, hz1q, hz2⟩ := info_parts Try.infoI
  have hgw := h.lt
  have HLn := Lib.hid (Own.len hO)
  have hAx : Ax = none → cx = 0 := fun e => by
    rcases hO.form with ⟨_, _, h3⟩ | ⟨_, h, _⟩
    · exact h3
    · rw [e] at h; cases h
  have hal : Below w.heap.size w ((w.alloc (.cells #[.int .i64 p, .slice Ax m cx] 30)).alloc (.cells #[.int .i64 0, .slice none 0 0] 30)) := ((Below.refl _ _).alloc (Nat.le_refl _) _).alloc (by simp) _
  have X0 := Lib.hid ((Box.new w 30 #[.int .i64 p, .slice Ax m cx]).alloc (.cells #[.int .i64 0, .slice none 0 0] 30))
  have Z0 : Hid (Box ((w.alloc (.cells #[.int .i64 p, .slice Ax m cx] 30)).alloc (.cells #[.int .i64 0, .slice none 0 0] 30)) (w.heap.size + 1) 30 #[.int .i64 0, .slice none 0 0]) := by
    have := Box.new (w.alloc (.cells #[.int .i64 p, .slice Ax m cx] 30)) 30 #[.int .i64 0, .slice none 0 0]
    rw [World.size_alloc] at this
    exact this
  have HS0 := Lib.hid ((h.alloc (.cells #[.int .i64 p, .slice Ax m cx] 30)).alloc (.cells #[.int .i64 0, .slice none 0 0] 30))
  have O0 := Lib.hid (hO.below hal)
  have HG0 := Lib.hid (grown_alloc (grown_alloc (World.grownBy.refl w (some g)) (.cells #[.int .i64 p, .slice Ax m cx] 30)) (.cells #[.int .i64 0, .slice none 0 0] 30))
  have hs0 : ((w.alloc (.cells #[.int .i64 p, .slice Ax m cx] 30)).alloc (.cells #[.int .i64 0, .slice none 0 0] 30)).heap.size = w.heap.size + 2 := by simp
  have hne : ∀ b, g < b → some b ≠ some g := fun b hb e => by injection e with e; omega
  clear h hO hal
  go_enter Try.func96, Try.ntmps96
  go_wp2_with fail
  generalize (w.alloc (.cells #[.int .i64 p, .slice Ax m cx] 30)).alloc (.cells #[.int .i64 0, .slice none 0 0] 30) = W0 at *
  refine (l01Own_calls Ax m cx L _ HLn.out (by omega) hAx O0.out.ints).mono ?_
  rintro e w1 ⟨Ad, cd, rfl, hO, hb⟩
  have X1 := Lib.hid (X0.out.below hb X0.out.lt)
  have Z1 := Lib.hid (Z0.out.below hb Z0.out.lt)
  have HS1 := Lib.hid (HS0.out.below hb)
  have O1 := Lib.hid (O0.out.below hb)
  have D1 := Lib.hid hO
  have HG1 := Lib.hid (grown_then HG0.out (row2 := none) ⟨hb.os, hb.tape, hb.output, hb.size, fun k hk _ => hb.block k hk⟩ (fun k hk => by cases hk))
  have hs1 := hb.size
  clear hO hb X0 Z0 HS0 O0 HG0
  go_wp2_with fail
  refine (l01Next_calls g A n c 50 _ hn HS1.out).mono ?_
  rintro e w2 ⟨x, rfl, hx, hS, hG⟩
  have HS2 := Lib.hid hS
  have X2 := Lib.hid (X1.out.grown hG (hne _ (by omega)))
  have Z2 := Lib.hid (Z1.out.grown hG (hne _ (by omega)))
  have O2 := Lib.hid (O1.out.kept hG (own_src O1.out HS1.out))
  have D2 := Lib.hid (D1.out.kept hG (own_src D1.out HS1.out))
  have HG2 := Lib.hid (HG1.out.trans hG)
  have hs2 := hG.size
  clear hS hG X1 Z1 HS1 O1 D1 HG1
  by_cases h0 : x = 0
  · subst h0
    go_wp2_with fail
    have hlt := HS2.out.lt
    refine (l01Pick_calls g A n c _ 4 _ [0, 2, 6, 1099511627776] _ hn (by omega) (by omega) rfl (ints_new w2 2 _) (fun ad e => by injection e with e; subst e; simp only; omega) (HS2.out.alloc _)).mono ?_
    rintro e w3 ⟨pp, rfl, hx3, hS, hG⟩
    have HS3 := Lib.hid hS
    have X3 := Lib.hid ((X2.out.alloc _).grown hG (hne _ (by omega)))
    have Z3 := Lib.hid ((Z2.out.alloc _).grown hG (hne _ (by omega)))
    have D3a := D2.out.below ((Below.refl _ _).alloc (Nat.le_refl _) (.cells (([0, 2, 6, 1099511627776] : List Int).map (Value.int .i64)).toArray 2))
    have D3 := Lib.hid (D3a.kept hG (own_src D3a (HS2.out.alloc _)))
    have HG3 := Lib.hid ((grown_alloc HG2.out _).trans hG)
    clear hx3 hS hG X2 Z2 HS2 O2 D2 HG2 D3a
    obtain ⟨x0, x1, _, _⟩ := X3.out.two
    obtain ⟨r0, r1, rf0, rf1⟩ := Z3.out.two
    go_wp2
    have hZ2 := Lib.hid ((Z3.out.set 0 (.int .i64 pp)).set 1 (.slice Ad m cd))
    obtain ⟨q0, q1, _, _⟩ := Box.two (show Box _ (w.heap.size + 1) 30 #[.int .i64 pp, .slice Ad m cd] from hZ2.out)
    refine bodyPost_ret (v := .agg #[.int .i64 pp, .slice Ad m cd]) (by simp [results, Try.results96, go_sem, q0, q1]) rfl ⟨pp, Ad, _, cd, L, rfl, ?_, by omega, trivial, ?_, ?_⟩
    · exact ((D3.out.mono (by omega)).setBoxed Z3.out (by decide) _ _).setBoxed (Z3.out.set _ _) (by decide) _ _
    · exact (HS3.out.setNew (by omega) (by omega) _).setNew (by omega) (by omega) _
    · exact grown_setNew (grown_setNew HG3.out (by omega) _) (by omega) _
  · have e0 : (x == 0) = false := by simpa using h0
    by_cases h1 : x = 1
    · subst h1
      obtain ⟨x0, x1, _, _⟩ := X2.out.two
      go_wp2_with (at_builtin; refine wpList_append_own _ rfl _ _ 28 rfl W0.heap.size 2 i0 (.int .i64 0) 1 8 Try.underlying28 hi hz0 hz1q hz2 rfl (by decide) _ _ _ rfl (OwnG.alloc (show OwnG 2 1 W0.heap.size w2 Ad m cd (L.map (Value.int .i64)) from D2.out) _) ⟨w2.heap.size, 0, none⟩ 1 1 [.int .i64 p] rfl rfl (cell_one_new _ _ _) (by simp [Value.oneCell']) (by unfold maxLen; omega) (by omega) (by simp; omega) ?_; intro v' w6 hown' hgrow _; obtain ⟨A6, c6, rfl⟩ := ownG_shape hown'; have HP := Lib.hid (Own.pushed D2.out hgrow hown'); have HS6 := Lib.hid (HS2.out.grownRow D2.out (by omega) hgrow); have X6 := Lib.hid (HP.out.2.1 _ _ _ X2.out (by decide)); have Z6 := Lib.hid (HP.out.2.1 _ _ _ Z2.out (by decide)); have HG6 := Lib.hid (grown_then (grown_alloc HG2.out _) hgrow (fun k hk => by have := own_bk D2.out k hk; omega)); have X6c := X6.out.two; have Z6c := Z6.out.two; clear hown' hgrow)
      obtain ⟨x0, x1, _, _⟩ := X6c
      obtain ⟨r0, r1, rf0, rf1⟩ := Z6c
      go_wp2
      have hZ2 := Lib.hid ((Z6.out.set 0 (.int .i64 p)).set 1 (.slice A6 (m + 1) c6))
      obtain ⟨q0, q1, _, _⟩ := Box.two (show Box _ (w.heap.size + 1) 30 #[.int .i64 p, .slice A6 (m + 1) c6] from hZ2.out)
      refine bodyPost_ret (v := .agg #[.int .i64 p, .slice A6 (m + 1) c6]) (by simp [results, Try.results96, go_sem, q0, q1]) rfl ⟨p, A6, _, c6, (L ++ [p]), rfl, ?_, by omega, trivial, ?_, ?_⟩
      · exact ((HP.out.1.mono (by omega)).setBoxed Z6.out (by decide) _ _).setBoxed (Z6.out.set _ _) (by decide) _ _
      · exact (HS6.out.setNew (by omega) (by omega) _).setNew (by omega) (by omega) _
      · exact grown_setNew (grown_setNew HG6.out (by omega) _) (by omega) _
    · have e1 : (x == 1) = false := by simpa using h1
      by_cases h2 : x = 2
      · subst h2
        go_wp2
        go_loopw [5] (fun v wr => ∃ (A' : Option Addr) (q c' : Nat) (L' : List Int), v = .slice A' q c' ∧ q ≤ 9 ∧ Own W0.heap.size wr A' q c' L' ∧ Box wr w.heap.size 30 #[.int .i64 p, .slice Ax m cx] ∧ Box wr (w.heap.size + 1) 30 #[.int .i64 0, .slice none 0 0] ∧ Src wr g A n c ∧ w.grownBy wr (some g) ∧ W0.heap.size ≤ wr.heap.size) (fun v _ => 9 - lenVB v)
        case atStart => exact ⟨Ad, m, cd, L, rfl, hm, D2.out, X2.out, Z2.out, HS2.out, HG2.out, by omega⟩
        case round =>
          obtain ⟨A', q, c', L', rfl, hq, hD, hX, hZ, hS, hG, hs7⟩ := hrel
          have D7 := Lib.hid hD
          have X7 := Lib.hid hX
          have Z7 := Lib.hid hZ
          have HS7 := Lib.hid hS
          have HG7 := Lib.hid hG
          clear hD hX hZ hS hG
          by_cases hlt : q < 9
          · have hlt2 : (q : Int) < 9 := by omega
            go_wp2_with (at_builtin; refine wpList_append_own _ rfl _ _ 28 rfl W0.heap.size 2 i0 (.int .i64 0) 1 8 Try.underlying28 hi hz0 hz1q hz2 rfl (by decide) _ _ _ rfl (OwnG.alloc (show OwnG 2 1 W0.heap.size wr A' q c' (L'.map (Value.int .i64)) from D7.out) _) ⟨wr.heap.size, 0, none⟩ 1 1 [.int .i64 0] rfl rfl (cell_one_new _ _ _) (by simp [Value.oneCell']) (by unfold maxLen; omega) (by omega) (by simp; omega) ?_; intro v' w6 hown' hgrow _; obtain ⟨A6, c6, rfl⟩ := ownG_shape hown'; have HP := Lib.hid (Own.pushed D7.out hgrow hown'); have HS6 := Lib.hid (HS7.out.grownRow D7.out (by omega) hgrow); have X6 := Lib.hid (HP.out.2.1 _ _ _ X7.out (by decide)); have Z6 := Lib.hid (HP.out.2.1 _ _ _ Z7.out (by decide)); have HG6 := Lib.hid (grown_then (grown_alloc HG7.out _) hgrow (fun k hk => by have := own_bk D7.out k hk; omega)); have hs6 := hgrow.size; rw [World.size_alloc] at hs6; clear hown' hgrow)
            go_roundw
            case rel => exact ⟨A6, q + 1, c6, L' ++ [0], rfl, by omega, HP.out.1, X6.out, Z6.out, HS6.out, HG6.out, by omega⟩
            case measure => simp [lenVB]; omega
          · have hlt2 : ¬ (q : Int) < 9 := by omega
            obtain ⟨x0, x1, _, _⟩ := X7.out.two
            obtain ⟨r0, r1, rf0, rf1⟩ := Z7.out.two
            go_wp2
            have hZ2 := Lib.hid ((Z7.out.set 0 (.int .i64 p)).set 1 (.slice A' q c'))
            obtain ⟨q0, q1, _, _⟩ := Box.two (show Box _ (w.heap.size + 1) 30 #[.int .i64 p, .slice A' q c'] from hZ2.out)
            refine bodyPost_ret (v := .agg #[.int .i64 p, .slice A' q c']) (by simp [results, Try.results96, go_sem, q0, q1]) rfl ⟨p, A', _, c', L', rfl, ?_, by omega, trivial, ?_, ?_⟩
            · exact ((D7.out.mono (by omega)).setBoxed Z7.out (by decide) _ _).setBoxed (Z7.out.set _ _) (by decide) _ _
            · exact (HS7.out.setNew (by omega) (by omega) _).setNew (by omega) (by omega) _
            · exact grown_setNew (grown_setNew HG7.out (by omega) _) (by omega) _
      · have e2 : (x == 2) = false := by simpa using h2
        by_cases h3 : x = 3
        · subst h3
          by_cases hm0 : 0 < m
          · have hm1 : (0 : Int) < (m : Int) := by omega
            obtain ⟨gd, rfl⟩ : ∃ gd, Ad = some ⟨gd, 0, none⟩ := by
              rcases D2.out.form with ⟨_, hh, _⟩ | ⟨gd, hh, _⟩
              · omega
              · exact ⟨gd, hh⟩
            have hgd : W0.heap.size ≤ gd := by
              rcases D2.out.form with ⟨hh, _⟩ | ⟨g', hh, hb, _⟩
              · cases hh
              · cases hh; exact hb
            obtain ⟨x0, _, _, _⟩ := X2.out.two
            go_wp2_with fail
            go_region_held3 (fun w' => w'.cell? ⟨w.heap.size, 0, none⟩ = some (.int .i64 p))
              (first | exact x0 | exact (X2.out.alloc _).two.1 | exact X3.out.two.1 | exact (X3.out.alloc _).two.1 | exact X4.out.two.1 | exact (X4.out.other (show w.heap.size ≠ gd by omega) _).two.1 | go_keep | fail)
              (first
              | (go_at_call 79; (with_reducible refine (l01Next_calls g A n c (m : Int) _ hn ?_).mono ?_); (exact (show Src w2.drew g A n c from HS2.out)); rintro e w3 ⟨y, rfl, hy, hS3, hG3⟩; obtain ⟨yn, rfl⟩ := Int.eq_ofNat_of_zero_le hy.1; have hy0 : (0 : Int) ≤ (yn : Int) := (by omega); have hy1 : (yn : Int) < (m : Int) := (by omega); have hy2 : yn < m := (by omega); have X3 := Lib.hid ((show Box w2.drew _ _ _ from X2.out).grown hG3 (hne _ (by omega))); have Z3 := Lib.hid ((show Box w2.drew _ _ _ from Z2.out).grown hG3 (hne _ (by omega))); have D3 := Lib.hid ((show Own _ w2.drew _ _ _ _ from D2.out).kept hG3 (own_src (show Own _ w2.drew _ _ _ _ from D2.out) (show Src w2.drew g A n c from HS2.out))); have HS3 := Lib.hid hS3; have HG3 := Lib.hid ((show w.grownBy w2.drew (some g) from grown_drew HG2.out).trans hG3); have hz3 := hG3.size; clear hS3)
              | (go_at_call 79; (with_reducible refine (l01Next_calls g A n c (m : Int) _ hn ?_).mono ?_); (exact (show Src (w2.drew.alloc (.cells (([-1, p] : List Int).map (Value.int .i64)).toArray 2)) g A n c from HS2.out.alloc _)); rintro e w3 ⟨y, rfl, hy, hS3, hG3⟩; obtain ⟨yn, rfl⟩ := Int.eq_ofNat_of_zero_le hy.1; have hy0 : (0 : Int) ≤ (yn : Int) := (by omega); have hy1 : (yn : Int) < (m : Int) := (by omega); have hy2 : yn < m := (by omega); have X3 := Lib.hid ((show Box (w2.drew.alloc (.cells (([-1, p] : List Int).map (Value.int .i64)).toArray 2)) _ _ _ from X2.out.alloc _).grown hG3 (hne _ (by omega))); have Z3 := Lib.hid ((show Box (w2.drew.alloc (.cells (([-1, p] : List Int).map (Value.int .i64)).toArray 2)) _ _ _ from Z2.out.alloc _).grown hG3 (hne _ (by omega))); have D3 := Lib.hid ((show Own _ (w2.drew.alloc (.cells (([-1, p] : List Int).map (Value.int .i64)).toArray 2)) _ _ _ _ from OwnG.alloc (show OwnG 2 1 W0.heap.size w2.drew (some ⟨gd, 0, none⟩) m cd (L.map (Value.int .i64)) from D2.out) _).kept hG3 (own_src (show Own _ (w2.drew.alloc (.cells (([-1, p] : List Int).map (Value.int .i64)).toArray 2)) _ _ _ _ from OwnG.alloc (show OwnG 2 1 W0.heap.size w2.drew (some ⟨gd, 0, none⟩) m cd (L.map (Value.int .i64)) from D2.out) _) (show Src (w2.drew.alloc (.cells (([-1, p] : List Int).map (Value.int .i64)).toArray 2)) g A n c from HS2.out.alloc _))); have HS3 := Lib.hid hS3; have HG3 := Lib.hid ((show w.grownBy (w2.drew.alloc (.cells (([-1, p] : List Int).map (Value.int .i64)).toArray 2)) (some g) from grown_alloc (grown_drew HG2.out) _).trans hG3); have hz3 := hG3.size; clear hS3)
              | (go_at_call 93; (with_reducible refine (l01Pick_calls g A n c _ 2 _ [-1, p] _ hn (by omega) (by omega) rfl ?_ ?_ ?_).mono ?_); (exact ints_new w3 2 [-1, p]); (intro ad e; injection e with e; subst e; simp only; have hw2d : w2.drew.heap.size = w2.heap.size := rfl; omega); (exact (show Src (w3.alloc (.cells (([-1, p] : List Int).map (Value.int .i64)).toArray 2)) g A n c from HS3.out.alloc _)); rintro e w4 ⟨v, rfl, hv, hS4, hG4⟩; have X4 := Lib.hid ((show Box (w3.alloc (.cells (([-1, p] : List Int).map (Value.int .i64)).toArray 2)) _ _ _ from X3.out.alloc _).grown hG4 (hne _ (by omega))); have Z4 := Lib.hid ((show Box (w3.alloc (.cells (([-1, p] : List Int).map (Value.int .i64)).toArray 2)) _ _ _ from Z3.out.alloc _).grown hG4 (hne _ (by omega))); have D4 := Lib.hid ((show Own _ (w3.alloc (.cells (([-1, p] : List Int).map (Value.int .i64)).toArray 2)) _ _ _ _ from OwnG.alloc (show OwnG 2 1 W0.heap.size w3 (some ⟨gd, 0, none⟩) m cd (L.map (Value.int .i64)) from D3.out) _).kept hG4 (own_src (show Own _ (w3.alloc (.cells (([-1, p] : List Int).map (Value.int .i64)).toArray 2)) _ _ _ _ from OwnG.alloc (show OwnG 2 1 W0.heap.size w3 (some ⟨gd, 0, none⟩) m cd (L.map (Value.int .i64)) from D3.out) _) (show Src (w3.alloc (.cells (([-1, p] : List Int).map (Value.int .i64)).toArray 2)) g A n c from HS3.out.alloc _))); have HS4 := Lib.hid hS4; have HG4 := Lib.hid ((show w.grownBy (w3.alloc (.cells (([-1, p] : List Int).map (Value.int .i64)).toArray 2)) (some g) from grown_alloc HG3.out _).trans hG4); have hold := World.ownsRow.cellAt D4.out yn (by omega); have hfz := World.ownsRow.frozenAt D4.out yn; rw [List.getElem?_map, List.getElem?_eq_getElem (by rw [HLn.out]; omega)] at hold; clear hS4 hv)
              | (go_at_call 93; (with_reducible refine (l01Pick_calls g A n c _ 2 _ [-1, p] _ hn (by omega) (by omega) rfl ?_ ?_ ?_).mono ?_); (exact Ints.grown (ints_new w2.drew 2 [-1, p]) hG3 (fun ad e => by injection e with e; subst e; simp only; have : w2.drew.heap.size = w2.heap.size := rfl; omega)); (intro ad e; injection e with e; subst e; simp only; have hw2d : w2.drew.heap.size = w2.heap.size := rfl; omega); (exact (show Src w3 g A n c from HS3.out)); rintro e w4 ⟨v, rfl, hv, hS4, hG4⟩; have X4 := Lib.hid ((show Box w3 _ _ _ from X3.out).grown hG4 (hne _ (by omega))); have Z4 := Lib.hid ((show Box w3 _ _ _ from Z3.out).grown hG4 (hne _ (by omega))); have D4 := Lib.hid ((show Own _ w3 _ _ _ _ from D3.out).kept hG4 (own_src (show Own _ w3 _ _ _ _ from D3.out) (show Src w3 g A n c from HS3.out))); have HS4 := Lib.hid hS4; have HG4 := Lib.hid ((show w.grownBy w3 (some g) from HG3.out).trans hG4); have hold := World.ownsRow.cellAt D4.out yn (by omega); have hfz := World.ownsRow.frozenAt D4.out yn; rw [List.getElem?_map, List.getElem?_eq_getElem (by rw [HLn.out]; omega)] at hold; clear hS4 hv)
              | fail)
            all_goals
              have D5 : Hid (Own W0.heap.size (w4.setCell ⟨gd, yn, none⟩ (.int .i64 v)) (some ⟨gd, 0, none⟩) m cd (L.set yn v)) := by
                have st := (World.ownsRow.stored D4.out yn (.int .i64 v)).1
                rw [← List.map_set] at st
                exact st
              have X5 := Lib.hid (X4.out.other (a := ⟨gd, yn, none⟩) (show w.heap.size ≠ gd by omega) (.int .i64 v))
              have Z5 := Lib.hid (Z4.out.other (a := ⟨gd, yn, none⟩) (show w.heap.size + 1 ≠ gd by omega) (.int .i64 v))
              have HS5 := Lib.hid (HS4.out.setNew (b := gd) (i := yn) (by omega) (by omega) (.int .i64 v))
              have HG5 := Lib.hid (grown_setNew HG4.out (b := gd) (i := yn) (by omega) (.int .i64 v))
              clear hold hfz X4 Z4 D4 HS4 HG4 X3 Z3 D3 HS3 HG3 x0
              obtain ⟨x0, x1, _, _⟩ := X5.out.two
              obtain ⟨r0, r1, rf0, rf1⟩ := Z5.out.two
              go_wp2
              have hZ2 := Lib.hid ((Z5.out.set 0 (.int .i64 p)).set 1 (.slice (some ⟨gd, 0, none⟩) m cd))
              obtain ⟨q0, q1, _, _⟩ := Box.two (show Box _ (w.heap.size + 1) 30 #[.int .i64 p, .slice (some ⟨gd, 0, none⟩) m cd] from hZ2.out)
              refine bodyPost_ret (v := .agg #[.int .i64 p, .slice (some ⟨gd, 0, none⟩) m cd]) (by simp [results, Try.results96, go_sem, q0, q1]) rfl ⟨p, (some ⟨gd, 0, none⟩), _, cd, (L.set yn v), rfl, ?_, by omega, trivial, ?_, ?_⟩
              · exact ((D5.out.mono (by omega)).setBoxed Z5.out (by decide) _ _).setBoxed (Z5.out.set _ _) (by decide) _ _
              · exact (HS5.out.setNew (by omega) (by omega) _).setNew (by omega) (by omega) _
              · exact grown_setNew (grown_setNew HG5.out (by omega) _) (by omega) _
          · obtain rfl : m = 0 := by omega
            have hm1 : ¬ (0 : Int) < ((0 : Nat) : Int) := by omega
            obtain ⟨x0, x1, _, _⟩ := X2.out.two
            obtain ⟨r0, r1, rf0, rf1⟩ := Z2.out.two
            go_wp2
            have hZ2 := Lib.hid ((Z2.out.set 0 (.int .i64 p)).set 1 (.slice Ad 0 cd))
            obtain ⟨q0, q1, _, _⟩ := Box.two (show Box _ (w.heap.size + 1) 30 #[.int .i64 p, .slice Ad 0 cd] from hZ2.out)
            refine bodyPost_ret (v := .agg #[.int .i64 p, .slice Ad 0 cd]) (by simp [results, Try.results96, go_sem, q0, q1]) rfl ⟨p, Ad, _, cd, L, rfl, ?_, by omega, trivial, ?_, ?_⟩
            · exact ((D2.out.mono (by omega)).setBoxed Z2.out (by decide) _ _).setBoxed (Z2.out.set _ _) (by decide) _ _
            · exact (HS2.out.setNew (by omega) (by omega) _).setNew (by omega) (by omega) _
            · exact grown_setNew (grown_setNew HG2.out (by omega) _) (by omega) _
        · have e3 : (x == 3) = false := by simpa using h3
          clear h0 h1 h2 h3
          obtain ⟨x0, x1, _, _⟩ := X2.out.two
          obtain ⟨r0, r1, rf0, rf1⟩ := Z2.out.two
          go_wp2
          have hZ2 := Lib.hid ((Z2.out.set 0 (.int .i64 p)).set 1 (.slice Ax m cx))
          obtain ⟨q0, q1, _, _⟩ := Box.two (show Box _ (w.heap.size + 1) 30 #[.int .i64 p, .slice Ax m cx] from hZ2.out)
          refine bodyPost_ret (v := .agg #[.int .i64 p, .slice Ax m cx]) (by simp [results, Try.results96, go_sem, q0, q1]) rfl ⟨p, Ax, _, cx, L, rfl, ?_, by omega, trivial, ?_, ?_⟩
          · exact ((O2.out).setBoxed Z2.out (by decide) _ _).setBoxed (Z2.out.set _ _) (by decide) _ _
          · exact (HS2.out.setNew (by omega) (by omega) _).setNew (by omega) (by omega) _
          · exact grown_setNew (grown_setNew HG2.out (by omega) _) (by omega) _

set_option maxHeartbeats 1000000 in
theorem l01Spoil_ret (g : Nat) (A : Option Addr) (n c : Nat) (w : World) (hn : n ≤ 4096) (h : Src w g A n c) :
    Calls Try.prog 92 #[.pointer (some ⟨g, 0, none⟩)] w (RetBd w.heap.size w g A n c) := by
  have hgw := h.lt
  have HS0 := Lib.hid (h.alloc (.cells #[.int .i64 0, .slice none 0 0] 30))
  have X0 := Lib.hid (Box.new w 30 #[.int .i64 0, .slice none 0 0])
  have HG0 := Lib.hid (grown_alloc (World.grownBy.refl w (some g)) (.cells #[.int .i64 0, .slice none 0 0] 30))
  have hne : some w.heap.size ≠ some g := fun e => by injection e with e; omega
  clear h
  go_enter Try.func92, Try.ntmps92
  go_wp2_with fail
  refine (l01Draw_ret g A n c _ hn HS0.out).mono ?_
  rintro e w1 ⟨p, A', m, c', L, rfl, hO, hm, hQ, hS, hG⟩
  have HS1 := Lib.hid hS
  have X1 := Lib.hid (X0.out.grown hG hne)
  have HG1 := Lib.hid (HG0.out.trans hG)
  have O1 := Lib.hid (hO.mono (show w.heap.size ≤ (w.alloc (.cells #[.int .i64 0, .slice none 0 0] 30)).heap.size by simp))
  have hs1 := HG1.out.size
  have hm8 : m ≤ 9 := by
    have := Own.len hO
    have := hQ.2.2
    omega
  clear hS hG hO hQ HS0 X0 HG0 hm
  go_wp2_with fail
  refine (l01Bad_ret g A n c p A' m c' w.heap.size L _ hn HS1.out O1.out hm8 hs1 hgw).mono ?_
  rintro e w2 ⟨p2, A2, m2, c2, L2, rfl, hO, hm, _, hS, hG⟩
  have HS2 := Lib.hid hS
  have X2 := Lib.hid (X1.out.grown hG hne)
  have HG2 := Lib.hid (HG1.out.trans hG)
  have O2 := Lib.hid hO
  clear hS hG hO HS1 X1 HG1 O1
  obtain ⟨r0, r1, rf0, rf1⟩ := X2.out.two
  go_wp2
  refine bodyPost_ret (v := .agg #[.int .i64 p2, .slice A2 m2 c2]) (by simp [results, Try.results92, go_sem, r0, r1]) rfl ⟨p2, A2, m2, c2, L2, rfl, ?_, hm, trivial, ?_, ?_⟩
  · exact (O2.out.setBoxed X2.out (by decide) _ _).setBoxed (X2.out.set _ _) (by decide) _ _
  · exact (HS2.out.setNew (by omega) hgw _).setNew (by omega) hgw _
  · exact grown_setNew (grown_setNew HG2.out (Nat.le_refl _) _) (Nat.le_refl _) _

end Go.Proofs.Ytbcgomimfgggnaa

namespace Go.Proofs.Ytbcgomimfgggnaa
open Go.RowKit
set_option linter.unusedVariables false
set_option maxRecDepth 100000

set_option maxHeartbeats 1000000 in
theorem l02Draw_ret (g : Nat) (A : Option Addr) (n c : Nat) (w : World) (hn : n ≤ 4096) (h : Src w g A n c) :
    Calls Try.prog 78 #[.pointer (some ⟨g, 0, none⟩)] w (RetBd w.heap.size w g A n c) := by
  have hgw := h.lt
  have HS0 := Lib.hid (h.alloc (.cells #[.int .i64 0, .slice none 0 0] 30))
  have X0 := Lib.hid (Box.new w 30 #[.int .i64 0, .slice none 0 0])
  have HG0 := Lib.hid (grown_alloc (World.grownBy.refl w (some g)) (.cells #[.int .i64 0, .slice none 0 0] 30))
  have hne : some w.heap.size ≠ some g := fun e => by injection e with e; omega
  clear h
  go_enter Try.func78, Try.ntmps78
  go_wp2_with fail
  refine (l01Next_calls g A n c 12 _ hn HS0.out).mono ?_
  rintro e w1 ⟨x, rfl, hx, hS, hG⟩
  have HS1 := Lib.hid hS
  have X1 := Lib.hid (X0.out.grown hG hne)
  have HG1 := Lib.hid (HG0.out.trans hG)
  have hs1 := HG1.out.size
  clear hS hG HS0 X0 HG0 hx
  by_cases h0 : x = 0
  · subst h0
    go_wp2_with fail
    refine (l01Spoil_ret g A n c _ hn HS1.out).mono ?_
    rintro e w2 ⟨p, A', m, c', L, rfl, hO, hm, _, hS, hG⟩
    have HS2 := Lib.hid hS
    have X2 := Lib.hid (X1.out.grown hG hne)
    have HG2 := Lib.hid (HG1.out.trans hG)
    have O2 := Lib.hid (hO.mono hs1)
    clear hS hG hO HS1 X1 HG1
    obtain ⟨r0, r1, rf0, rf1⟩ := X2.out.two
    go_wp2
    refine bodyPost_ret (v := .agg #[.int .i64 p, .slice A' m c']) (by simp [results, Try.results78, go_sem, r0, r1]) rfl ⟨p, A', m, c', L, rfl, ?_, hm, trivial, ?_, ?_⟩
    · exact (O2.out.setBoxed X2.out (by decide) _ _).setBoxed (X2.out.set _ _) (by decide) _ _
    · exact (HS2.out.setNew (by omega) hgw _).setNew (by omega) hgw _
    · exact grown_setNew (grown_setNew HG2.out (Nat.le_refl _) _) (Nat.le_refl _) _
  · have e0 : (x == 0) = false := by simpa using h0
    go_wp2_with fail
    have hlt := HS1.out.lt
    refine (l01Pick_calls g A n c _ 10 _ [0, 1, 2, 3, 3, 4, 5, 6, 7, 8] _ hn (by omega) (by omega) rfl (ints_new w1 2 _) (fun ad e => by injection e with e; subst e; simp only; omega) (HS1.out.alloc _)).mono ?_
    rintro e w2 ⟨k, rfl, hx, hS, hG⟩
    have hk : 0 ≤ k ∧ k ≤ 8 := by simp only [List.mem_cons, List.not_mem_nil, or_false] at hx; omega
    have HS2 := Lib.hid hS
    have X2 := Lib.hid ((X1.out.alloc _).grown hG hne)
    have HG2 := Lib.hid ((grown_alloc HG1.out _).trans hG)
    have hs2 := HG2.out.size
    clear hS hG hx hlt HS1 X1 HG1
    obtain ⟨j, rfl⟩ := Int.eq_ofNat_of_zero_le hk.1
    go_wp2_with fail
    refine (l01DrawOf_calls g A n c 3 j _ hn HS2.out (by omega) (by omega)).mono ?_
    rintro e w3 ⟨A', c', L, rfl, hO, _, hS, hG⟩
    have HS3 := Lib.hid hS
    have X3 := Lib.hid (X2.out.grown hG hne)
    have HG3 := Lib.hid (HG2.out.trans hG)
    have O3 := Lib.hid (hO.mono hs2)
    clear hS hG hO HS2 X2 HG2
    obtain ⟨r0, r1, rf0, rf1⟩ := X3.out.two
    go_wp2
    refine bodyPost_ret (v := .agg #[.int .i64 3, .slice A' j c']) (by simp [results, Try.results78, go_sem, r0, r1]) rfl ⟨3, A', j, c', L, rfl, ?_, (by omega), trivial, ?_, ?_⟩
    · exact (O3.out.setBoxed X3.out (by decide) _ _).setBoxed (X3.out.set _ _) (by decide) _ _
    · exact (HS3.out.setNew (by omega) hgw _).setNew (by omega) hgw _
    · exact grown_setNew (grown_setNew HG3.out (Nat.le_refl _) _) (Nat.le_refl _) _

/-- A state and a peg that have been drawn. -/
def RetPg (w : World) (e : Ending) (w' : World) : Prop :=
  ∃ (p : Int) (A' : Option Addr) (m c' : Nat) (L : List Int) (a : Int), e = .returned (.tuple #[.agg #[.int .i64 p, .slice A' m c'], .int .i64 a]) ∧ Own w.heap.size w' A' m c' L ∧ m ≤ 10 ∧ Below w.heap.size w w'

end Go.Proofs.Ytbcgomimfgggnaa
