/- Words of rings: contracts, with what their answers have to do with each other. -/
import Derived.Test.YtfdjlgpdbgmdkabRgP
namespace Go.Proofs.Ytfdjlgpdbgmdkab
open Go.RowKit
set_option linter.unusedVariables false

/-- What holds of a word: all that the law asks where it is one. -/
def RgGood (L : List Int) (m : Nat) (R : List Int) (q : Nat) : Prop :=
  ∃ (rk : Int) (tx : ByteArray) (O : List Int), O.length = m ∧ (0 ≤ rk ∧ rk ≤ 65535) ∧ (∀ (A : Option Addr) (c : Nat) (W : World), Ints W A L → Calls Try.prog 11 #[.slice A m c] W fun e w' => e = .returned (.tuple #[.int .i64 rk, .int .i64 0]) ∧ Below W.heap.size W w') ∧ (∀ W, Calls Try.prog 12 #[.int .i64 (m : Int), .int .i64 rk] W (RetInts W m L 0)) ∧
    (∀ (A : Option Addr) (c : Nat) (W : World), Ints W A L → Calls Try.prog 13 #[.slice A m c] W fun e w' => e = .returned (.tuple #[.string tx, .int .i64 0]) ∧ Below W.heap.size W w') ∧ (∀ W, Calls Try.prog 14 #[.string tx] W (RetInts W m L 0)) ∧
    (∀ (A : Option Addr) (c : Nat) (W : World), Ints W A L → Calls Try.prog 15 #[.slice A m c] W (RetIntsC W m O 0)) ∧ (∀ (A : Option Addr) (c : Nat) (W : World), Ints W A O → Calls Try.prog 15 #[.slice A m c] W (RetIntsC W m L 0)) ∧
    ∀ j, j < q → ∃ (M : List Int) (r2 : Int), M.length = m ∧ (∀ (A : Option Addr) (c : Nat) (W : World), Ints W A L → Calls Try.prog 16 #[.slice A m c, .int .i64 (R.getD j 0)] W (RetIntsC W m M 0)) ∧ (∀ (A : Option Addr) (c : Nat) (W : World), Ints W A M → Calls Try.prog 11 #[.slice A m c] W fun e w' => e = .returned (.tuple #[.int .i64 r2, .int .i64 0]) ∧ Below W.heap.size W w') ∧ (r2 = rk + 1 ∨ r2 = rk - 1)
theorem rc_all (L : List Int) (m : Nat) (hL : L.length = m) (hm : m ≤ 18) : ∃ (R : List Int) (q : Nat) (E : Int) (b : Bool), R.length = q ∧ q ≤ 2 ∧ (∀ (A : Option Addr) (c : Nat) (W : World), Ints W A L → Calls Try.prog 6 #[.slice A m c] W (RetInts W q R E)) ∧ (∀ (A : Option Addr) (c : Nat) (W : World), Ints W A L → Calls Try.prog 7 #[.slice A m c] W (RetInts W q R E)) ∧
    (∀ (A : Option Addr) (c : Nat) (W : World), Ints W A L → Calls Try.prog 9 #[.slice A m c] W fun e w' => e = .returned (.bool b) ∧ Below W.heap.size W w') ∧ (∀ (A : Option Addr) (c : Nat) (W : World), Ints W A L → Calls Try.prog 10 #[.slice A m c] W fun e w' => e = .returned (.bool b) ∧ Below W.heap.size W w') ∧
    (E ≠ 0 ∨ (E = 0 ∧ RgGood L m R q)) := by
  subst hL
  refine ⟨rcV L, (rcV L).length, rgE L, rgB L, rfl, ?_, fun A c W hI => implRingsThatChange_ret A _ c L W rfl (by omega) hI, fun A c W hI => specRingsThatChange_ret A _ c L W rfl (by omega) hI, fun A c W hI => implIsRings_calls A _ c L W rfl (by omega) hI, fun A c W hI => specIsRings_calls A _ c L W rfl (by omega) hI, ?_⟩
  · unfold rcV
    split
    · exact rtcL_len L
    · simp
  · cases h : rgB L with
    | false => left; rw [(rc_no h).2]; decide
    | true =>
      right
      obtain ⟨e1, e2⟩ := rc_yes h
      refine ⟨e2, ?_⟩
      rw [e1]
      obtain ⟨o1, o2⟩ := rgp_opp h
      obtain ⟨r1, r2⟩ := rgp_rank h
      obtain ⟨t1, t2, t3⟩ := rgp_text h
      have hol := oppL_len L
      refine ⟨rkL L, rtV L, oppL L, oppL_len L, rk_bd0 h, fun A c W hI => ?_, fun W => ?_, fun A c W hI => ?_, fun W => ?_, fun A c W hI => ?_, fun A c W hI => ?_, fun j hj => ?_⟩
      · have k := implRankOfRings_calls A L.length c L W rfl (by omega) hI
        rw [(rg_yes h).1, (rg_yes h).2] at k
        exact k
      · have k := implRingsOfRank_ret (L.length : Int) (rkL L) W
        rw [r1, r2] at k
        exact k
      · have k := implRingsText_calls A L.length c L W rfl (by omega) hI
        rw [(rt_yes h).2] at k
        exact k
      · have k := implParseRings_ret (rtV L) W (by omega)
        rw [t2, t3] at k
        exact k
      · have k := implOppositeRings_ret A L.length c L W rfl (by omega) hI
        rw [(op_yes h).1, (op_yes h).2, hol] at k
        exact k
      · have k := implOppositeRings_ret A L.length c (oppL L) W hol (by omega) hI
        rw [o2, (op_yes o1).2] at k
        exact k
      · have hmem : (rtcL L).getD j 0 ∈ rtcL L := by
          rw [List.getD_eq_getElem?_getD, List.getElem?_eq_getElem hj]
          exact List.getElem_mem hj
        obtain ⟨M, m1, m2, m3, m4, m5⟩ := rgp_change h hmem
        refine ⟨M, rkL M, m3, fun A c W hI => ?_, fun A c W hI => ?_, m5⟩
        · have k := implChangeRing_ret A L.length c L ((rtcL L).getD j 0) W rfl (by omega) hI
          rw [m1, m2, m3] at k
          exact k
        · have k := implRankOfRings_calls A L.length c M W m3 (by omega) hI
          rw [(rg_yes m4).1, (rg_yes m4).2] at k
          exact k
theorem chV_len2 (L : List Int) (i : Int) : (chV L i).length ≤ 1048576 := chV_len L i
theorem cr_all (L : List Int) (m : Nat) (i : Int) (hL : L.length = m) (hm : m ≤ 18) : ∃ (R : List Int) (q : Nat) (E : Int), R.length = q ∧ q ≤ 1048576 ∧ (∀ (A : Option Addr) (c : Nat) (W : World), Ints W A L → Calls Try.prog 16 #[.slice A m c, .int .i64 i] W (RetIntsC W q R E)) ∧ (∀ (A : Option Addr) (c : Nat) (W : World), Ints W A L → Calls Try.prog 18 #[.slice A m c, .int .i64 i] W (RetInts W q R E)) := by
  subst hL
  exact ⟨chV L i, _, chE L i, rfl, chV_len L i, fun A c W hI => implChangeRing_ret A _ c L i W rfl (by omega) hI, fun A c W hI => specChangeRing_ret A _ c L i W rfl (by omega) hI⟩
theorem rk_all (L : List Int) (m : Nat) (hL : L.length = m) (hm : m ≤ 18) : ∃ (V E : Int), (∀ (A : Option Addr) (c : Nat) (W : World), Ints W A L → Calls Try.prog 11 #[.slice A m c] W fun e w' => e = .returned (.tuple #[.int .i64 V, .int .i64 E]) ∧ Below W.heap.size W w') ∧ (∀ (A : Option Addr) (c : Nat) (W : World), Ints W A L → Calls Try.prog 20 #[.slice A m c] W fun e w' => e = .returned (.tuple #[.int .i64 V, .int .i64 E]) ∧ Below W.heap.size W w') := by
  subst hL
  exact ⟨rgV L, rgE L, fun A c W hI => implRankOfRings_calls A _ c L W rfl (by omega) hI, fun A c W hI => specRankOfRings_calls A _ c L W rfl (by omega) hI⟩
theorem ro_all (n r : Int) : ∃ (R : List Int) (q : Nat) (E : Int), R.length = q ∧ q ≤ 1048576 ∧ (∀ W, Calls Try.prog 12 #[.int .i64 n, .int .i64 r] W (RetInts W q R E)) ∧ (∀ W, Calls Try.prog 22 #[.int .i64 n, .int .i64 r] W (RetInts W q R E)) :=
  ⟨roL n r, _, roE n r, rfl, roL_len n r, fun W => implRingsOfRank_ret n r W, fun W => specRingsOfRank_ret n r W⟩
theorem op_all (L : List Int) (m : Nat) (hL : L.length = m) (hm : m ≤ 18) : ∃ (R : List Int) (q : Nat) (E : Int), R.length = q ∧ q ≤ 1048576 ∧ (∀ (A : Option Addr) (c : Nat) (W : World), Ints W A L → Calls Try.prog 15 #[.slice A m c] W (RetIntsC W q R E)) ∧ (∀ (A : Option Addr) (c : Nat) (W : World), Ints W A L → Calls Try.prog 24 #[.slice A m c] W (RetInts W q R E)) := by
  subst hL
  exact ⟨opV L, _, rgE L, rfl, opV_len L, fun A c W hI => implOppositeRings_ret A _ c L W rfl (by omega) hI, fun A c W hI => specOppositeRings_ret A _ c L W rfl (by omega) hI⟩
theorem pr_all (t : ByteArray) (ht : t.size ≤ 1000000000000000000) : ∃ (R : List Int) (q : Nat) (E : Int), R.length = q ∧ q ≤ 1048576 ∧ (∀ W, Calls Try.prog 14 #[.string t] W (RetInts W q R E)) ∧ (∀ W, Calls Try.prog 26 #[.string t] W (RetInts W q R E)) :=
  ⟨prL t, _, prE t, rfl, prL_len t, fun W => implParseRings_any t W ht, fun W => specParseRings_any t W ht⟩
theorem tx_all (L : List Int) (m : Nat) (hL : L.length = m) (hm : m ≤ 18) : ∃ (V : ByteArray) (E : Int), (∀ (A : Option Addr) (c : Nat) (W : World), Ints W A L → Calls Try.prog 13 #[.slice A m c] W fun e w' => e = .returned (.tuple #[.string V, .int .i64 E]) ∧ Below W.heap.size W w') ∧ (∀ (A : Option Addr) (c : Nat) (W : World), Ints W A L → Calls Try.prog 28 #[.slice A m c] W fun e w' => e = .returned (.tuple #[.string V, .int .i64 E]) ∧ Below W.heap.size W w') := by
  subst hL
  exact ⟨rtV L, rtE L, fun A c W hI => implRingsText_calls A _ c L W rfl (by omega) hI, fun A c W hI => specRingsText_calls A _ c L W rfl (by omega) hI⟩

end Go.Proofs.Ytfdjlgpdbgmdkab
