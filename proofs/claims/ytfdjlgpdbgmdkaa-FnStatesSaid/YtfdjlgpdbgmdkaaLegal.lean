/- Contracts: legal moves, by the specification's model and by the program. -/
import Derived.Test.YtfdjlgpdbgmdkaaState1
import Derived.Test.YtfdjlgpdbgmdkaaToMove
namespace Go.Proofs.Ytfdjlgpdbgmdkaa
open Go.RowKit
set_option linter.unusedVariables false

/-- Whether a move is legal in a state. -/
def legalB (p : Int) (L : List Int) (d f t : Int) : Bool :=
  decide (0 ≤ d ∧ d < L.length ∧ 0 ≤ t ∧ t < p ∧ f ≠ t ∧ L.getD d.toNat 0 = f) && (List.range d.toNat).all (fun i => L.getD i 0 != f && L.getD i 0 != t)
def clearTo (L : List Int) (f t : Int) (k : Nat) : Prop := ∀ i, i < k → L.getD i 0 ≠ f ∧ L.getD i 0 ≠ t
theorem legal_yes {p : Int} {L : List Int} {d f t : Int} (h : 0 ≤ d ∧ d < L.length ∧ 0 ≤ t ∧ t < p ∧ f ≠ t ∧ L.getD d.toNat 0 = f) (hc : clearTo L f t d.toNat) : legalB p L d f t = true := by
  unfold legalB
  rw [Bool.and_eq_true, decide_eq_true_iff, List.all_eq_true]
  refine ⟨h, fun i hi => ?_⟩
  have := hc i (by simpa using hi)
  simp only [Bool.and_eq_true, bne_iff_ne]
  exact this
theorem legal_no {p : Int} {L : List Int} {d f t : Int} (h : ¬ (0 ≤ d ∧ d < L.length ∧ 0 ≤ t ∧ t < p ∧ f ≠ t ∧ L.getD d.toNat 0 = f)) : legalB p L d f t = false := by
  unfold legalB
  rw [Bool.and_eq_false_iff, decide_eq_false_iff_not]
  exact .inl h
theorem legal_no2 {p : Int} {L : List Int} {d f t : Int} {i : Nat} (hi : i < d.toNat) (h : L.getD i 0 = f ∨ L.getD i 0 = t) : legalB p L d f t = false := by
  unfold legalB
  rw [Bool.and_eq_false_iff, List.all_eq_false]
  right
  refine ⟨i, by simpa using hi, ?_⟩
  simp only [Bool.and_eq_true, bne_iff_ne]
  rintro ⟨h1, h2⟩
  rcases h with h | h
  · exact h1 h
  · exact h2 h
theorem ret_legal {p : Int} {L : List Int} {d f t : Int} {b : Bool} (h : legalB p L d f t = b) : Ending.returned (.bool b) = .returned (.bool (legalB p L d f t)) := by rw [h]

set_option maxHeartbeats 2000000 in
theorem isLegalMove_calls (A : Option Addr) (n c : Nat) (p : Int) (L : List Int) (d f t : Int) (w : World) (hL : L.length = n) (hcap : n ≤ c) (hc63 : c ≤ 9223372036854775807) (hI : Ints w A L) (hs : stateB p L = true) :
    Calls Try.prog 73 #[.agg #[.int .i64 p, .slice A n c], .agg #[.int .i64 d, .int .i64 f, .int .i64 t]] w fun e w' => e = .returned (.bool (legalB p L d f t)) ∧ Below w.heap.size w w' := by
  obtain ⟨h3, h5, h8, _⟩ := state_facts hs hL
  have HL : Hid (L.length = n) := hL
  have hb0 : Below w.heap.size w ((w.alloc (.cells #[.int .i64 p, .slice A n c] 26)).alloc (.cells #[.int .i64 d, .int .i64 f, .int .i64 t] 74)) := ((Below.refl _ _).alloc (Nat.le_refl _) _).alloc (by simp) _
  have HB0 := Lib.hid hb0
  have HI := Lib.hid (hI.below hb0)
  clear hL hs hb0 hI
  by_cases hd0 : d < 0
  · have e1 : decide (d < 0) = true := by simpa using hd0
    go_enter Try.func73, Try.ntmps73
    go_wp2_with fail
    go_quiet (fail)
    go_wp2
    go_ret
    exact ⟨ret_legal (legal_no (by rintro ⟨h, _⟩; omega)), belowDraws HB0.out _⟩
  have e1 : decide (d < 0) = false := by simpa using hd0
  obtain ⟨j, rfl⟩ := Int.eq_ofNat_of_zero_le (a := d) (by omega)
  clear hd0
  have hd0 : (0 : Int) ≤ (j : Int) := by omega
  by_cases hdn : n ≤ j
  · have e2 : decide ((n : Int) ≤ (j : Int)) = true := by simpa using hdn
    have HD := Lib.hid hdn
    go_enter Try.func73, Try.ntmps73
    go_wp2_with fail
    go_quiet (fail)
    go_wp2
    go_ret
    exact ⟨ret_legal (legal_no (by rw [HL.out]; rintro ⟨_, h, _⟩; have := HD.out; omega)), belowDraws HB0.out _⟩
  have e2 : decide ((n : Int) ≤ (j : Int)) = false := by simpa using hdn
  have e2' : decide (n ≤ j) = false := by simpa using hdn
  have hd1 : (j : Int) < (n : Int) := by omega
  clear hdn
  obtain ⟨ad, rfl, had, hc⟩ := HI.out j (by rw [HL.out]; omega)
  by_cases hx : L[j]?.getD 0 = f
  · have e4 : (L[j]?.getD 0 != f) = false := by simpa using hx
    have HX := Lib.hid hx
    clear hx
    by_cases hft : f = t
    · have e3 : (f == t) = true := by simpa using hft
      have HF := Lib.hid hft
      clear hft
      go_enter Try.func73, Try.ntmps73
      go_wp2_with fail
      go_quiet (fail)
      go_wp2
      go_ret
      exact ⟨ret_legal (legal_no (by rw [HF.out]; rintro ⟨_, _, _, _, h, _⟩; exact h rfl)), belowDraws HB0.out _⟩
    · have e3 : (f == t) = false := by simpa using hft
      have HF := Lib.hid hft
      clear hft
      by_cases ht : pegB p t = true
      · have HT := Lib.hid (inB_of (show inB t 0 (p - 1) = true by rw [← pegB_in]; exact ht))
        go_enter Try.func73, Try.ntmps73
        go_wp2_with fail
        go_quiet (fail)
        go_wp2_with fail
        refine (isPeg_calls p t _).mono ?_
        rintro e w' ⟨rfl, rfl⟩
        go_wp2
        go_loopw [6, 48] (fun _ i wr => ∃ k : Nat, k ≤ j ∧ i = .int .i64 k ∧ clearTo L f t k ∧ ∃ m, wr = ((w.alloc (.cells #[.int .i64 p, .slice (some ad) n c] 26)).alloc (.cells #[.int .i64 j, .int .i64 f, .int .i64 t] 74)).drewN m) (fun _ i _ => j - (intOf i).toNat)
        case atStart => exact ⟨0, Nat.zero_le _, rfl, fun i hi => absurd hi (by omega), by first | exact ⟨_, rfl⟩ | exact ⟨0, rfl⟩⟩
        case round =>
          obtain ⟨k, hk, rfl, hcl, m, rfl⟩ := hrel
          have HC := Lib.hid hcl
          clear hcl
          by_cases hlt : k < j
          · obtain ⟨ad', had', _, hc'⟩ := HI.out k (by rw [HL.out]; omega)
            injection had' with had'
            subst had'
            by_cases hf : L[k]?.getD 0 = f
            · have e5 : (L[k]?.getD 0 == f) = true := by simpa using hf
              have HF2 := Lib.hid hf
              clear hf
              go_wp2
              go_ret
              exact ⟨ret_legal (legal_no2 (i := k) (by simpa using hlt) (.inl (by simpa using HF2.out))), by first | exact belowDraws HB0.out _ | exact belowDraws (belowDraws HB0.out _) _⟩
            · have e5 : (L[k]?.getD 0 == f) = false := by simpa using hf
              have HF2 := Lib.hid hf
              clear hf
              by_cases hg : L[k]?.getD 0 = t
              · have e6 : (L[k]?.getD 0 == t) = true := by simpa using hg
                have HG2 := Lib.hid hg
                clear hg
                go_wp2
                go_ret
                exact ⟨ret_legal (legal_no2 (i := k) (by simpa using hlt) (.inr (by simpa using HG2.out))), by first | exact belowDraws HB0.out _ | exact belowDraws (belowDraws HB0.out _) _⟩
              · have e6 : (L[k]?.getD 0 == t) = false := by simpa using hg
                have HG2 := Lib.hid hg
                clear hg
                go_wp2
                go_roundw
                case rel => exact ⟨k + 1, by omega, by go_num, fun i hi => by
                  by_cases hik : i = k
                  · subst hik; exact ⟨by simpa using HF2.out, by simpa using HG2.out⟩
                  · exact HC.out i (by omega), by first | exact ⟨_, rfl⟩ | exact ⟨_, World.drewN_drewN _ _ _⟩⟩
                case measure => simp [intOf]; omega
          · obtain rfl : k = j := by omega
            go_wp2
            go_ret
            have htt := HT.out
            exact ⟨ret_legal (legal_yes ⟨by omega, by rw [HL.out]; omega, by omega, by omega, HF.out, by simpa using HX.out⟩ (by simpa using HC.out)), by first | exact belowDraws HB0.out _ | exact belowDraws (belowDraws HB0.out _) _⟩
      · have ht' : pegB p t = false := by simpa using ht
        have HT := Lib.hid ht
        clear ht
        go_enter Try.func73, Try.ntmps73
        go_wp2_with fail
        go_quiet (fail)
        go_wp2_with fail
        refine (isPeg_calls p t _).mono ?_
        rintro e w' ⟨rfl, rfl⟩
        go_wp2
        go_ret
        exact ⟨ret_legal (legal_no (by rintro ⟨_, _, h, h', _⟩; exact HT.out (by rw [pegB_in]; exact inB_yes h (by omega)))), belowDraws HB0.out _⟩
  · have e4 : (L[j]?.getD 0 != f) = true := by simpa using hx
    have HX := Lib.hid hx
    clear hx
    go_enter Try.func73, Try.ntmps73
    go_wp2_with fail
    go_quiet (fail)
    go_wp2
    go_ret
    exact ⟨ret_legal (legal_no (by rintro ⟨_, _, _, _, _, h⟩; exact HX.out (by simpa using h))), belowDraws HB0.out _⟩

/-- What IsLegal answers. -/
def islV (p : Int) (L : List Int) (d f t : Int) : Bool := stateB p L && legalB p L d f t
theorem ret_bc {a b : Bool} {x y : Int} (h : a = b) (h' : x = y) : Ending.returned (.tuple #[.bool b, .int .i64 y]) = .returned (.tuple #[.bool a, .int .i64 x]) := by rw [h, h']

end Go.Proofs.Ytfdjlgpdbgmdkaa
