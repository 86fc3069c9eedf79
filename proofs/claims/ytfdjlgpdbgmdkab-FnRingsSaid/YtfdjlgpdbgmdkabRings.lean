/- Contracts: words of rings, by the specification's model and by the program. -/
import Derived.Test.YtfdjlgpdbgmdkabState1
import Derived.Test.YtfdjlgpdbgmdkabTo
namespace Go.Proofs.Ytfdjlgpdbgmdkab
open Go.RowKit
set_option linter.unusedVariables false

def rgB (L : List Int) : Bool := L.all (fun x => inB x 0 1) && decide (L.length ≤ 16)
/-- All of the first k are nought or one. -/
def bitsTo (L : List Int) (k : Nat) : Prop := ∀ j, j < k → inB (L.getD j 0) 0 1 = true
theorem bits_all {L : List Int} (h : bitsTo L L.length) : L.all (fun x => inB x 0 1) = true := by
  rw [List.all_eq_true]
  intro x hx
  obtain ⟨i, hi, rfl⟩ := List.getElem_of_mem hx
  have := h i hi
  rwa [List.getD_eq_getElem?_getD, List.getElem?_eq_getElem hi] at this
theorem rgB_no {L : List Int} {k : Nat} (hk : k < L.length) (h : inB (L.getD k 0) 0 1 = false) : rgB L = false := by
  unfold rgB
  rw [Bool.and_eq_false_iff]
  left
  rw [List.all_eq_false]
  refine ⟨L[k], List.getElem_mem hk, ?_⟩
  rw [List.getD_eq_getElem?_getD, List.getElem?_eq_getElem hk] at h
  simpa using h
theorem rgB_all {L : List Int} (h : bitsTo L L.length) : rgB L = decide (L.length ≤ 16) := by
  unfold rgB
  rw [bits_all h, Bool.true_and]
theorem rgB_long {L : List Int} (h : ¬ L.length ≤ 16) : rgB L = false := by
  unfold rgB
  rw [Bool.and_eq_false_iff]
  right
  simpa using h
theorem rgB_len {L : List Int} (h : rgB L = true) : L.length ≤ 16 := by
  unfold rgB at h
  rw [Bool.and_eq_true, decide_eq_true_iff] at h
  exact h.2
theorem rgB_at {L : List Int} (h : rgB L = true) (k : Nat) : 0 ≤ L[k]?.getD 0 ∧ L[k]?.getD 0 ≤ 1 := by
  unfold rgB at h
  rw [Bool.and_eq_true, List.all_eq_true] at h
  by_cases hk : k < L.length
  · rw [List.getElem?_eq_getElem hk]
    exact inB_of (h.1 _ (List.getElem_mem hk))
  · rw [List.getElem?_eq_none (by omega)]
    simp
theorem ret_rg {L : List Int} {b : Bool} (h : rgB L = b) : Ending.returned (.bool b) = .returned (.bool (rgB L)) := by rw [h]

set_option maxHeartbeats 400000 in
theorem l05Is_calls (A : Option Addr) (n c : Nat) (L : List Int) (w : World) (hL : L.length = n) (hn : n ≤ 1048576) (hI : Ints w A L) :
    Calls Try.prog 32 #[.slice A n c] w fun e w' => e = .returned (.bool (rgB L)) ∧ w = w' := by
  have HL : Hid (L.length = n) := hL
  clear hL
  go_enter Try.func32, Try.ntmps32
  go_wp2
  go_loop [3] (fun i => ∃ k : Nat, k ≤ n ∧ i = .int .i64 k ∧ bitsTo L k) (fun i => n - (intOf i).toNat)
  case atStart => exact ⟨0, Nat.zero_le _, rfl, fun j hj => absurd hj (by omega)⟩
  case round =>
    obtain ⟨k, hk, rfl, hall⟩ := hrel
    have HA := Lib.hid hall
    clear hall
    by_cases hlt : k < n
    · obtain ⟨ad, rfl, had, hc⟩ := hI k (by rw [HL.out]; exact hlt)
      go_wp2_with fail
      refine (l01In_calls _ _ _ _).mono ?_
      rintro e w' ⟨rfl, rfl⟩
      go_wp2
      · have hd : (!inB (L[k]?.getD 0) 0 1) = true := by assumption
        go_ret
        exact ⟨ret_rg (rgB_no (k := k) (by rw [HL.out]; exact hlt) (by simpa using hd)), rfl⟩
      · have hd : (!inB (L[k]?.getD 0) 0 1) = false := by assumption
        go_round
        case rel => exact ⟨k + 1, by omega, by go_num, fun j hj => by
          by_cases hjk : j = k
          · subst hjk; simpa using hd
          · exact HA.out j (by omega)⟩
        case measure => simp [intOf]; omega
    · obtain rfl : k = n := by omega
      go_wp2
      go_ret
      exact ⟨ret_rg (by rw [rgB_all (by rw [HL.out]; exact HA.out), HL.out]; simp; omega), rfl⟩

theorem specIsRings_calls (A : Option Addr) (n c : Nat) (L : List Int) (w : World) (hL : L.length = n) (hn : n ≤ 1048576) (hI : Ints w A L) :
    Calls Try.prog 10 #[.slice A n c] w fun e w' => e = .returned (.bool (rgB L)) ∧ Below w.heap.size w w' := by
  go_enter Try.func10, Try.ntmps10
  go_wp2_with fail
  refine (l05Is_calls A n c L _ hL hn hI).mono ?_
  rintro e w1 ⟨rfl, rfl⟩
  go_wp2
  go_ret
  exact ⟨rfl, Below.refl _ _⟩

set_option maxHeartbeats 400000 in
theorem isRings_still (A : Option Addr) (n c : Nat) (L : List Int) (w : World) (hL : L.length = n) (hn : n ≤ 1048576) (hI : Ints w A L) :
    Calls Try.prog 9 #[.slice A n c] w fun e w' => e = .returned (.bool (rgB L)) ∧ w = w' := by
  have HL : Hid (L.length = n) := hL
  clear hL
  by_cases hn16 : n ≤ 16
  · go_enter Try.func9, Try.ntmps9
    go_wp2
    go_loop [4, 10] (fun _ i => ∃ k : Nat, k ≤ n ∧ i = .int .i64 k ∧ bitsTo L k) (fun _ i => n - (intOf i).toNat)
    case atStart => exact ⟨0, Nat.zero_le _, rfl, fun j hj => absurd hj (by omega)⟩
    case round =>
      obtain ⟨k, hk, rfl, hall⟩ := hrel
      have HA := Lib.hid hall
      clear hall
      by_cases hlt : k < n
      · obtain ⟨ad, rfl, had, hc⟩ := hI k (by rw [HL.out]; exact hlt)
        by_cases h0 : L[k]?.getD 0 = 0
        · have H0 := Lib.hid h0
          have hd : (L[k]?.getD 0 != 0) = false := by simp [h0]
          clear h0
          go_wp2
          go_round
          case rel => exact ⟨k + 1, by omega, by go_num, fun j hj => by
            by_cases hjk : j = k
            · subst hjk; rw [List.getD_eq_getElem?_getD]; exact inB_yes (by have := H0.out; omega) (by have := H0.out; omega)
            · exact HA.out j (by omega)⟩
          case measure => simp [intOf]; omega
        · have hd : (L[k]?.getD 0 != 0) = true := by simp [h0]
          by_cases h1 : L[k]?.getD 0 = 1
          · have H1 := Lib.hid h1
            have hd1 : (L[k]?.getD 0 != 1) = false := by simp [h1]
            clear h1 h0
            go_wp2
            go_round
            case rel => exact ⟨k + 1, by omega, by go_num, fun j hj => by
              by_cases hjk : j = k
              · subst hjk; rw [List.getD_eq_getElem?_getD]; exact inB_yes (by have := H1.out; omega) (by have := H1.out; omega)
              · exact HA.out j (by omega)⟩
            case measure => simp [intOf]; omega
          · have hd1 : (L[k]?.getD 0 != 1) = true := by simp [h1]
            have H := Lib.hid (rgB_no (L := L) (k := k) (by rw [HL.out]; exact hlt) (by rw [List.getD_eq_getElem?_getD]; exact inB_no (by omega)))
            clear h1 h0
            go_wp2
            go_ret
            exact ⟨ret_rg H.out, rfl⟩
      · obtain rfl : k = n := by omega
        go_wp2
        go_ret
        exact ⟨ret_rg (by rw [rgB_all (by rw [HL.out]; exact HA.out), HL.out]; simp; omega), rfl⟩
  · go_enter Try.func9, Try.ntmps9
    go_wp2
    go_ret
    exact ⟨ret_rg (rgB_long (by rw [HL.out]; exact hn16)), rfl⟩

theorem implIsRings_calls (A : Option Addr) (n c : Nat) (L : List Int) (w : World) (hL : L.length = n) (hn : n ≤ 1048576) (hI : Ints w A L) :
    Calls Try.prog 9 #[.slice A n c] w fun e w' => e = .returned (.bool (rgB L)) ∧ Below w.heap.size w w' :=
  (isRings_still A n c L w hL hn hI).mono fun e w' ⟨he, hw⟩ => ⟨he, hw ▸ Below.refl _ _⟩

end Go.Proofs.Ytfdjlgpdbgmdkab
