/- Contracts: the time of a state: the pure side, and l01Same. -/
import Derived.Test.YtcicjnpnhaddcaaDoorStAt
import Derived.Test.YtcicjnpnhaddcaaDoorCode
import Derived.Test.YtcicjnpnhaddcaaDoorDist
import Derived.Test.YtcicjnpnhaddcaaDoorIsPerf
namespace Go.Proofs.YtcicjnpnhaddcaaDoor
open Go.RowKit
open Go.RowKit (wrap64)
set_option linter.unusedVariables false

def okTm (n t : Nat) : Bool := decide (distP (atL t n) 0 = (t : Int)) || decide (2 ^ n ≤ t)
theorem okTm_all : ∀ n : Fin 9, ∀ t : Fin 256, okTm n.val t.val = true := by decide +kernel
theorem dist_at {n t : Nat} (hn : n ≤ 8) (ht : t < 2 ^ n) : distP (atL t n) 0 = (t : Int) := by
  have h256 : 2 ^ n ≤ 256 := (pow2n8' hn).2
  have h := okTm_all ⟨n, by omega⟩ ⟨t, by omega⟩
  unfold okTm at h
  simp only [Bool.or_eq_true, decide_eq_true_eq] at h
  rcases h with h | h
  · exact h
  · omega
/-- The state is at its distance from the peg 0, or at no time. -/
def tmB (L : List Int) : Bool := decide (atL (distP L 0).toNat L.length = L)
theorem tm_of {L : List Int} {n t : Nat} (hL : L.length = n) (hn : n ≤ 8) (ht : t < 2 ^ n) (h : atL t n = L) : tmB L = true ∧ distP L 0 = (t : Int) := by
  have hd := dist_at hn ht
  rw [h] at hd
  refine ⟨?_, hd⟩
  unfold tmB
  rw [hd, Int.toNat_natCast, hL, h]
  simp
theorem distP_lt {L : List Int} {n : Nat} (hL : L.length = n) (hn : n ≤ 8) : 0 ≤ distP L 0 ∧ distP L 0 < ((2 ^ n : Nat) : Int) := by
  have h := distTo_bd L (goalsL L 0) L.length (by omega)
  unfold distP
  have e : pow2 L.length = ((2 ^ n : Nat) : Int) := by rw [hL]; unfold pow2; simp
  omega
theorem tm_no {L : List Int} {n : Nat} (hL : L.length = n) (hn : n ≤ 8) (h : ∀ t, t < 2 ^ n → atL t n ≠ L) : tmB L = false := by
  cases hb : tmB L with
  | false => rfl
  | true =>
    exfalso
    unfold tmB at hb
    have hd := distP_lt hL hn
    exact h (distP L 0).toNat (by omega) (by rw [← hL]; exact of_decide_eq_true hb)
def toV (p : Int) (L : List Int) : Int := if code1 p L = 0 then (if tmB L = true then distP L 0 else 0) else 0
def toC (p : Int) (L : List Int) : Int := if code1 p L = 0 then (if tmB L = true then 0 else 4) else code1 p L
theorem to_yes {p : Int} {L : List Int} (h : code1 p L = 0) (h2 : tmB L = true) : toV p L = distP L 0 ∧ toC p L = 0 := by unfold toV toC; rw [if_pos h, if_pos h, if_pos h2, if_pos h2]; exact ⟨rfl, rfl⟩
theorem to_none {p : Int} {L : List Int} (h : code1 p L = 0) (h2 : tmB L = false) : toV p L = 0 ∧ toC p L = 4 := by unfold toV toC; rw [if_pos h, if_pos h, h2]; exact ⟨rfl, rfl⟩
theorem to_bad {p : Int} {L : List Int} (h : ¬ code1 p L = 0) : toV p L = 0 ∧ toC p L = code1 p L := by unfold toV toC; rw [if_neg h, if_neg h]; exact ⟨rfl, rfl⟩
def sameB (L M : List Int) : Bool := decide (L = M)
theorem same_yes {L M : List Int} {n : Nat} (hL : L.length = n) (hM : M.length = n) (h : ∀ j, j < n → L[j]?.getD 0 = M[j]?.getD 0) : sameB L M = true := by
  refine decide_eq_true (List.ext_getElem (by omega) fun j h1 h2 => ?_)
  have := h j (by omega)
  rw [List.getElem?_eq_getElem h1, List.getElem?_eq_getElem h2] at this
  exact this
theorem same_no {L M : List Int} {j : Nat} (h : L[j]?.getD 0 ≠ M[j]?.getD 0) : sameB L M = false := decide_eq_false fun e => h (by rw [e])

set_option maxHeartbeats 1000000 in
theorem l01Same_calls (A B : Option Addr) (n c d : Nat) (L M : List Int) (w : World) (hL : L.length = n) (hM : M.length = n) (hn : n ≤ 8) (hI : Ints w A L) (hJ : Ints w B M) :
    Calls Tryd.prog 37 #[.agg #[.int .i64 3, .slice A n c], .agg #[.int .i64 3, .slice B n d]] w fun e w' => e = .returned (.bool (sameB L M)) ∧ Below w.heap.size w w' := by
  have HL := Lib.hid hL
  have HM := Lib.hid hM
  obtain ⟨W1, hW1⟩ : ∃ W1, W1 = (w.alloc (.cells #[.int .i64 3, .slice A n c] 28)).alloc (.cells #[.int .i64 3, .slice B n d] 28) := ⟨_, rfl⟩
  have X0 : Hid (Box W1 w.heap.size 28 #[.int .i64 3, .slice A n c]) := by unfold Hid; rw [hW1]; exact (Box.new _ _ _).alloc _
  have Y0 : Hid (Box W1 (w.heap.size + 1) 28 #[.int .i64 3, .slice B n d]) := by
    unfold Hid
    have := Box.new (w.alloc (.cells #[.int .i64 3, .slice A n c] 28)) 28 #[.int .i64 3, .slice B n d]
    rw [World.size_alloc] at this
    rw [hW1]
    exact this
  have HB : Hid (Below w.heap.size w W1) := by unfold Hid; rw [hW1]; exact ((Below.refl _ w).alloc (Nat.le_refl _) _).alloc (by simp) _
  have HI := Lib.hid (hI.below HB.out)
  have HJ := Lib.hid (hJ.below HB.out)
  clear hL hM hI hJ
  go_enter Tryd.func37, Tryd.ntmps37
  go_wp2
  rw [← hW1]
  clear hW1
  obtain ⟨x0, x1, _, _⟩ := X0.out.two
  obtain ⟨y0, y1, _, _⟩ := Y0.out.two
  go_loopw [5] (fun i wr => ∃ k : Nat, k ≤ n ∧ i = .int .i64 k ∧ Hid (∀ j, j < k → L[j]?.getD 0 = M[j]?.getD 0) ∧ ∃ m, wr = W1.drewN m) (fun i _ => n - (intOf i).toNat)
  case atStart => exact ⟨0, Nat.zero_le _, rfl, fun j hj => absurd hj (by omega), 0, rfl⟩
  case round =>
    obtain ⟨k, hk, rfl, hall, m, rfl⟩ := hrel
    by_cases hlt : k < n
    · obtain ⟨ad, rfl, had, hc⟩ := HI.out k (by rw [HL.out]; exact hlt)
      obtain ⟨ad', rfl, had', hc'⟩ := HJ.out k (by rw [HM.out]; exact hlt)
      rw [List.getD_eq_getElem?_getD] at hc hc'
      have hk0 : (0 : Int) ≤ (k : Int) := by omega
      have hk1 : (k : Int) < (n : Int) := by omega
      by_cases hne : L[k]?.getD 0 = M[k]?.getD 0
      · have ht : (L[k]?.getD 0 != M[k]?.getD 0) = false := by simpa using hne
        have HST : Hid (∀ j, j < k + 1 → L[j]?.getD 0 = M[j]?.getD 0) := fun j hj => by
          by_cases h : j = k
          · rw [h]; exact hne
          · exact hall.out j (by omega)
        clear hne
        go_wp2_with fail
        go_quiet (fail)
        go_wp2
        go_roundw
        case rel => exact ⟨k + 1, by omega, by go_num, HST, by first | exact ⟨_, rfl⟩ | exact ⟨_, World.drewN_drewN _ _ _⟩⟩
        case measure => simp [intOf]; omega
      · have ht : (L[k]?.getD 0 != M[k]?.getD 0) = true := by simpa using hne
        have HNO := Lib.hid (same_no hne)
        clear hne
        go_wp2_with fail
        go_quiet (fail)
        go_wp2
        go_ret
        exact ⟨ret_bool HNO.out.symm, by first | exact belowDraws HB.out _ | (rw [World.drewN_drewN]; exact belowDraws HB.out _)⟩
    · obtain rfl : k = n := by omega
      have HYES := Lib.hid (same_yes HL.out HM.out hall.out)
      go_wp2
      go_ret
      exact ⟨ret_bool HYES.out.symm, belowDraws HB.out _⟩

end Go.Proofs.YtcicjnpnhaddcaaDoor
