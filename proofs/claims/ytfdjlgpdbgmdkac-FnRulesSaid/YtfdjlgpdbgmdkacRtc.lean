/- Contracts: rings that can be changed. -/
import Derived.Test.YtfdjlgpdbgmdkacConcat
import Derived.Test.YtfdjlgpdbgmdkacRk
import Derived.Laws.EntriesVeiled
namespace Go.Proofs.Ytfdjlgpdbgmdkac
open Go.RowKit
set_option linter.unusedVariables false

/-- The first place of a number in a list; the length if there is none. -/
def ixN (v : Int) : List Int → Nat
  | [] => 0
  | x :: t => if x = v then 0 else ixN v t + 1
def ixV (v : Int) (L : List Int) : Int := if ixN v L < L.length then (ixN v L : Int) else -1
theorem ixN_le (v : Int) : ∀ L : List Int, ixN v L ≤ L.length
  | [] => Nat.le_refl _
  | x :: t => by have := ixN_le v t; unfold ixN; split <;> simp <;> omega
theorem ixN_hit (v : Int) : ∀ (L : List Int) (k : Nat), k < L.length → L[k]?.getD 0 = v → ixN v L ≤ k
  | [], k, h, _ => absurd h (by simp)
  | x :: t, 0, _, h => by
    simp at h
    unfold ixN
    rw [if_pos h]
    exact Nat.le_refl _
  | x :: t, k + 1, hk, h => by
    have := ixN_hit v t k (by simpa using hk) (by simpa using h)
    unfold ixN
    split <;> omega
theorem ixN_miss (v : Int) : ∀ (L : List Int) (k : Nat), k ≤ L.length → (∀ j, j < k → ¬ L[j]?.getD 0 = v) → k ≤ ixN v L
  | _, 0, _, _ => Nat.zero_le _
  | [], k + 1, hk, _ => absurd hk (by simp)
  | x :: t, k + 1, hk, h => by
    have h0 := h 0 (by omega)
    simp at h0
    have := ixN_miss v t k (by simpa using hk) (fun j hj => by have := h (j + 1) (by omega); simpa using this)
    unfold ixN
    rw [if_neg h0]
    omega
theorem ixN_at (v : Int) : ∀ L : List Int, ixN v L < L.length → L[ixN v L]?.getD 0 = v
  | [], h => absurd h (by simp)
  | x :: t, h => by
    unfold ixN at h ⊢
    by_cases hx : x = v
    · rw [if_pos hx]; simpa using hx
    · rw [if_neg hx] at h ⊢
      have := ixN_at v t (by simpa using h)
      simpa using this
theorem ixN_mem (v : Int) : ∀ L : List Int, ixN v L < L.length ↔ v ∈ L
  | [] => by simp
  | x :: t => by
    unfold ixN
    by_cases hx : x = v
    · rw [if_pos hx]; simp [hx]
    · rw [if_neg hx, List.mem_cons, ← ixN_mem v t]
      simp
      exact fun h => absurd h.symm hx
theorem ret_ix {a b : Int} (h : a = b) : Ending.returned (.int .i64 a) = .returned (.int .i64 b) := by rw [h]

set_option maxHeartbeats 400000 in
theorem index_calls (A : Option Addr) (n c : Nat) (L : List Int) (v : Int) (w : World) (hL : L.length = n) (hn : n ≤ 1000) (hI : Ints w A L) :
    Calls Try.prog 57 #[.slice A n c, .int .i64 v] w fun e w' => e = .returned (.int .i64 (ixV v L)) ∧ w = w' := by
  have HL := Lib.hid hL
  have HI := Lib.hid hI
  clear hL hI
  go_enter Try.func57, Try.ntmps57
  go_wp2
  go_loop [5, 8] (fun _ i => ∃ k : Nat, k ≤ n ∧ i = .int .i64 k ∧ Hid (∀ j, j < k → ¬ L[j]?.getD 0 = v)) (fun _ i => n - (intOf i).toNat)
  case atStart => exact ⟨0, Nat.zero_le _, rfl, fun j hj => absurd hj (by omega)⟩
  case round =>
    obtain ⟨k, hk, rfl, hall⟩ := hrel
    by_cases hlt : k < n
    · obtain ⟨ad, rfl, had, hc⟩ := HI.out k (by rw [HL.out]; exact hlt)
      by_cases hv : L[k]?.getD 0 = v
      · have ht : (v == L[k]?.getD 0) = true := by simp [hv]
        have H : Hid ((k : Int) = ixV v L) := by
          have h1 := ixN_hit v L k (by rw [HL.out]; exact hlt) hv
          have h2 := ixN_miss v L k (by rw [HL.out]; omega) hall.out
          unfold Hid ixV
          rw [if_pos (by rw [HL.out]; omega)]
          omega
        clear hv
        go_wp2
        go_ret
        exact ⟨ret_ix H.out, rfl⟩
      · have ht : (v == L[k]?.getD 0) = false := by simpa using fun e => hv e.symm
        have HV := Lib.hid hv
        clear hv
        go_wp2
        go_round
        case rel => exact ⟨k + 1, by omega, by go_num, fun j hj => by
          by_cases hjk : j = k
          · subst hjk; exact HV.out
          · exact hall.out j (by omega)⟩
        case measure => simp [intOf]; omega
    · obtain rfl : k = n := by omega
      have H : Hid ((-1 : Int) = ixV v L) := by
        have h2 := ixN_miss v L k (by rw [HL.out]; omega) hall.out
        unfold Hid ixV
        rw [if_neg (by rw [HL.out]; omega)]
      go_wp2
      go_ret
      exact ⟨ret_ix H.out, rfl⟩

/-- The ring behind the least one that is on. -/
def blV (L : List Int) : Int := if ixN 1 L < L.length then (ixN 1 L : Int) + 1 else 0
theorem blV_ix (L : List Int) : ixV 1 L + 1 = blV L := by unfold ixV blV; split <;> omega
theorem blV_bd (L : List Int) : 0 ≤ blV L ∧ blV L ≤ L.length := by unfold blV; split <;> omega
theorem ret_bl {a b : Int} {x y : Bool} (h : a = b) (h' : x = y) : Ending.returned (.tuple #[.int .i64 a, .bool x]) = .returned (.tuple #[.int .i64 b, .bool y]) := by rw [h, h']

def rtcL (L : List Int) : List Int := (if 0 < L.length then [0] else []) ++ (if ixN 1 L + 1 < L.length then [(ixN 1 L : Int) + 1] else [])
theorem rtcL_len (L : List Int) : (rtcL L).length ≤ 2 := by unfold rtcL; split <;> split <;> simp

end Go.Proofs.Ytfdjlgpdbgmdkac
