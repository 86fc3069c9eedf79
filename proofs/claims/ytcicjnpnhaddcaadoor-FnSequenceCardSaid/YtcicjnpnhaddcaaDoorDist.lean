/- Contracts: the distance to a peg. -/
import Derived.Test.YtcicjnpnhaddcaaDoorGoals
namespace Go.Proofs.YtcicjnpnhaddcaaDoor
open Go.RowKit
open Go.RowKit (wrap64)
set_option linter.unusedVariables false

/-- 1 shifted to the left, as the walk writes it, is a power of 2. -/
theorem shl_pow {k : Nat} (hk : k < 9) : wrap64 ((2 : Int) ^ k) = pow2 k := by
  have e : (2 : Int) ^ k = pow2 k := by unfold pow2; simp
  have hb := pow2_bd (k := k) (by omega)
  rw [e]
  exact IntWalk.wrap64_in _ (by omega)

set_option maxHeartbeats 1000000 in
theorem distanceToPeg_calls (A : Option Addr) (n c : Nat) (L : List Int) (a : Int) (w : World) (hL : L.length = n) (hn : n ≤ 8) (hI : Ints w A L) (hp : pegsOk L) (ha : 0 ≤ a ∧ a ≤ 2) :
    Calls Tryd.prog 34 #[.slice A n c, .int .i64 a] w fun e w' => e = .returned (.int .i64 (distP L a)) ∧ Below w.heap.size w w' := by
  have HL := Lib.hid hL
  have HG := Lib.hid (goalsL_len L a)
  clear hL
  have HDEF : distP L a = distTo L (goalsL L a) n := by unfold distP; rw [HL.out]
  rw [HDEF]
  clear HDEF
  obtain ⟨G, hG⟩ : ∃ G, goalsL L a = G := ⟨_, rfl⟩
  rw [hG]
  rw [hG] at HG
  have HGG := Lib.hid hG
  clear hG
  go_enter Tryd.func34, Tryd.ntmps34
  go_wp2_with fail
  refine (goalsOf_calls A n c L a _ HL.out hn hI hp ha).mono ?_
  rintro e w1 ⟨g, rfl, hg, hrow, hb⟩
  rw [HGG.out] at hrow
  have HR := Lib.hid hrow
  have HB := Lib.hid hb
  have HI := Lib.hid (hI.below hb)
  clear hrow hb hg hI
  go_wp2
  go_loopw [5, 6, 7, 12] (fun s _ _ i wr => ∃ k : Nat, k ≤ n ∧ i = .int .i64 k ∧ s = .int .i64 (distTo L G k) ∧ ∃ m, wr = w1.drewN m) (fun _ _ _ i _ => n - (intOf i).toNat)
  case atStart => exact ⟨0, Nat.zero_le _, rfl, rfl, 0, rfl⟩
  case round =>
    obtain ⟨k, hk, rfl, rfl, m, rfl⟩ := hrel
    by_cases hlt : k < n
    · obtain ⟨ad, rfl, had, hc⟩ := HI.out k (by rw [HL.out]; exact hlt)
      have hc' : w1.cell? ⟨g, k, none⟩ = some (.int .i64 (G[k]?.getD 0)) := by
        have := HR.out.cell (i := k) (by rw [HG.out, HL.out]; exact hlt)
        simpa using this
      have hbd := distTo_bd L G k (by omega)
      have hpw := pow2_bd (k := k) (by omega)
      have hk0 : (0 : Int) ≤ (k : Int) := by omega
      have hk1 : (k : Int) < (n : Int) := by omega
      by_cases hne : L[k]?.getD 0 = G[k]?.getD 0
      · have ht : (L[k]?.getD 0 != G[k]?.getD 0) = false := by simpa using hne
        have HST : Hid (distTo L G (k + 1) = distTo L G k) := by unfold Hid; rw [distTo, if_pos hne, Int.add_zero]
        clear hne
        go_wp2
        go_roundw
        case rel => exact ⟨k + 1, by omega, by go_num, by rw [HST.out], by first | exact ⟨_, rfl⟩ | exact ⟨_, World.drewN_drewN _ _ _⟩⟩
        case measure => simp [intOf]; omega
      · have ht : (L[k]?.getD 0 != G[k]?.getD 0) = true := by simpa using hne
        have HST : Hid (distTo L G (k + 1) = distTo L G k + pow2 k) := by unfold Hid; rw [distTo, if_neg hne]
        clear hne
        have hsh := shl_pow (k := k) (by omega)
        generalize distTo L G k = s at *
        go_wp2
        clear hsh
        go_roundw
        case rel => exact ⟨k + 1, by omega, by go_num, by rw [HST.out], by first | exact ⟨_, rfl⟩ | exact ⟨_, World.drewN_drewN _ _ _⟩⟩
        case measure => simp [intOf]; omega
    · obtain rfl : k = n := by omega
      go_wp2
      go_ret
      exact ⟨rfl, belowDraws HB.out _⟩

end Go.Proofs.YtcicjnpnhaddcaaDoor
