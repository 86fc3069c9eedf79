/- Contracts: the law's own helpers over a slice of integers and a state. -/
import Derived.Test.YtppfheodpalmpaaBase
import Derived.Test.YtppfheodpalmpaaRows
import Derived.ProofKit
import Derived.OpenShut
import Derived.WalkSpells
import Derived.Deep.QuietTactic
import Derived.BigQuiet
namespace Go.Proofs.Ytppfheodpalmpaa
open Go.RowKit
set_option linter.unusedVariables false

theorem Try.infoI : (Try.prog.info? 2).map (fun i => (i.zero, i.size, i.bytes)) = some (some (.int .i64 0), 1, 8) := by kernel_rfl

theorem szInt64S_calls (A : Option Addr) (n c : Nat) (left : Int) (w : World) (hn : n ≤ 9223372036854775807) (h0 : 0 ≤ left) (h1 : left ≤ 1048576) :
    Calls Try.prog 33 #[.slice A n c, .int .i64 left] w fun e w' => e = .returned (.int .i64 (szI n left)) ∧ w = w' := by
  by_cases h : left < n
  · go_enter Try.func33, Try.ntmps33
    go_wp2
    go_ret
    exact ⟨ret_int (by unfold szI; omega), rfl⟩
  · go_enter Try.func33, Try.ntmps33
    go_wp2
    go_ret
    exact ⟨ret_int (by unfold szI; omega), rfl⟩

theorem szI_lo (n : Nat) (left : Int) (h0 : 0 ≤ left) : -1 ≤ szI n left := by unfold szI; omega
theorem szI_hi (n : Nat) (left : Int) (h0 : 0 ≤ left) : szI n left ≤ left := by unfold szI; omega

theorem szState_calls (A : Option Addr) (n c : Nat) (p left : Int) (w : World) (hn : n ≤ 9223372036854775807) (h0 : 0 ≤ left) (h1 : left ≤ 1048576) :
    Calls Try.prog 8 #[.agg #[.int .i64 p, .slice A n c], .int .i64 left] w fun e w' => e = .returned (.int .i64 (szI n left)) ∧ Below w.heap.size w w' := by
  go_enter Try.func8, Try.ntmps8
  go_wp2_with (go_at_call 33; refine (szInt64S_calls A n c left _ hn h0 h1).mono ?_; rintro e w' ⟨rfl, rfl⟩)
  all_goals
    go_ret
    exact ⟨ret_int (by have := szI_lo n left h0; omega), (Below.refl _ _).alloc (Nat.le_refl _) _⟩

/-- The list so far, then noughts. -/
def upto (L : List Int) (k j : Nat) : Value := if j < k then .int .i64 (L.getD j 0) else .int .i64 0
theorem upto_step (L : List Int) (k : Nat) : ∀ j, (if j = k then Value.int .i64 (L[k]?.getD 0) else upto L k j) = upto L (k + 1) j := by
  intro j
  unfold upto
  by_cases h : j = k
  · subst h; simp
  · rw [if_neg h]
    by_cases h2 : j < k
    · rw [if_pos h2, if_pos (by omega)]
    · rw [if_neg h2, if_neg (by omega)]

set_option maxHeartbeats 400000 in
theorem toInt64S_calls (A : Option Addr) (n c : Nat) (L : List Int) (w : World) (hL : L.length = n) (hn : n ≤ 1048576) (hI : Ints w A L) :
    Calls Try.prog 35 #[.slice A n c] w fun e w' => ∃ g, e = .returned (.slice (some ⟨g, 0, none⟩) n n) ∧ w.heap.size ≤ g ∧ Row w' g 2 L ∧ Below w.heap.size w w' := by
  have hmk := run_make_row' (P := Try.prog) 22 2 (.int .i64 0) 8 Try.underlying22 Try.infoI rfl .i64 .i64 n (by omega) (by omega)
  have HL : Hid (L.length = n) := hL
  clear hL
  go_enter Try.func35, Try.ntmps35
  go_wp2
  go_loopw [4] (fun i wr => ∃ k : Nat, k ≤ n ∧ i = .int .i64 k ∧ wr.rowIs w.heap.size 2 n (upto L k) ∧ Below w.heap.size w wr) (fun i _ => n - (intOf i).toNat)
  case atStart =>
    exact ⟨0, Nat.zero_le _, rfl, (World.rowIs_made _ _ _ _).congr (fun i _ => by simp [upto]), (Below.refl _ _).alloc (Nat.le_refl _) _⟩
  case round =>
    obtain ⟨k, hk, rfl, hrow, hb⟩ := hrel
    by_cases hlt : k < n
    · obtain ⟨ad, rfl, had, hc⟩ := (hI.below hb) k (by rw [HL.out]; exact hlt)
      have hfz := hrow.frozen k
      have hold := hrow.cell hlt
      go_wp2
      go_roundw
      case rel => exact ⟨k + 1, by omega, by go_num, (hrow.set k _).congr (fun j _ => upto_step L k j), hb.setCell (Nat.le_refl _) _⟩
      case measure => simp [intOf]; omega
    · obtain rfl : k = n := by omega
      go_wp2
      go_ret
      exact ⟨_, rfl, Nat.le_refl _, by
        unfold Row
        rw [HL.out]
        exact hrow.congr (fun j hj => by simp [upto, hj]), hb⟩

set_option maxHeartbeats 400000 in
theorem toState_calls (A : Option Addr) (n c : Nat) (p : Int) (L : List Int) (w : World) (hL : L.length = n) (hn : n ≤ 1048576) (hI : Ints w A L) :
    Calls Try.prog 10 #[.agg #[.int .i64 p, .slice A n c]] w fun e w' => ∃ g, e = .returned (.agg #[.int .i64 p, .slice (some ⟨g, 0, none⟩) n n]) ∧ w.heap.size ≤ g ∧ Row w' g 2 L ∧ Below w.heap.size w w' := by
  go_enter Try.func10, Try.ntmps10
  go_wp2_with fail
  refine (toInt64S_calls A n c L _ hL hn (hI.below ((((Below.refl _ _).alloc (Nat.le_refl _) _).alloc (by simp) _).alloc (by simp; omega) _))).mono ?_
  rintro e w1 ⟨g, rfl, hg, hrow, hb⟩
  obtain ⟨hc, hf⟩ := keptCells hb
  have hz : w.heap.size + 3 ≤ w1.heap.size := by have := hb.size; simp at this; omega
  have hg' : w.heap.size + 3 ≤ g := by simp at hg; omega
  have HB := Lib.hid hb
  have HR := Lib.hid hrow
  clear hb hrow hg
  go_wp2
  refine bodyPost_ret (v := .agg #[.int .i64 p, .slice (some ⟨g, 0, none⟩) n n]) (by simp [results, Try.results10, go_sem, hc]) rfl ⟨g, rfl, by omega, ?_, ?_⟩
  · exact ((HR.out.setOther (by simp; omega) _).setOther (by simp; omega) _).setOther (by simp; omega) _
  · exact ((((((Below.refl _ _).alloc (Nat.le_refl _) _).alloc (by simp) _).alloc (by simp; omega) _).trans (HB.out.mono (by simp; omega))).setCell (by simp; omega) _).setCell (by simp) _ |>.setCell (by simp) _

theorem list_ne_len {L L' : List Int} {n n' : Nat} (h : L.length = n) (h' : L'.length = n') (hne : ¬ n = n') : decide (L = L') = false := by
  simp
  rintro rfl
  omega

set_option maxHeartbeats 400000 in
theorem eqInt64S_calls (A A' : Option Addr) (n c n' c' : Nat) (L L' : List Int) (w : World) (hL : L.length = n) (hL' : L'.length = n') (hn : n ≤ 1048576) (hn' : n' ≤ 1048576) (hI : Ints w A L) (hI' : Ints w A' L') :
    Calls Try.prog 37 #[.slice A n c, .slice A' n' c'] w fun e w' => e = .returned (.bool (decide (L = L'))) ∧ ∃ m, w' = w.drewN m := by
  have HL : Hid (L.length = n) := hL
  have HL' : Hid (L'.length = n') := hL'
  clear hL hL'
  by_cases hne : n = n'
  · subst hne
    go_enter Try.func37, Try.ntmps37
    go_wp2
    go_loopw [5] (fun i wr => ∃ k : Nat, k ≤ n ∧ i = .int .i64 k ∧ (∀ j, j < k → L.getD j 0 = L'.getD j 0) ∧ ∃ m, wr = w.drewN m) (fun i _ => n - (intOf i).toNat)
    case atStart => exact ⟨0, Nat.zero_le _, rfl, fun j hj => absurd hj (by omega), 0, rfl⟩
    case round =>
      obtain ⟨k, hk, rfl, hsame, m, rfl⟩ := hrel
      have HS := Lib.hid hsame
      clear hsame
      by_cases hlt : k < n
      · obtain ⟨ad, rfl, had, hc⟩ := hI k (by rw [HL.out]; exact hlt)
        obtain ⟨ad', rfl, had', hc'⟩ := hI' k (by rw [HL'.out]; exact hlt)
        go_wp2_with fail
        go_quiet (fail)
        go_wp2
        · have hd : (L[k]?.getD 0 != L'[k]?.getD 0) = true := by assumption
          go_ret
          exact ⟨ret_bool (by
            symm
            rw [decide_eq_false_iff_not]
            rintro rfl
            simp at hd), by first | exact ⟨_, rfl⟩ | exact ⟨_, World.drewN_drewN _ _ _⟩⟩
        · have hd : (L[k]?.getD 0 != L'[k]?.getD 0) = false := by assumption
          go_roundw
          case rel => exact ⟨k + 1, by omega, by go_num, fun j hj => by
            by_cases hjk : j = k
            · subst hjk; simpa using hd
            · exact HS.out j (by omega), by first | exact ⟨_, rfl⟩ | exact ⟨_, World.drewN_drewN _ _ _⟩⟩
          case measure => simp [intOf]; omega
      · obtain rfl : k = n := by omega
        go_wp2
        go_ret
        exact ⟨ret_bool (by
          symm
          rw [decide_eq_true_iff]
          exact list_ext HL.out HL'.out HS.out), _, rfl⟩
  · have hd : ((n : Int) != (n' : Int)) = true := by simp; omega
    go_enter Try.func37, Try.ntmps37
    go_wp2
    go_ret
    exact ⟨ret_bool (list_ne_len HL.out HL'.out hne).symm, 0, rfl⟩

set_option maxHeartbeats 400000 in
theorem eqState_calls (A A' : Option Addr) (n c n' c' : Nat) (p p' : Int) (L L' : List Int) (w : World) (hL : L.length = n) (hL' : L'.length = n') (hn : n ≤ 1048576) (hn' : n' ≤ 1048576) (hI : Ints w A L) (hI' : Ints w A' L') :
    Calls Try.prog 13 #[.agg #[.int .i64 p, .slice A n c], .agg #[.int .i64 p', .slice A' n' c']] w fun e w' => e = .returned (.bool (decide (p = p' ∧ L = L'))) ∧ Below w.heap.size w w' := by
  by_cases hp : p = p'
  · subst hp
    go_enter Try.func13, Try.ntmps13
    go_wp2_with fail
    refine (eqInt64S_calls A A' n c n' c' L L' _ hL hL' hn hn' (hI.below (((Below.refl _ _).alloc (Nat.le_refl _) _).alloc (by simp) _)) (hI'.below (((Below.refl _ _).alloc (Nat.le_refl _) _).alloc (by simp) _))).mono ?_
    rintro e w1 ⟨rfl, m, rfl⟩
    go_wp2
    · have ht : (!decide (L = L')) = true := by assumption
      go_ret
      exact ⟨ret_bool (by simpa using ht), belowDraws (((Below.refl _ _).alloc (Nat.le_refl _) _).alloc (by simp) _) m⟩
    · have ht : (!decide (L = L')) = false := by assumption
      go_ret
      exact ⟨ret_bool (by simpa using ht), belowDraws (((Below.refl _ _).alloc (Nat.le_refl _) _).alloc (by simp) _) m⟩
  · have hd : (p != p') = true := by simp; omega
    go_enter Try.func13, Try.ntmps13
    go_wp2
    go_ret
    exact ⟨ret_bool (by simp [hp]), ((Below.refl _ _).alloc (Nat.le_refl _) _).alloc (by simp) _⟩

end Go.Proofs.Ytppfheodpalmpaa
