/- Contracts: the goals of discs, and the distance to a peg. -/
import Derived.Test.YtcicjnpnhaddcaaDoorCodeW
namespace Go.Proofs.YtcicjnpnhaddcaaDoor
open Go.RowKit
set_option linter.unusedVariables false

theorem thirdPeg_calls (a b : Int) (w : World) (ha : 0 ≤ a ∧ a ≤ 2) (hb : 0 ≤ b ∧ b ≤ 2) :
    Calls Tryd.prog 70 #[.int .i64 a, .int .i64 b] w fun e w' => e = .returned (.int .i64 (3 - a - b)) ∧ w = w' := by
  go_enter Tryd.func70, Tryd.ntmps70
  go_wp2
  go_ret
  exact ⟨rfl, rfl⟩

set_option maxHeartbeats 1000000 in
theorem goalsOf_calls (A : Option Addr) (n c : Nat) (L : List Int) (a : Int) (w : World) (hL : L.length = n) (hn : n ≤ 8) (hI : Ints w A L) (hp : pegsOk L) (ha : 0 ≤ a ∧ a ≤ 2) :
    Calls Tryd.prog 59 #[.slice A n c, .int .i64 a] w fun e w' => ∃ g, e = .returned (.slice (some ⟨g, 0, none⟩) n n) ∧ w.heap.size ≤ g ∧ Row w' g 2 (goalsL L a) ∧ Below w.heap.size w w' := by
  have hmk := run_make_row' (P := Tryd.prog) 26 2 (.int .i64 0) 8 Tryd.underlying26 Tryd.infoI rfl .i64 .i64 n (by omega) (by omega)
  have HL := Lib.hid hL
  have HP := Lib.hid hp
  have HG := Lib.hid (goalsL_len L a)
  clear hL hp
  go_enter Tryd.func59, Tryd.ntmps59
  go_wp2
  go_loopw [1, 6] (fun b i wr => ∃ m : Nat, m ≤ n ∧ i = .int .i64 ((m : Int) - 1) ∧ b = .int .i64 (aft (L.drop m) a) ∧ wr.rowIs w.heap.size 2 n (downto (goalsL L a) m) ∧ Below w.heap.size w wr) (fun _ i _ => (intOf i + 1).toNat)
  case atStart =>
    exact ⟨n, Nat.le_refl _, rfl, by rw [List.drop_of_length_le (by rw [HL.out]; exact Nat.le_refl _)]; rfl, (World.rowIs_made _ _ _ _).congr (fun i hi => by simp [downto, hi]), (Below.refl _ _).alloc (Nat.le_refl _) _⟩
  case round =>
    obtain ⟨m, hm, rfl, rfl, hrow, hb⟩ := hrel
    cases m with
    | zero =>
      have HR := Lib.hid hrow
      clear hrow
      go_wp2
      go_ret
      exact ⟨_, rfl, Nat.le_refl _, by
        unfold Row
        rw [HG.out, HL.out]
        exact HR.out.congr (fun j hj => by simp [downto]), hb⟩
    | succ d =>
      have hd : d < L.length := by rw [HL.out]; omega
      have hx := pegsOk_at HP.out hd
      have hbd := aft_bd (L.drop (d + 1)) a (pegsOk_drop HP.out _) ha
      have HST := Lib.hid (aft_step L a hd)
      have HAT := Lib.hid (goalsL_at L a d hd)
      obtain ⟨ad, rfl, had, hc0⟩ := hI d hd
      have hc := (hb.cell (p := ad.add d) (by rw [add_block]; exact had)).trans hc0
      have hfz := hrow.frozen d
      have hold := hrow.cell (i := d) (by omega)
      have HR := Lib.hid hrow
      have HDS := Lib.hid (downto_step (goalsL L a) d)
      have HB := Lib.hid hb
      have hc2 : (wr.setCell ⟨w.heap.size, d, none⟩ (.int .i64 (aft (L.drop (d + 1)) a))).cell? (ad.add d) = some (.int .i64 (L[d]?.getD 0)) := by
        rw [World.cell?_setCell_other _ _ _ _ (by intro e; have := congrArg Addr.block e; rw [add_block] at this; simp at this; omega)]
        simpa using hc
      have hi0 : (0 : Int) ≤ (d : Int) := by omega
      have hi1 : (d : Int) < (n : Int) := by omega
      have hi2 : ((d + 1 : Nat) : Int) - 1 = (d : Int) := by omega
      rw [hi2]
      clear hrow hb hc0 hi2 hd
      generalize aft (L.drop (d + 1)) a = b at *
      by_cases hne : L[d]?.getD 0 = b
      · have ht : (L[d]?.getD 0 != b) = false := by simpa using hne
        have HNE := Lib.hid hne
        clear hne
        go_wp2
        go_roundw
        case rel =>
          refine ⟨d, by omega, by go_num, by rw [HST.out, if_pos HNE.out], (HR.out.set d _).congr (fun j _ => ?_), HB.out.setCell (Nat.le_refl _) _⟩
          have := HDS.out j
          rw [HAT.out] at this
          exact this
        case measure => simp [intOf] <;> omega
      · have ht : (L[d]?.getD 0 != b) = true := by simpa using hne
        have HNE := Lib.hid hne
        clear hne
        go_wp2_with fail
        refine (thirdPeg_calls b (L[d]?.getD 0) _ hbd hx).mono ?_
        rintro e w' ⟨rfl, rfl⟩
        go_wp2
        go_roundw
        case rel =>
          refine ⟨d, by omega, by go_num, by rw [HST.out, if_neg HNE.out], (HR.out.set d _).congr (fun j _ => ?_), HB.out.setCell (Nat.le_refl _) _⟩
          have := HDS.out j
          rw [HAT.out] at this
          exact this
        case measure => simp [intOf] <;> omega

end Go.Proofs.YtcicjnpnhaddcaaDoor
