/- Contracts: the code of one state and of two states of three pegs. · Contracts: the code of a state and a peg; the goals and the distance to a peg. · Contracts: the goals of discs, and the distance to a peg. · Contracts: the distance to a peg. · Contracts: the code of two states of three pegs. · Contracts: the greatest disc that differs, and both numbers, by the specification's model. -/
import Derived.Test.YtbcgomimfgggnaaPk1
import Derived.Deep.DeepCutAuto
import Derived.Deep.RegionHeld3
namespace Go.Proofs.Ytbcgomimfgggnaa
open Go.RowKit
set_option linter.unusedVariables false
set_option maxRecDepth 100000

theorem ret_int' {a b : Int} (h : b = a) : Ending.returned (.int .i64 a) = .returned (.int .i64 b) := by rw [h]

set_option maxHeartbeats 1000000 in
theorem l02Code_one (g : Nat) (A : Option Addr) (n c : Nat) (p : Int) (L : List Int) (w : World) (hx : Box w g 30 #[.int .i64 p, .slice A n c]) (hL : L.length = n) (hn : n ≤ 1048576) (hI : Ints w A L) :
    Calls Try.prog 35 #[.slice (some ⟨g, 0, none⟩) 1 1] w fun e w' => e = .returned (.int .i64 (code1 p L)) ∧ Below w.heap.size w w' := by
  have HL := Lib.hid hL
  have X0 := Lib.hid hx
  clear hL hx
  obtain ⟨x0, x1, _, _⟩ := X0.out.two
  by_cases hs : stateB p L = true
  · have HS := Lib.hid hs
    by_cases hp : p = 3
    · have hd : (p != 3) = false := by simpa using hp
      have HP := Lib.hid hp
      clear hp
      go_enter Try.func35, Try.ntmps35
      go_wp2
      refine wp_loop_rounds 2 ?_
      rw [rounds_succ]
      go_wp2_with fail
      refine (l01Is_calls A n c p L _ HL.out hn hI).mono ?_
      rintro e w1 ⟨rfl, hb1⟩
      obtain ⟨y0, y1, _, _⟩ := (X0.out.below hb1 X0.out.lt).two
      have HB := Lib.hid hb1
      clear hb1 x0 x1
      go_wp2
      rw [rounds_succ]
      go_wp2
      refine wp_loop_rounds 2 ?_
      rw [rounds_succ]
      go_wp2_with fail
      go_quiet (fail)
      go_wp2
      rw [rounds_succ]
      go_wp2
      go_ret
      exact ⟨ret_int' (by unfold code1; rw [if_pos HS.out, if_pos HP.out]), by first | exact HB.out | exact belowDraws HB.out _⟩
    · have hd : (p != 3) = true := by simpa using hp
      go_enter Try.func35, Try.ntmps35
      go_wp2
      refine wp_loop_rounds 2 ?_
      rw [rounds_succ]
      go_wp2_with fail
      refine (l01Is_calls A n c p L _ HL.out hn hI).mono ?_
      rintro e w1 ⟨rfl, hb1⟩
      obtain ⟨y0, y1, _, _⟩ := (X0.out.below hb1 X0.out.lt).two
      have HB := Lib.hid hb1
      clear hb1 x0 x1
      go_wp2
      rw [rounds_succ]
      go_wp2
      refine wp_loop_rounds 2 ?_
      rw [rounds_succ]
      go_wp2_with fail
      go_quiet (fail)
      go_wp2
      go_ret
      exact ⟨ret_int' (by unfold code1; rw [if_pos HS.out, if_neg hp]), by first | exact HB.out | exact belowDraws HB.out _⟩
  · have hs' : stateB p L = false := by simpa using hs
    clear hs
    go_enter Try.func35, Try.ntmps35
    go_wp2
    refine wp_loop_rounds 2 ?_
    rw [rounds_succ]
    go_wp2_with fail
    refine (l01Is_calls A n c p L _ HL.out hn hI).mono ?_
    rintro e w1 ⟨rfl, hb1⟩
    go_wp2
    go_ret
    exact ⟨ret_int' (by unfold code1; rw [if_neg (by simp [hs'])]), hb1⟩

set_option maxHeartbeats 1000000 in
theorem codeOfStates_one (g : Nat) (A : Option Addr) (n c : Nat) (p : Int) (L : List Int) (w : World) (hx : Box w g 30 #[.int .i64 p, .slice A n c]) (hL : L.length = n) (hn : n ≤ 1048576) (hI : Ints w A L) :
    Calls Try.prog 38 #[.slice (some ⟨g, 0, none⟩) 1 1] w fun e w' => e = .returned (.int .i64 (code1 p L)) ∧ Below w.heap.size w w' := by
  have HL := Lib.hid hL
  have X0 := Lib.hid hx
  clear hL hx
  obtain ⟨x0, x1, _, _⟩ := X0.out.two
  have hI1 := hI.below ((Below.refl _ w).alloc (Nat.le_refl _) (.cells #[.int .i64 p, .slice A n c] 30))
  by_cases hs : stateB p L = true
  · have HS := Lib.hid hs
    by_cases hp : p = 3
    · have hd : (p != 3) = false := by simpa using hp
      have HP := Lib.hid hp
      clear hp
      go_enter Try.func38, Try.ntmps38
      go_wp2
      refine wp_loop_rounds 2 ?_
      rw [rounds_succ]
      go_wp2_with fail
      refine (implIsState_calls A n c p L _ HL.out hn hI1).mono ?_
      rintro e w1 ⟨rfl, hb1⟩
      have X1 := Lib.hid ((X0.out.alloc (.cells #[.int .i64 p, .slice A n c] 30)).below hb1 (by have := X0.out.lt; simp; omega))
      have HB := Lib.hid (((Below.refl _ w).alloc (Nat.le_refl _) (.cells #[.int .i64 p, .slice A n c] 30)).trans (hb1.mono (by simp)))
      clear hb1 x0 x1
      obtain ⟨x0, x1, _, _⟩ := X1.out.two
      obtain ⟨y0, y1, _, _⟩ := (X1.out.alloc (.cells #[.int .i64 p, .slice A n c] 30)).two
      go_wp2
      rw [rounds_succ]
      go_wp2
      refine wp_loop_rounds 2 ?_
      rw [rounds_succ]
      go_wp2_with fail
      go_quiet (fail)
      go_wp2
      rw [rounds_succ]
      go_wp2
      go_ret
      exact ⟨ret_int' (by unfold code1; rw [if_pos HS.out, if_pos HP.out]), by first | exact belowDraws (HB.out.alloc HB.out.size _) _ | exact HB.out.alloc HB.out.size _⟩
    · have hd : (p != 3) = true := by simpa using hp
      go_enter Try.func38, Try.ntmps38
      go_wp2
      refine wp_loop_rounds 2 ?_
      rw [rounds_succ]
      go_wp2_with fail
      refine (implIsState_calls A n c p L _ HL.out hn hI1).mono ?_
      rintro e w1 ⟨rfl, hb1⟩
      have X1 := Lib.hid ((X0.out.alloc (.cells #[.int .i64 p, .slice A n c] 30)).below hb1 (by have := X0.out.lt; simp; omega))
      have HB := Lib.hid (((Below.refl _ w).alloc (Nat.le_refl _) (.cells #[.int .i64 p, .slice A n c] 30)).trans (hb1.mono (by simp)))
      clear hb1 x0 x1
      obtain ⟨x0, x1, _, _⟩ := X1.out.two
      obtain ⟨y0, y1, _, _⟩ := (X1.out.alloc (.cells #[.int .i64 p, .slice A n c] 30)).two
      go_wp2
      rw [rounds_succ]
      go_wp2
      refine wp_loop_rounds 2 ?_
      rw [rounds_succ]
      go_wp2_with fail
      go_quiet (fail)
      go_wp2
      go_ret
      exact ⟨ret_int' (by unfold code1; rw [if_pos HS.out, if_neg hp]), by first | exact belowDraws (HB.out.alloc HB.out.size _) _ | exact HB.out.alloc HB.out.size _⟩
  · have hs' : stateB p L = false := by simpa using hs
    clear hs
    go_enter Try.func38, Try.ntmps38
    go_wp2
    refine wp_loop_rounds 2 ?_
    rw [rounds_succ]
    go_wp2_with fail
    refine (implIsState_calls A n c p L _ HL.out hn hI1).mono ?_
    rintro e w1 ⟨rfl, hb1⟩
    have HB := Lib.hid (((Below.refl _ w).alloc (Nat.le_refl _) (.cells #[.int .i64 p, .slice A n c] 30)).trans (hb1.mono (by simp)))
    clear hb1
    go_wp2
    go_ret
    exact ⟨ret_int' (by unfold code1; rw [if_neg (by simp [hs'])]), HB.out⟩

end Go.Proofs.Ytbcgomimfgggnaa

namespace Go.Proofs.Ytbcgomimfgggnaa
open Go.RowKit
set_option linter.unusedVariables false
set_option maxRecDepth 100000

set_option maxHeartbeats 1000000 in
theorem codeOfPeg_one (g : Nat) (A : Option Addr) (n c : Nat) (p : Int) (L : List Int) (a : Int) (w : World) (hx : Box w g 30 #[.int .i64 p, .slice A n c]) (hL : L.length = n) (hn : n ≤ 1048576) (hI : Ints w A L) :
    Calls Try.prog 47 #[.int .i64 a, .slice (some ⟨g, 0, none⟩) 1 1] w fun e w' => e = .returned (.int .i64 (codeW p L a)) ∧ Below w.heap.size w w' := by
  have HL := Lib.hid hL
  clear hL
  have hpg : pegB 3 a = inB a 0 2 := by rw [pegB_in]; rfl
  by_cases hz : code1 p L = 0
  · have hz' : (code1 p L == 0) = true := by simpa using hz
    by_cases ha : inB a 0 2 = true
    · have HZ := Lib.hid hz
      have HA := Lib.hid ha
      rw [← hpg] at ha
      clear hz hpg
      go_enter Try.func47, Try.ntmps47
      go_wp2_with fail
      refine (codeOfStates_one g A n c p L _ hx HL.out hn hI).mono ?_
      rintro e w1 ⟨rfl, hb1⟩
      go_wp2_with fail
      refine (isPeg_calls 3 a _).mono ?_
      rintro e w' ⟨rfl, rfl⟩
      go_wp2
      go_ret
      exact ⟨ret_int' (by unfold codeW; rw [if_pos HZ.out, if_pos HA.out, HZ.out]), hb1⟩
    · have ha' : inB a 0 2 = false := by simpa using ha
      have HZ := Lib.hid hz
      have HA := Lib.hid ha'
      rw [← hpg] at ha'
      clear hz ha hpg
      go_enter Try.func47, Try.ntmps47
      go_wp2_with fail
      refine (codeOfStates_one g A n c p L _ hx HL.out hn hI).mono ?_
      rintro e w1 ⟨rfl, hb1⟩
      go_wp2_with fail
      refine (isPeg_calls 3 a _).mono ?_
      rintro e w' ⟨rfl, rfl⟩
      go_wp2
      go_ret
      exact ⟨ret_int' (by unfold codeW; rw [if_pos HZ.out, if_neg (by simp [HA.out])]), hb1⟩
  · have hz' : (code1 p L == 0) = false := by simpa using hz
    have HZ := Lib.hid hz
    clear hz
    go_enter Try.func47, Try.ntmps47
    go_wp2_with fail
    refine (codeOfStates_one g A n c p L _ hx HL.out hn hI).mono ?_
    rintro e w1 ⟨rfl, hb1⟩
    go_wp2
    go_ret
    exact ⟨ret_int' (by unfold codeW; rw [if_neg HZ.out]), hb1⟩

end Go.Proofs.Ytbcgomimfgggnaa

namespace Go.Proofs.Ytbcgomimfgggnaa
open Go.RowKit
set_option linter.unusedVariables false
set_option maxRecDepth 100000

theorem thirdPeg_calls (a b : Int) (w : World) (ha : 0 ≤ a ∧ a ≤ 2) (hb : 0 ≤ b ∧ b ≤ 2) :
    Calls Try.prog 62 #[.int .i64 a, .int .i64 b] w fun e w' => e = .returned (.int .i64 (3 - a - b)) ∧ w = w' := by
  go_enter Try.func62, Try.ntmps62
  go_wp2
  go_ret
  exact ⟨rfl, rfl⟩

set_option maxHeartbeats 1000000 in
theorem l02Goals_calls (A : Option Addr) (n c : Nat) (L : List Int) (a : Int) (w : World) (hL : L.length = n) (hn : n ≤ 8) (hI : Ints w A L) (hp : pegsOk L) (ha : 0 ≤ a ∧ a ≤ 2) :
    Calls Try.prog 82 #[.slice A n c, .int .i64 a] w fun e w' => ∃ g, e = .returned (.slice (some ⟨g, 0, none⟩) n n) ∧ w.heap.size ≤ g ∧ Row w' g 2 (goalsL L a) ∧ Below w.heap.size w w' := by
  have hmk := run_make_row' (P := Try.prog) 28 2 (.int .i64 0) 8 Try.underlying28 Try.infoI rfl .i64 .i64 n (by omega) (by omega)
  have HL := Lib.hid hL
  have HP := Lib.hid hp
  have HG := Lib.hid (goalsL_len L a)
  clear hL hp
  go_enter Try.func82, Try.ntmps82
  go_wp2
  go_loopw [1, 6] (fun b i wr => ∃ m : Nat, m ≤ n ∧ i = .int .i64 ((m : Int) - 1) ∧ b = .int .i64 (aft (L.drop m) a) ∧ wr.rowIs w.heap.size 2 n (downto (goalsL L a) m) ∧ Below w.heap.size w wr) (fun _ i _ => (intOf i + 1).toNat)
  case atStart =>
    exact ⟨n, Nat.le_refl _, rfl, by rw [List.drop_of_length_le (by rw [HL.out]; exact Nat.le_refl _)]; rfl, (World.rowIs_made _ _ _ _).congr (fun i hi => by simp [downto, hi]), (Below.refl _ _).alloc (Nat.le_refl _) _⟩
  case round =>
    obtain ⟨m, hm, rfl, rfl, hrow, hb⟩ := hrel
    cases m with
    | zero =>
      have HR := Lib.hid hrow
      clear hrow
      go_wp2
      go_ret
      exact ⟨_, rfl, Nat.le_refl _, by
        unfold Row
        rw [HG.out, HL.out]
        exact HR.out.congr (fun j hj => by simp [downto]), hb⟩
    | succ d =>
      have hd : d < L.length := by rw [HL.out]; omega
      have hx := pegsOk_at HP.out hd
      have hbd := aft_bd (L.drop (d + 1)) a (pegsOk_drop HP.out _) ha
      have HST := Lib.hid (aft_step L a hd)
      have HAT := Lib.hid (goalsL_at L a d hd)
      obtain ⟨ad, rfl, had, hc0⟩ := hI d hd
      have hc := (hb.cell (p := ad.add d) (by rw [add_block]; exact had)).trans hc0
      have hfz := hrow.frozen d
      have hold := hrow.cell (i := d) (by omega)
      have HR := Lib.hid hrow
      have HDS := Lib.hid (downto_step (goalsL L a) d)
      have HB := Lib.hid hb
      have hc2 : (wr.setCell ⟨w.heap.size, d, none⟩ (.int .i64 (aft (L.drop (d + 1)) a))).cell? (ad.add d) = some (.int .i64 (L[d]?.getD 0)) := by
        rw [World.cell?_setCell_other _ _ _ _ (by intro e; have := congrArg Addr.block e; rw [add_block] at this; simp at this; omega)]
        simpa using hc
      have hi0 : (0 : Int) ≤ (d : Int) := by omega
      have hi1 : (d : Int) < (n : Int) := by omega
      have hi2 : ((d + 1 : Nat) : Int) - 1 = (d : Int) := by omega
      rw [hi2]
      clear hrow hb hc0 hi2 hd
      generalize aft (L.drop (d + 1)) a = b at *
      by_cases hne : L[d]?.getD 0 = b
      · have ht : (L[d]?.getD 0 != b) = false := by simpa using hne
        have HNE := Lib.hid hne
        clear hne
        go_wp2
        go_roundw
        case rel =>
          refine ⟨d, by omega, by go_num, by rw [HST.out, if_pos HNE.out], (HR.out.set d _).congr (fun j _ => ?_), HB.out.setCell (Nat.le_refl _) _⟩
          have := HDS.out j
          rw [HAT.out] at this
          exact this
        case measure => simp [intOf] <;> omega
      · have ht : (L[d]?.getD 0 != b) = true := by simpa using hne
        have HNE := Lib.hid hne
        clear hne
        go_wp2
        go_roundw
        case rel =>
          refine ⟨d, by omega, by go_num, by rw [HST.out, if_neg HNE.out], (HR.out.set d _).congr (fun j _ => ?_), HB.out.setCell (Nat.le_refl _) _⟩
          have := HDS.out j
          rw [HAT.out] at this
          exact this
        case measure => simp [intOf] <;> omega

set_option maxHeartbeats 1000000 in
theorem goalsOf_calls (A : Option Addr) (n c : Nat) (L : List Int) (a : Int) (w : World) (hL : L.length = n) (hn : n ≤ 8) (hI : Ints w A L) (hp : pegsOk L) (ha : 0 ≤ a ∧ a ≤ 2) :
    Calls Try.prog 76 #[.slice A n c, .int .i64 a] w fun e w' => ∃ g, e = .returned (.slice (some ⟨g, 0, none⟩) n n) ∧ w.heap.size ≤ g ∧ Row w' g 2 (goalsL L a) ∧ Below w.heap.size w w' := by
  have hmk := run_make_row' (P := Try.prog) 28 2 (.int .i64 0) 8 Try.underlying28 Try.infoI rfl .i64 .i64 n (by omega) (by omega)
  have HL := Lib.hid hL
  have HP := Lib.hid hp
  have HG := Lib.hid (goalsL_len L a)
  clear hL hp
  go_enter Try.func76, Try.ntmps76
  go_wp2
  go_loopw [1, 6] (fun b i wr => ∃ m : Nat, m ≤ n ∧ i = .int .i64 ((m : Int) - 1) ∧ b = .int .i64 (aft (L.drop m) a) ∧ wr.rowIs w.heap.size 2 n (downto (goalsL L a) m) ∧ Below w.heap.size w wr) (fun _ i _ => (intOf i + 1).toNat)
  case atStart =>
    exact ⟨n, Nat.le_refl _, rfl, by rw [List.drop_of_length_le (by rw [HL.out]; exact Nat.le_refl _)]; rfl, (World.rowIs_made _ _ _ _).congr (fun i hi => by simp [downto, hi]), (Below.refl _ _).alloc (Nat.le_refl _) _⟩
  case round =>
    obtain ⟨m, hm, rfl, rfl, hrow, hb⟩ := hrel
    cases m with
    | zero =>
      have HR := Lib.hid hrow
      clear hrow
      go_wp2
      go_ret
      exact ⟨_, rfl, Nat.le_refl _, by
        unfold Row
        rw [HG.out, HL.out]
        exact HR.out.congr (fun j hj => by simp [downto]), hb⟩
    | succ d =>
      have hd : d < L.length := by rw [HL.out]; omega
      have hx := pegsOk_at HP.out hd
      have hbd := aft_bd (L.drop (d + 1)) a (pegsOk_drop HP.out _) ha
      have HST := Lib.hid (aft_step L a hd)
      have HAT := Lib.hid (goalsL_at L a d hd)
      obtain ⟨ad, rfl, had, hc0⟩ := hI d hd
      have hc := (hb.cell (p := ad.add d) (by rw [add_block]; exact had)).trans hc0
      have hfz := hrow.frozen d
      have hold := hrow.cell (i := d) (by omega)
      have HR := Lib.hid hrow
      have HDS := Lib.hid (downto_step (goalsL L a) d)
      have HB := Lib.hid hb
      have hc2 : (wr.setCell ⟨w.heap.size, d, none⟩ (.int .i64 (aft (L.drop (d + 1)) a))).cell? (ad.add d) = some (.int .i64 (L[d]?.getD 0)) := by
        rw [World.cell?_setCell_other _ _ _ _ (by intro e; have := congrArg Addr.block e; rw [add_block] at this; simp at this; omega)]
        simpa using hc
      have hi0 : (0 : Int) ≤ (d : Int) := by omega
      have hi1 : (d : Int) < (n : Int) := by omega
      have hi2 : ((d + 1 : Nat) : Int) - 1 = (d : Int) := by omega
      rw [hi2]
      clear hrow hb hc0 hi2 hd
      generalize aft (L.drop (d + 1)) a = b at *
      by_cases hne : L[d]?.getD 0 = b
      · have ht : (L[d]?.getD 0 != b) = false := by simpa using hne
        have HNE := Lib.hid hne
        clear hne
        go_wp2
        go_roundw
        case rel =>
          refine ⟨d, by omega, by go_num, by rw [HST.out, if_pos HNE.out], (HR.out.set d _).congr (fun j _ => ?_), HB.out.setCell (Nat.le_refl _) _⟩
          have := HDS.out j
          rw [HAT.out] at this
          exact this
        case measure => simp [intOf] <;> omega
      · have ht : (L[d]?.getD 0 != b) = true := by simpa using hne
        have HNE := Lib.hid hne
        clear hne
        go_wp2_with fail
        refine (thirdPeg_calls b (L[d]?.getD 0) _ hbd hx).mono ?_
        rintro e w' ⟨rfl, rfl⟩
        go_wp2
        go_roundw
        case rel =>
          refine ⟨d, by omega, by go_num, by rw [HST.out, if_neg HNE.out], (HR.out.set d _).congr (fun j _ => ?_), HB.out.setCell (Nat.le_refl _) _⟩
          have := HDS.out j
          rw [HAT.out] at this
          exact this
        case measure => simp [intOf] <;> omega

end Go.Proofs.Ytbcgomimfgggnaa

namespace Go.Proofs.Ytbcgomimfgggnaa
open Go.RowKit
open Go.RowKit (wrap64)
set_option linter.unusedVariables false
set_option maxRecDepth 100000

/-- 1 shifted to the left, as the walk writes it, is a power of 2. -/
theorem shl_pow {k : Nat} (hk : k < 9) : wrap64 ((2 : Int) ^ k) = pow2 k := by
  have e : (2 : Int) ^ k = pow2 k := by unfold pow2; simp
  have hb := pow2_bd (k := k) (by omega)
  rw [e]
  exact IntWalk.wrap64_in _ (by omega)

set_option maxHeartbeats 1000000 in
theorem l02To_calls (A : Option Addr) (n c : Nat) (L : List Int) (a : Int) (w : World) (hL : L.length = n) (hn : n ≤ 8) (hI : Ints w A L) (hp : pegsOk L) (ha : 0 ≤ a ∧ a ≤ 2) :
    Calls Try.prog 60 #[.slice A n c, .int .i64 a] w fun e w' => e = .returned (.int .i64 (distP L a)) ∧ Below w.heap.size w w' := by
  have HL := Lib.hid hL
  have HG := Lib.hid (goalsL_len L a)
  clear hL
  have HDEF : distP L a = distTo L (goalsL L a) n := by unfold distP; rw [HL.out]
  rw [HDEF]
  clear HDEF
  obtain ⟨G, hG⟩ : ∃ G, goalsL L a = G := ⟨_, rfl⟩
  rw [hG]
  rw [hG] at HG
  have HGG := Lib.hid hG
  clear hG
  go_enter Try.func60, Try.ntmps60
  go_wp2_with fail
  refine (l02Goals_calls A n c L a _ HL.out hn hI hp ha).mono ?_
  rintro e w1 ⟨g, rfl, hg, hrow, hb⟩
  rw [HGG.out] at hrow
  have HR := Lib.hid hrow
  have HB := Lib.hid hb
  have HI := Lib.hid (hI.below hb)
  clear hrow hb hg hI
  go_wp2
  go_loopw [6, 7] (fun s i wr => ∃ k : Nat, k ≤ n ∧ i = .int .i64 k ∧ s = .int .i64 (distTo L G k) ∧ ∃ m, wr = w1.drewN m) (fun _ i _ => n - (intOf i).toNat)
  case atStart => exact ⟨0, Nat.zero_le _, rfl, rfl, 0, rfl⟩
  case round =>
    obtain ⟨k, hk, rfl, rfl, m, rfl⟩ := hrel
    by_cases hlt : k < n
    · obtain ⟨ad, rfl, had, hc⟩ := HI.out k (by rw [HL.out]; exact hlt)
      have hc' : w1.cell? ⟨g, k, none⟩ = some (.int .i64 (G[k]?.getD 0)) := by
        have := HR.out.cell (i := k) (by rw [HG.out, HL.out]; exact hlt)
        simpa using this
      have hbd := distTo_bd L G k (by omega)
      have hpw := pow2_bd (k := k) (by omega)
      have hk0 : (0 : Int) ≤ (k : Int) := by omega
      have hk1 : (k : Int) < (n : Int) := by omega
      by_cases hne : L[k]?.getD 0 = G[k]?.getD 0
      · have ht : (L[k]?.getD 0 != G[k]?.getD 0) = false := by simpa using hne
        have HST : Hid (distTo L G (k + 1) = distTo L G k) := by unfold Hid; rw [distTo, if_pos hne, Int.add_zero]
        clear hne
        go_wp2_with fail
        go_quiet (fail)
        go_wp2
        go_roundw
        case rel => exact ⟨k + 1, by omega, by go_num, by rw [HST.out], by first | exact ⟨_, rfl⟩ | exact ⟨_, World.drewN_drewN _ _ _⟩⟩
        case measure => simp [intOf]; omega
      · have ht : (L[k]?.getD 0 != G[k]?.getD 0) = true := by simpa using hne
        have HST : Hid (distTo L G (k + 1) = distTo L G k + pow2 k) := by unfold Hid; rw [distTo, if_neg hne]
        clear hne
        have hsh := shl_pow (k := k) (by omega)
        generalize distTo L G k = s at *
        go_wp2_with fail
        go_quiet (fail)
        go_wp2
        clear hsh
        go_roundw
        case rel => exact ⟨k + 1, by omega, by go_num, by rw [HST.out], by first | exact ⟨_, rfl⟩ | exact ⟨_, World.drewN_drewN _ _ _⟩⟩
        case measure => simp [intOf]; omega
    · obtain rfl : k = n := by omega
      go_wp2
      go_ret
      exact ⟨rfl, belowDraws HB.out _⟩

set_option maxHeartbeats 1000000 in
theorem distanceToPeg_calls (A : Option Addr) (n c : Nat) (L : List Int) (a : Int) (w : World) (hL : L.length = n) (hn : n ≤ 8) (hI : Ints w A L) (hp : pegsOk L) (ha : 0 ≤ a ∧ a ≤ 2) :
    Calls Try.prog 48 #[.slice A n c, .int .i64 a] w fun e w' => e = .returned (.int .i64 (distP L a)) ∧ Below w.heap.size w w' := by
  have HL := Lib.hid hL
  have HG := Lib.hid (goalsL_len L a)
  clear hL
  have HDEF : distP L a = distTo L (goalsL L a) n := by unfold distP; rw [HL.out]
  rw [HDEF]
  clear HDEF
  obtain ⟨G, hG⟩ : ∃ G, goalsL L a = G := ⟨_, rfl⟩
  rw [hG]
  rw [hG] at HG
  have HGG := Lib.hid hG
  clear hG
  go_enter Try.func48, Try.ntmps48
  go_wp2_with fail
  refine (goalsOf_calls A n c L a _ HL.out hn hI hp ha).mono ?_
  rintro e w1 ⟨g, rfl, hg, hrow, hb⟩
  rw [HGG.out] at hrow
  have HR := Lib.hid hrow
  have HB := Lib.hid hb
  have HI := Lib.hid (hI.below hb)
  clear hrow hb hg hI
  go_wp2
  go_loopw [5, 6, 7, 12] (fun s _ _ i wr => ∃ k : Nat, k ≤ n ∧ i = .int .i64 k ∧ s = .int .i64 (distTo L G k) ∧ ∃ m, wr = w1.drewN m) (fun _ _ _ i _ => n - (intOf i).toNat)
  case atStart => exact ⟨0, Nat.zero_le _, rfl, rfl, 0, rfl⟩
  case round =>
    obtain ⟨k, hk, rfl, rfl, m, rfl⟩ := hrel
    by_cases hlt : k < n
    · obtain ⟨ad, rfl, had, hc⟩ := HI.out k (by rw [HL.out]; exact hlt)
      have hc' : w1.cell? ⟨g, k, none⟩ = some (.int .i64 (G[k]?.getD 0)) := by
        have := HR.out.cell (i := k) (by rw [HG.out, HL.out]; exact hlt)
        simpa using this
      have hbd := distTo_bd L G k (by omega)
      have hpw := pow2_bd (k := k) (by omega)
      have hk0 : (0 : Int) ≤ (k : Int) := by omega
      have hk1 : (k : Int) < (n : Int) := by omega
      by_cases hne : L[k]?.getD 0 = G[k]?.getD 0
      · have ht : (L[k]?.getD 0 != G[k]?.getD 0) = false := by simpa using hne
        have HST : Hid (distTo L G (k + 1) = distTo L G k) := by unfold Hid; rw [distTo, if_pos hne, Int.add_zero]
        clear hne
        go_wp2
        go_roundw
        case rel => exact ⟨k + 1, by omega, by go_num, by rw [HST.out], by first | exact ⟨_, rfl⟩ | exact ⟨_, World.drewN_drewN _ _ _⟩⟩
        case measure => simp [intOf]; omega
      · have ht : (L[k]?.getD 0 != G[k]?.getD 0) = true := by simpa using hne
        have HST : Hid (distTo L G (k + 1) = distTo L G k + pow2 k) := by unfold Hid; rw [distTo, if_neg hne]
        clear hne
        have hsh := shl_pow (k := k) (by omega)
        generalize distTo L G k = s at *
        go_wp2
        clear hsh
        go_roundw
        case rel => exact ⟨k + 1, by omega, by go_num, by rw [HST.out], by first | exact ⟨_, rfl⟩ | exact ⟨_, World.drewN_drewN _ _ _⟩⟩
        case measure => simp [intOf]; omega
    · obtain rfl : k = n := by omega
      go_wp2
      go_ret
      exact ⟨rfl, belowDraws HB.out _⟩

end Go.Proofs.Ytbcgomimfgggnaa

namespace Go.Proofs.Ytbcgomimfgggnaa
open Go.RowKit
set_option linter.unusedVariables false
set_option maxRecDepth 100000

theorem Box.four {w : World} {b t : Nat} {u v x y : Value} (h : Box w b t #[u, v, x, y]) : w.cell? ⟨b, 0, none⟩ = some u ∧ w.cell? ⟨b, 1, none⟩ = some v ∧ w.cell? ⟨b, 2, none⟩ = some x ∧ w.cell? ⟨b, 3, none⟩ = some y := by
  have c0 := h.cell 0
  have c1 := h.cell 1
  have c2 := h.cell 2
  have c3 := h.cell 3
  exact ⟨by simpa using c0, by simpa using c1, by simpa using c2, by simpa using c3⟩

set_option maxHeartbeats 2000000 in
theorem l02Code_two (g : Nat) (A : Option Addr) (n c : Nat) (p : Int) (L : List Int) (B : Option Addr) (m d : Nat) (q : Int) (M : List Int) (w : World) (hx : Box w g 30 #[.int .i64 p, .slice A n c, .int .i64 q, .slice B m d]) (hL : L.length = n) (hn : n ≤ 1048576) (hI : Ints w A L) (hM : M.length = m) (hm : m ≤ 1048576) (hJ : Ints w B M) :
    Calls Try.prog 35 #[.slice (some ⟨g, 0, none⟩) 2 2] w fun e w' => e = .returned (.int .i64 (code2 p L q M)) ∧ Below w.heap.size w w' := by
  have HL := Lib.hid hL
  have HM := Lib.hid hM
  have X0 := Lib.hid hx
  have HI0 := Lib.hid hI
  have HJ0 := Lib.hid hJ
  have HB0 := Lib.hid (Below.refl w.heap.size w)
  clear hL hM hx hI hJ
  by_cases hs : stateB p L = true
  · have HS := Lib.hid hs
    by_cases ht : stateB q M = true
    · have HT := Lib.hid ht
      by_cases hp : p = 3
      · have hpd : (p != 3) = false := by simpa using hp
        have HP := Lib.hid hp
        clear hp
        by_cases hq : q = 3
        · have hqd : (q != 3) = false := by simpa using hq
          have HQ := Lib.hid hq
          clear hq
          by_cases hnm : n = m
          · have hne : ((m : Int) != (n : Int)) = false := by simp; omega
            have HN := Lib.hid hnm
            clear hnm
            obtain ⟨x0, x1, x2, x3⟩ := X0.out.four
            go_enter Try.func35, Try.ntmps35
            go_wp2
            refine wp_loop_rounds 3 ?_
            rw [rounds_succ]
            go_wp2_with fail
            refine (l01Is_calls A n c p L _ HL.out hn HI0.out).mono ?_
            rintro e w1 ⟨rfl, hb⟩
            have X1 := Lib.hid (X0.out.below hb X0.out.lt)
            have HI1 := Lib.hid (HI0.out.below hb)
            have HJ1 := Lib.hid (HJ0.out.below hb)
            have HB1 := Lib.hid (HB0.out.trans (hb.mono HB0.out.size))
            clear hb x0 x1 x2 x3 X0 HI0 HJ0 HB0
            obtain ⟨x0, x1, x2, x3⟩ := X1.out.four
            go_wp2
            rw [rounds_succ]
            go_wp2_with fail
            refine (l01Is_calls B m d q M _ HM.out hm HJ1.out).mono ?_
            rintro e w2 ⟨rfl, hb⟩
            have X2 := Lib.hid (X1.out.below hb X1.out.lt)
            have HI2 := Lib.hid (HI1.out.below hb)
            have HJ2 := Lib.hid (HJ1.out.below hb)
            have HB2 := Lib.hid (HB1.out.trans (hb.mono HB1.out.size))
            clear hb x0 x1 x2 x3 X1 HI1 HJ1 HB1
            obtain ⟨x0, x1, x2, x3⟩ := X2.out.four
            go_wp2
            rw [rounds_succ]
            go_wp2
            refine wp_loop_rounds 3 ?_
            rw [rounds_succ]
            go_wp2_with fail
            go_quiet (fail)
            go_wp2
            rw [rounds_succ]
            go_wp2_with fail
            go_quiet (fail)
            go_wp2
            rw [rounds_succ]
            go_wp2
            go_ret
            exact ⟨ret_int' (by unfold code2; rw [if_pos ⟨HS.out, HT.out⟩, if_pos ⟨HP.out, HQ.out, by rw [HL.out, HM.out, HN.out]⟩]), by first | exact HB2.out | exact belowDraws HB2.out _ | exact belowDraws (belowDraws HB2.out _) _ | exact (HB2.out.alloc HB2.out.size _) | exact belowDraws (HB2.out.alloc HB2.out.size _) _ | exact belowDraws (belowDraws (HB2.out.alloc HB2.out.size _) _) _ | exact ((HB2.out.alloc HB2.out.size _).alloc (by have := HB2.out.size; simp; omega) _) | exact belowDraws ((HB2.out.alloc HB2.out.size _).alloc (by have := HB2.out.size; simp; omega) _) _ | exact belowDraws (belowDraws ((HB2.out.alloc HB2.out.size _).alloc (by have := HB2.out.size; simp; omega) _) _) _ | exact ((belowDraws (HB2.out.alloc HB2.out.size _) _).alloc (by have := HB2.out.size; simp; omega) _) | exact belowDraws ((belowDraws (HB2.out.alloc HB2.out.size _) _).alloc (by have := HB2.out.size; simp; omega) _) _ | exact belowDraws (belowDraws ((belowDraws (HB2.out.alloc HB2.out.size _) _).alloc (by have := HB2.out.size; simp; omega) _) _) _⟩
          · have hne : ((m : Int) != (n : Int)) = true := by simp; omega
            have HN := Lib.hid hnm
            clear hnm
            obtain ⟨x0, x1, x2, x3⟩ := X0.out.four
            go_enter Try.func35, Try.ntmps35
            go_wp2
            refine wp_loop_rounds 3 ?_
            rw [rounds_succ]
            go_wp2_with fail
            refine (l01Is_calls A n c p L _ HL.out hn HI0.out).mono ?_
            rintro e w1 ⟨rfl, hb⟩
            have X1 := Lib.hid (X0.out.below hb X0.out.lt)
            have HI1 := Lib.hid (HI0.out.below hb)
            have HJ1 := Lib.hid (HJ0.out.below hb)
            have HB1 := Lib.hid (HB0.out.trans (hb.mono HB0.out.size))
            clear hb x0 x1 x2 x3 X0 HI0 HJ0 HB0
            obtain ⟨x0, x1, x2, x3⟩ := X1.out.four
            go_wp2
            rw [rounds_succ]
            go_wp2_with fail
            refine (l01Is_calls B m d q M _ HM.out hm HJ1.out).mono ?_
            rintro e w2 ⟨rfl, hb⟩
            have X2 := Lib.hid (X1.out.below hb X1.out.lt)
            have HI2 := Lib.hid (HI1.out.below hb)
            have HJ2 := Lib.hid (HJ1.out.below hb)
            have HB2 := Lib.hid (HB1.out.trans (hb.mono HB1.out.size))
            clear hb x0 x1 x2 x3 X1 HI1 HJ1 HB1
            obtain ⟨x0, x1, x2, x3⟩ := X2.out.four
            go_wp2
            rw [rounds_succ]
            go_wp2
            refine wp_loop_rounds 3 ?_
            rw [rounds_succ]
            go_wp2_with fail
            go_quiet (fail)
            go_wp2
            rw [rounds_succ]
            go_wp2_with fail
            go_quiet (fail)
            go_wp2
            go_ret
            exact ⟨ret_int' (by unfold code2; rw [if_pos ⟨HS.out, HT.out⟩, if_neg (by rintro ⟨_, _, h⟩; exact HN.out (by rw [← HL.out, ← HM.out, h]))]), by first | exact HB2.out | exact belowDraws HB2.out _ | exact belowDraws (belowDraws HB2.out _) _ | exact (HB2.out.alloc HB2.out.size _) | exact belowDraws (HB2.out.alloc HB2.out.size _) _ | exact belowDraws (belowDraws (HB2.out.alloc HB2.out.size _) _) _ | exact ((HB2.out.alloc HB2.out.size _).alloc (by have := HB2.out.size; simp; omega) _) | exact belowDraws ((HB2.out.alloc HB2.out.size _).alloc (by have := HB2.out.size; simp; omega) _) _ | exact belowDraws (belowDraws ((HB2.out.alloc HB2.out.size _).alloc (by have := HB2.out.size; simp; omega) _) _) _ | exact ((belowDraws (HB2.out.alloc HB2.out.size _) _).alloc (by have := HB2.out.size; simp; omega) _) | exact belowDraws ((belowDraws (HB2.out.alloc HB2.out.size _) _).alloc (by have := HB2.out.size; simp; omega) _) _ | exact belowDraws (belowDraws ((belowDraws (HB2.out.alloc HB2.out.size _) _).alloc (by have := HB2.out.size; simp; omega) _) _) _⟩
        · have hqd : (q != 3) = true := by simpa using hq
          obtain ⟨x0, x1, x2, x3⟩ := X0.out.four
          go_enter Try.func35, Try.ntmps35
          go_wp2
          refine wp_loop_rounds 3 ?_
          rw [rounds_succ]
          go_wp2_with fail
          refine (l01Is_calls A n c p L _ HL.out hn HI0.out).mono ?_
          rintro e w1 ⟨rfl, hb⟩
          have X1 := Lib.hid (X0.out.below hb X0.out.lt)
          have HI1 := Lib.hid (HI0.out.below hb)
          have HJ1 := Lib.hid (HJ0.out.below hb)
          have HB1 := Lib.hid (HB0.out.trans (hb.mono HB0.out.size))
          clear hb x0 x1 x2 x3 X0 HI0 HJ0 HB0
          obtain ⟨x0, x1, x2, x3⟩ := X1.out.four
          go_wp2
          rw [rounds_succ]
          go_wp2_with fail
          refine (l01Is_calls B m d q M _ HM.out hm HJ1.out).mono ?_
          rintro e w2 ⟨rfl, hb⟩
          have X2 := Lib.hid (X1.out.below hb X1.out.lt)
          have HI2 := Lib.hid (HI1.out.below hb)
          have HJ2 := Lib.hid (HJ1.out.below hb)
          have HB2 := Lib.hid (HB1.out.trans (hb.mono HB1.out.size))
          clear hb x0 x1 x2 x3 X1 HI1 HJ1 HB1
          obtain ⟨x0, x1, x2, x3⟩ := X2.out.four
          go_wp2
          rw [rounds_succ]
          go_wp2
          refine wp_loop_rounds 3 ?_
          rw [rounds_succ]
          go_wp2_with fail
          go_quiet (fail)
          go_wp2
          rw [rounds_succ]
          go_wp2_with fail
          go_quiet (fail)
          go_wp2
          go_ret
          exact ⟨ret_int' (by unfold code2; rw [if_pos ⟨HS.out, HT.out⟩, if_neg (by rintro ⟨_, h, _⟩; exact hq h)]), by first | exact HB2.out | exact belowDraws HB2.out _ | exact belowDraws (belowDraws HB2.out _) _ | exact (HB2.out.alloc HB2.out.size _) | exact belowDraws (HB2.out.alloc HB2.out.size _) _ | exact belowDraws (belowDraws (HB2.out.alloc HB2.out.size _) _) _ | exact ((HB2.out.alloc HB2.out.size _).alloc (by have := HB2.out.size; simp; omega) _) | exact belowDraws ((HB2.out.alloc HB2.out.size _).alloc (by have := HB2.out.size; simp; omega) _) _ | exact belowDraws (belowDraws ((HB2.out.alloc HB2.out.size _).alloc (by have := HB2.out.size; simp; omega) _) _) _ | exact ((belowDraws (HB2.out.alloc HB2.out.size _) _).alloc (by have := HB2.out.size; simp; omega) _) | exact belowDraws ((belowDraws (HB2.out.alloc HB2.out.size _) _).alloc (by have := HB2.out.size; simp; omega) _) _ | exact belowDraws (belowDraws ((belowDraws (HB2.out.alloc HB2.out.size _) _).alloc (by have := HB2.out.size; simp; omega) _) _) _⟩
      · have hpd : (p != 3) = true := by simpa using hp
        obtain ⟨x0, x1, x2, x3⟩ := X0.out.four
        go_enter Try.func35, Try.ntmps35
        go_wp2
        refine wp_loop_rounds 3 ?_
        rw [rounds_succ]
        go_wp2_with fail
        refine (l01Is_calls A n c p L _ HL.out hn HI0.out).mono ?_
        rintro e w1 ⟨rfl, hb⟩
        have X1 := Lib.hid (X0.out.below hb X0.out.lt)
        have HI1 := Lib.hid (HI0.out.below hb)
        have HJ1 := Lib.hid (HJ0.out.below hb)
        have HB1 := Lib.hid (HB0.out.trans (hb.mono HB0.out.size))
        clear hb x0 x1 x2 x3 X0 HI0 HJ0 HB0
        obtain ⟨x0, x1, x2, x3⟩ := X1.out.four
        go_wp2
        rw [rounds_succ]
        go_wp2_with fail
        refine (l01Is_calls B m d q M _ HM.out hm HJ1.out).mono ?_
        rintro e w2 ⟨rfl, hb⟩
        have X2 := Lib.hid (X1.out.below hb X1.out.lt)
        have HI2 := Lib.hid (HI1.out.below hb)
        have HJ2 := Lib.hid (HJ1.out.below hb)
        have HB2 := Lib.hid (HB1.out.trans (hb.mono HB1.out.size))
        clear hb x0 x1 x2 x3 X1 HI1 HJ1 HB1
        obtain ⟨x0, x1, x2, x3⟩ := X2.out.four
        go_wp2
        rw [rounds_succ]
        go_wp2
        refine wp_loop_rounds 3 ?_
        rw [rounds_succ]
        go_wp2_with fail
        go_quiet (fail)
        go_wp2
        go_ret
        exact ⟨ret_int' (by unfold code2; rw [if_pos ⟨HS.out, HT.out⟩, if_neg (by rintro ⟨h, _⟩; exact hp h)]), by first | exact HB2.out | exact belowDraws HB2.out _ | exact belowDraws (belowDraws HB2.out _) _ | exact (HB2.out.alloc HB2.out.size _) | exact belowDraws (HB2.out.alloc HB2.out.size _) _ | exact belowDraws (belowDraws (HB2.out.alloc HB2.out.size _) _) _ | exact ((HB2.out.alloc HB2.out.size _).alloc (by have := HB2.out.size; simp; omega) _) | exact belowDraws ((HB2.out.alloc HB2.out.size _).alloc (by have := HB2.out.size; simp; omega) _) _ | exact belowDraws (belowDraws ((HB2.out.alloc HB2.out.size _).alloc (by have := HB2.out.size; simp; omega) _) _) _ | exact ((belowDraws (HB2.out.alloc HB2.out.size _) _).alloc (by have := HB2.out.size; simp; omega) _) | exact belowDraws ((belowDraws (HB2.out.alloc HB2.out.size _) _).alloc (by have := HB2.out.size; simp; omega) _) _ | exact belowDraws (belowDraws ((belowDraws (HB2.out.alloc HB2.out.size _) _).alloc (by have := HB2.out.size; simp; omega) _) _) _⟩
    · have ht' : stateB q M = false := by simpa using ht
      have HT := Lib.hid ht'
      clear ht
      obtain ⟨x0, x1, x2, x3⟩ := X0.out.four
      go_enter Try.func35, Try.ntmps35
      go_wp2
      refine wp_loop_rounds 3 ?_
      rw [rounds_succ]
      go_wp2_with fail
      refine (l01Is_calls A n c p L _ HL.out hn HI0.out).mono ?_
      rintro e w1 ⟨rfl, hb⟩
      have X1 := Lib.hid (X0.out.below hb X0.out.lt)
      have HI1 := Lib.hid (HI0.out.below hb)
      have HJ1 := Lib.hid (HJ0.out.below hb)
      have HB1 := Lib.hid (HB0.out.trans (hb.mono HB0.out.size))
      clear hb x0 x1 x2 x3 X0 HI0 HJ0 HB0
      obtain ⟨x0, x1, x2, x3⟩ := X1.out.four
      go_wp2
      rw [rounds_succ]
      go_wp2_with fail
      refine (l01Is_calls B m d q M _ HM.out hm HJ1.out).mono ?_
      rintro e w2 ⟨rfl, hb⟩
      have X2 := Lib.hid (X1.out.below hb X1.out.lt)
      have HI2 := Lib.hid (HI1.out.below hb)
      have HJ2 := Lib.hid (HJ1.out.below hb)
      have HB2 := Lib.hid (HB1.out.trans (hb.mono HB1.out.size))
      clear hb x0 x1 x2 x3 X1 HI1 HJ1 HB1
      obtain ⟨x0, x1, x2, x3⟩ := X2.out.four
      go_wp2
      go_ret
      exact ⟨ret_int' (by unfold code2; rw [if_neg (by rintro ⟨_, h⟩; rw [HT.out] at h; cases h)]), by first | exact HB2.out | exact belowDraws HB2.out _ | exact belowDraws (belowDraws HB2.out _) _ | exact (HB2.out.alloc HB2.out.size _) | exact belowDraws (HB2.out.alloc HB2.out.size _) _ | exact belowDraws (belowDraws (HB2.out.alloc HB2.out.size _) _) _ | exact ((HB2.out.alloc HB2.out.size _).alloc (by have := HB2.out.size; simp; omega) _) | exact belowDraws ((HB2.out.alloc HB2.out.size _).alloc (by have := HB2.out.size; simp; omega) _) _ | exact belowDraws (belowDraws ((HB2.out.alloc HB2.out.size _).alloc (by have := HB2.out.size; simp; omega) _) _) _ | exact ((belowDraws (HB2.out.alloc HB2.out.size _) _).alloc (by have := HB2.out.size; simp; omega) _) | exact belowDraws ((belowDraws (HB2.out.alloc HB2.out.size _) _).alloc (by have := HB2.out.size; simp; omega) _) _ | exact belowDraws (belowDraws ((belowDraws (HB2.out.alloc HB2.out.size _) _).alloc (by have := HB2.out.size; simp; omega) _) _) _⟩
  · have hs' : stateB p L = false := by simpa using hs
    have HS := Lib.hid hs'
    clear hs
    obtain ⟨x0, x1, x2, x3⟩ := X0.out.four
    go_enter Try.func35, Try.ntmps35
    go_wp2
    refine wp_loop_rounds 3 ?_
    rw [rounds_succ]
    go_wp2_with fail
    refine (l01Is_calls A n c p L _ HL.out hn HI0.out).mono ?_
    rintro e w1 ⟨rfl, hb⟩
    have X1 := Lib.hid (X0.out.below hb X0.out.lt)
    have HI1 := Lib.hid (HI0.out.below hb)
    have HJ1 := Lib.hid (HJ0.out.below hb)
    have HB1 := Lib.hid (HB0.out.trans (hb.mono HB0.out.size))
    clear hb x0 x1 x2 x3 X0 HI0 HJ0 HB0
    obtain ⟨x0, x1, x2, x3⟩ := X1.out.four
    go_wp2
    go_ret
    exact ⟨ret_int' (by unfold code2; rw [if_neg (by rintro ⟨h, _⟩; rw [HS.out] at h; cases h)]), by first | exact HB1.out | exact belowDraws HB1.out _ | exact belowDraws (belowDraws HB1.out _) _ | exact (HB1.out.alloc HB1.out.size _) | exact belowDraws (HB1.out.alloc HB1.out.size _) _ | exact belowDraws (belowDraws (HB1.out.alloc HB1.out.size _) _) _ | exact ((HB1.out.alloc HB1.out.size _).alloc (by have := HB1.out.size; simp; omega) _) | exact belowDraws ((HB1.out.alloc HB1.out.size _).alloc (by have := HB1.out.size; simp; omega) _) _ | exact belowDraws (belowDraws ((HB1.out.alloc HB1.out.size _).alloc (by have := HB1.out.size; simp; omega) _) _) _ | exact ((belowDraws (HB1.out.alloc HB1.out.size _) _).alloc (by have := HB1.out.size; simp; omega) _) | exact belowDraws ((belowDraws (HB1.out.alloc HB1.out.size _) _).alloc (by have := HB1.out.size; simp; omega) _) _ | exact belowDraws (belowDraws ((belowDraws (HB1.out.alloc HB1.out.size _) _).alloc (by have := HB1.out.size; simp; omega) _) _) _⟩

set_option maxHeartbeats 2000000 in
theorem codeOfStates_two (g : Nat) (A : Option Addr) (n c : Nat) (p : Int) (L : List Int) (B : Option Addr) (m d : Nat) (q : Int) (M : List Int) (w : World) (hx : Box w g 30 #[.int .i64 p, .slice A n c, .int .i64 q, .slice B m d]) (hL : L.length = n) (hn : n ≤ 1048576) (hI : Ints w A L) (hM : M.length = m) (hm : m ≤ 1048576) (hJ : Ints w B M) :
    Calls Try.prog 38 #[.slice (some ⟨g, 0, none⟩) 2 2] w fun e w' => e = .returned (.int .i64 (code2 p L q M)) ∧ Below w.heap.size w w' := by
  have HL := Lib.hid hL
  have HM := Lib.hid hM
  have X0 := Lib.hid hx
  have HI0 := Lib.hid hI
  have HJ0 := Lib.hid hJ
  have HB0 := Lib.hid (Below.refl w.heap.size w)
  clear hL hM hx hI hJ
  by_cases hs : stateB p L = true
  · have HS := Lib.hid hs
    by_cases ht : stateB q M = true
    · have HT := Lib.hid ht
      by_cases hp : p = 3
      · have hpd : (p != 3) = false := by simpa using hp
        have HP := Lib.hid hp
        clear hp
        by_cases hq : q = 3
        · have hqd : (q != 3) = false := by simpa using hq
          have HQ := Lib.hid hq
          clear hq
          by_cases hnm : n = m
          · have hne : ((m : Int) != (n : Int)) = false := by simp; omega
            have HN := Lib.hid hnm
            clear hnm
            obtain ⟨x0, x1, x2, x3⟩ := X0.out.four
            go_enter Try.func38, Try.ntmps38
            go_wp2
            refine wp_loop_rounds 3 ?_
            rw [rounds_succ]
            have Z0 := Lib.hid (HI0.out.below ((Below.refl _ _).alloc (Nat.le_refl _) (.cells #[.int .i64 p, .slice A n c] 30)))
            go_wp2_with fail
            refine (implIsState_calls A n c p L _ HL.out hn Z0.out).mono ?_
            rintro e w1 ⟨rfl, hb⟩
            have X1 := Lib.hid ((X0.out.alloc (.cells #[.int .i64 p, .slice A n c] 30)).below hb (by have := X0.out.lt; simp; omega))
            have HI1 := Lib.hid ((HI0.out.below ((Below.refl _ _).alloc (Nat.le_refl _) (.cells #[.int .i64 p, .slice A n c] 30))).below hb)
            have HJ1 := Lib.hid ((HJ0.out.below ((Below.refl _ _).alloc (Nat.le_refl _) (.cells #[.int .i64 p, .slice A n c] 30))).below hb)
            have HB1 := Lib.hid ((HB0.out.alloc HB0.out.size (.cells #[.int .i64 p, .slice A n c] 30)).trans (hb.mono (by have := HB0.out.size; first | omega | (simp; done) | (simp; omega))))
            clear Z0
            clear hb x0 x1 x2 x3 X0 HI0 HJ0 HB0
            obtain ⟨x0, x1, x2, x3⟩ := X1.out.four
            go_wp2
            rw [rounds_succ]
            have Z1 := Lib.hid (HJ1.out.below ((Below.refl _ _).alloc (Nat.le_refl _) (.cells #[.int .i64 q, .slice B m d] 30)))
            go_wp2_with fail
            refine (implIsState_calls B m d q M _ HM.out hm Z1.out).mono ?_
            rintro e w2 ⟨rfl, hb⟩
            have X2 := Lib.hid ((X1.out.alloc (.cells #[.int .i64 q, .slice B m d] 30)).below hb (by have := X1.out.lt; simp; omega))
            have HI2 := Lib.hid ((HI1.out.below ((Below.refl _ _).alloc (Nat.le_refl _) (.cells #[.int .i64 q, .slice B m d] 30))).below hb)
            have HJ2 := Lib.hid ((HJ1.out.below ((Below.refl _ _).alloc (Nat.le_refl _) (.cells #[.int .i64 q, .slice B m d] 30))).below hb)
            have HB2 := Lib.hid ((HB1.out.alloc HB1.out.size (.cells #[.int .i64 q, .slice B m d] 30)).trans (hb.mono (by have := HB1.out.size; first | omega | (simp; done) | (simp; omega))))
            clear Z1
            clear hb x0 x1 x2 x3 X1 HI1 HJ1 HB1
            obtain ⟨x0, x1, x2, x3⟩ := X2.out.four
            go_wp2
            rw [rounds_succ]
            go_wp2
            refine wp_loop_rounds 3 ?_
            rw [rounds_succ]
            obtain ⟨z0, z1, z2, z3⟩ := (X2.out.alloc (.cells #[.int .i64 p, .slice A n c] 30)).four
            go_wp2_with fail
            go_quiet (fail)
            go_wp2
            rw [rounds_succ]
            obtain ⟨v0, v1, v2, v3⟩ := (((X2.out.alloc (.cells #[.int .i64 p, .slice A n c] 30)).draws nq).alloc (.cells #[.int .i64 q, .slice B m d] 30)).four
            go_wp2_with fail
            go_quiet (fail)
            go_wp2
            rw [rounds_succ]
            go_wp2
            go_ret
            exact ⟨ret_int' (by unfold code2; rw [if_pos ⟨HS.out, HT.out⟩, if_pos ⟨HP.out, HQ.out, by rw [HL.out, HM.out, HN.out]⟩]), by first | exact HB2.out | exact belowDraws HB2.out _ | exact belowDraws (belowDraws HB2.out _) _ | exact (HB2.out.alloc HB2.out.size _) | exact belowDraws (HB2.out.alloc HB2.out.size _) _ | exact belowDraws (belowDraws (HB2.out.alloc HB2.out.size _) _) _ | exact ((HB2.out.alloc HB2.out.size _).alloc (by have := HB2.out.size; simp; omega) _) | exact belowDraws ((HB2.out.alloc HB2.out.size _).alloc (by have := HB2.out.size; simp; omega) _) _ | exact belowDraws (belowDraws ((HB2.out.alloc HB2.out.size _).alloc (by have := HB2.out.size; simp; omega) _) _) _ | exact ((belowDraws (HB2.out.alloc HB2.out.size _) _).alloc (by have := HB2.out.size; simp; omega) _) | exact belowDraws ((belowDraws (HB2.out.alloc HB2.out.size _) _).alloc (by have := HB2.out.size; simp; omega) _) _ | exact belowDraws (belowDraws ((belowDraws (HB2.out.alloc HB2.out.size _) _).alloc (by have := HB2.out.size; simp; omega) _) _) _⟩
          · have hne : ((m : Int) != (n : Int)) = true := by simp; omega
            have HN := Lib.hid hnm
            clear hnm
            obtain ⟨x0, x1, x2, x3⟩ := X0.out.four
            go_enter Try.func38, Try.ntmps38
            go_wp2
            refine wp_loop_rounds 3 ?_
            rw [rounds_succ]
            have Z0 := Lib.hid (HI0.out.below ((Below.refl _ _).alloc (Nat.le_refl _) (.cells #[.int .i64 p, .slice A n c] 30)))
            go_wp2_with fail
            refine (implIsState_calls A n c p L _ HL.out hn Z0.out).mono ?_
            rintro e w1 ⟨rfl, hb⟩
            have X1 := Lib.hid ((X0.out.alloc (.cells #[.int .i64 p, .slice A n c] 30)).below hb (by have := X0.out.lt; simp; omega))
            have HI1 := Lib.hid ((HI0.out.below ((Below.refl _ _).alloc (Nat.le_refl _) (.cells #[.int .i64 p, .slice A n c] 30))).below hb)
            have HJ1 := Lib.hid ((HJ0.out.below ((Below.refl _ _).alloc (Nat.le_refl _) (.cells #[.int .i64 p, .slice A n c] 30))).below hb)
            have HB1 := Lib.hid ((HB0.out.alloc HB0.out.size (.cells #[.int .i64 p, .slice A n c] 30)).trans (hb.mono (by have := HB0.out.size; first | omega | (simp; done) | (simp; omega))))
            clear Z0
            clear hb x0 x1 x2 x3 X0 HI0 HJ0 HB0
            obtain ⟨x0, x1, x2, x3⟩ := X1.out.four
            go_wp2
            rw [rounds_succ]
            have Z1 := Lib.hid (HJ1.out.below ((Below.refl _ _).alloc (Nat.le_refl _) (.cells #[.int .i64 q, .slice B m d] 30)))
            go_wp2_with fail
            refine (implIsState_calls B m d q M _ HM.out hm Z1.out).mono ?_
            rintro e w2 ⟨rfl, hb⟩
            have X2 := Lib.hid ((X1.out.alloc (.cells #[.int .i64 q, .slice B m d] 30)).below hb (by have := X1.out.lt; simp; omega))
            have HI2 := Lib.hid ((HI1.out.below ((Below.refl _ _).alloc (Nat.le_refl _) (.cells #[.int .i64 q, .slice B m d] 30))).below hb)
            have HJ2 := Lib.hid ((HJ1.out.below ((Below.refl _ _).alloc (Nat.le_refl _) (.cells #[.int .i64 q, .slice B m d] 30))).below hb)
            have HB2 := Lib.hid ((HB1.out.alloc HB1.out.size (.cells #[.int .i64 q, .slice B m d] 30)).trans (hb.mono (by have := HB1.out.size; first | omega | (simp; done) | (simp; omega))))
            clear Z1
            clear hb x0 x1 x2 x3 X1 HI1 HJ1 HB1
            obtain ⟨x0, x1, x2, x3⟩ := X2.out.four
            go_wp2
            rw [rounds_succ]
            go_wp2
            refine wp_loop_rounds 3 ?_
            rw [rounds_succ]
            obtain ⟨z0, z1, z2, z3⟩ := (X2.out.alloc (.cells #[.int .i64 p, .slice A n c] 30)).four
            go_wp2_with fail
            go_quiet (fail)
            go_wp2
            rw [rounds_succ]
            obtain ⟨v0, v1, v2, v3⟩ := (((X2.out.alloc (.cells #[.int .i64 p, .slice A n c] 30)).draws nq).alloc (.cells #[.int .i64 q, .slice B m d] 30)).four
            go_wp2_with fail
            go_quiet (fail)
            go_wp2
            go_ret
            exact ⟨ret_int' (by unfold code2; rw [if_pos ⟨HS.out, HT.out⟩, if_neg (by rintro ⟨_, _, h⟩; exact HN.out (by rw [← HL.out, ← HM.out, h]))]), by first | exact HB2.out | exact belowDraws HB2.out _ | exact belowDraws (belowDraws HB2.out _) _ | exact (HB2.out.alloc HB2.out.size _) | exact belowDraws (HB2.out.alloc HB2.out.size _) _ | exact belowDraws (belowDraws (HB2.out.alloc HB2.out.size _) _) _ | exact ((HB2.out.alloc HB2.out.size _).alloc (by have := HB2.out.size; simp; omega) _) | exact belowDraws ((HB2.out.alloc HB2.out.size _).alloc (by have := HB2.out.size; simp; omega) _) _ | exact belowDraws (belowDraws ((HB2.out.alloc HB2.out.size _).alloc (by have := HB2.out.size; simp; omega) _) _) _ | exact ((belowDraws (HB2.out.alloc HB2.out.size _) _).alloc (by have := HB2.out.size; simp; omega) _) | exact belowDraws ((belowDraws (HB2.out.alloc HB2.out.size _) _).alloc (by have := HB2.out.size; simp; omega) _) _ | exact belowDraws (belowDraws ((belowDraws (HB2.out.alloc HB2.out.size _) _).alloc (by have := HB2.out.size; simp; omega) _) _) _⟩
        · have hqd : (q != 3) = true := by simpa using hq
          obtain ⟨x0, x1, x2, x3⟩ := X0.out.four
          go_enter Try.func38, Try.ntmps38
          go_wp2
          refine wp_loop_rounds 3 ?_
          rw [rounds_succ]
          have Z0 := Lib.hid (HI0.out.below ((Below.refl _ _).alloc (Nat.le_refl _) (.cells #[.int .i64 p, .slice A n c] 30)))
          go_wp2_with fail
          refine (implIsState_calls A n c p L _ HL.out hn Z0.out).mono ?_
          rintro e w1 ⟨rfl, hb⟩
          have X1 := Lib.hid ((X0.out.alloc (.cells #[.int .i64 p, .slice A n c] 30)).below hb (by have := X0.out.lt; simp; omega))
          have HI1 := Lib.hid ((HI0.out.below ((Below.refl _ _).alloc (Nat.le_refl _) (.cells #[.int .i64 p, .slice A n c] 30))).below hb)
          have HJ1 := Lib.hid ((HJ0.out.below ((Below.refl _ _).alloc (Nat.le_refl _) (.cells #[.int .i64 p, .slice A n c] 30))).below hb)
          have HB1 := Lib.hid ((HB0.out.alloc HB0.out.size (.cells #[.int .i64 p, .slice A n c] 30)).trans (hb.mono (by have := HB0.out.size; first | omega | (simp; done) | (simp; omega))))
          clear Z0
          clear hb x0 x1 x2 x3 X0 HI0 HJ0 HB0
          obtain ⟨x0, x1, x2, x3⟩ := X1.out.four
          go_wp2
          rw [rounds_succ]
          have Z1 := Lib.hid (HJ1.out.below ((Below.refl _ _).alloc (Nat.le_refl _) (.cells #[.int .i64 q, .slice B m d] 30)))
          go_wp2_with fail
          refine (implIsState_calls B m d q M _ HM.out hm Z1.out).mono ?_
          rintro e w2 ⟨rfl, hb⟩
          have X2 := Lib.hid ((X1.out.alloc (.cells #[.int .i64 q, .slice B m d] 30)).below hb (by have := X1.out.lt; simp; omega))
          have HI2 := Lib.hid ((HI1.out.below ((Below.refl _ _).alloc (Nat.le_refl _) (.cells #[.int .i64 q, .slice B m d] 30))).below hb)
          have HJ2 := Lib.hid ((HJ1.out.below ((Below.refl _ _).alloc (Nat.le_refl _) (.cells #[.int .i64 q, .slice B m d] 30))).below hb)
          have HB2 := Lib.hid ((HB1.out.alloc HB1.out.size (.cells #[.int .i64 q, .slice B m d] 30)).trans (hb.mono (by have := HB1.out.size; first | omega | (simp; done) | (simp; omega))))
          clear Z1
          clear hb x0 x1 x2 x3 X1 HI1 HJ1 HB1
          obtain ⟨x0, x1, x2, x3⟩ := X2.out.four
          go_wp2
          rw [rounds_succ]
          go_wp2
          refine wp_loop_rounds 3 ?_
          rw [rounds_succ]
          obtain ⟨z0, z1, z2, z3⟩ := (X2.out.alloc (.cells #[.int .i64 p, .slice A n c] 30)).four
          go_wp2_with fail
          go_quiet (fail)
          go_wp2
          rw [rounds_succ]
          obtain ⟨v0, v1, v2, v3⟩ := (((X2.out.alloc (.cells #[.int .i64 p, .slice A n c] 30)).draws nq).alloc (.cells #[.int .i64 q, .slice B m d] 30)).four
          go_wp2_with fail
          go_quiet (fail)
          go_wp2
          go_ret
          exact ⟨ret_int' (by unfold code2; rw [if_pos ⟨HS.out, HT.out⟩, if_neg (by rintro ⟨_, h, _⟩; exact hq h)]), by first | exact HB2.out | exact belowDraws HB2.out _ | exact belowDraws (belowDraws HB2.out _) _ | exact (HB2.out.alloc HB2.out.size _) | exact belowDraws (HB2.out.alloc HB2.out.size _) _ | exact belowDraws (belowDraws (HB2.out.alloc HB2.out.size _) _) _ | exact ((HB2.out.alloc HB2.out.size _).alloc (by have := HB2.out.size; simp; omega) _) | exact belowDraws ((HB2.out.alloc HB2.out.size _).alloc (by have := HB2.out.size; simp; omega) _) _ | exact belowDraws (belowDraws ((HB2.out.alloc HB2.out.size _).alloc (by have := HB2.out.size; simp; omega) _) _) _ | exact ((belowDraws (HB2.out.alloc HB2.out.size _) _).alloc (by have := HB2.out.size; simp; omega) _) | exact belowDraws ((belowDraws (HB2.out.alloc HB2.out.size _) _).alloc (by have := HB2.out.size; simp; omega) _) _ | exact belowDraws (belowDraws ((belowDraws (HB2.out.alloc HB2.out.size _) _).alloc (by have := HB2.out.size; simp; omega) _) _) _⟩
      · have hpd : (p != 3) = true := by simpa using hp
        obtain ⟨x0, x1, x2, x3⟩ := X0.out.four
        go_enter Try.func38, Try.ntmps38
        go_wp2
        refine wp_loop_rounds 3 ?_
        rw [rounds_succ]
        have Z0 := Lib.hid (HI0.out.below ((Below.refl _ _).alloc (Nat.le_refl _) (.cells #[.int .i64 p, .slice A n c] 30)))
        go_wp2_with fail
        refine (implIsState_calls A n c p L _ HL.out hn Z0.out).mono ?_
        rintro e w1 ⟨rfl, hb⟩
        have X1 := Lib.hid ((X0.out.alloc (.cells #[.int .i64 p, .slice A n c] 30)).below hb (by have := X0.out.lt; simp; omega))
        have HI1 := Lib.hid ((HI0.out.below ((Below.refl _ _).alloc (Nat.le_refl _) (.cells #[.int .i64 p, .slice A n c] 30))).below hb)
        have HJ1 := Lib.hid ((HJ0.out.below ((Below.refl _ _).alloc (Nat.le_refl _) (.cells #[.int .i64 p, .slice A n c] 30))).below hb)
        have HB1 := Lib.hid ((HB0.out.alloc HB0.out.size (.cells #[.int .i64 p, .slice A n c] 30)).trans (hb.mono (by have := HB0.out.size; first | omega | (simp; done) | (simp; omega))))
        clear Z0
        clear hb x0 x1 x2 x3 X0 HI0 HJ0 HB0
        obtain ⟨x0, x1, x2, x3⟩ := X1.out.four
        go_wp2
        rw [rounds_succ]
        have Z1 := Lib.hid (HJ1.out.below ((Below.refl _ _).alloc (Nat.le_refl _) (.cells #[.int .i64 q, .slice B m d] 30)))
        go_wp2_with fail
        refine (implIsState_calls B m d q M _ HM.out hm Z1.out).mono ?_
        rintro e w2 ⟨rfl, hb⟩
        have X2 := Lib.hid ((X1.out.alloc (.cells #[.int .i64 q, .slice B m d] 30)).below hb (by have := X1.out.lt; simp; omega))
        have HI2 := Lib.hid ((HI1.out.below ((Below.refl _ _).alloc (Nat.le_refl _) (.cells #[.int .i64 q, .slice B m d] 30))).below hb)
        have HJ2 := Lib.hid ((HJ1.out.below ((Below.refl _ _).alloc (Nat.le_refl _) (.cells #[.int .i64 q, .slice B m d] 30))).below hb)
        have HB2 := Lib.hid ((HB1.out.alloc HB1.out.size (.cells #[.int .i64 q, .slice B m d] 30)).trans (hb.mono (by have := HB1.out.size; first | omega | (simp; done) | (simp; omega))))
        clear Z1
        clear hb x0 x1 x2 x3 X1 HI1 HJ1 HB1
        obtain ⟨x0, x1, x2, x3⟩ := X2.out.four
        go_wp2
        rw [rounds_succ]
        go_wp2
        refine wp_loop_rounds 3 ?_
        rw [rounds_succ]
        obtain ⟨z0, z1, z2, z3⟩ := (X2.out.alloc (.cells #[.int .i64 p, .slice A n c] 30)).four
        go_wp2_with fail
        go_quiet (fail)
        go_wp2
        go_ret
        exact ⟨ret_int' (by unfold code2; rw [if_pos ⟨HS.out, HT.out⟩, if_neg (by rintro ⟨h, _⟩; exact hp h)]), by first | exact HB2.out | exact belowDraws HB2.out _ | exact belowDraws (belowDraws HB2.out _) _ | exact (HB2.out.alloc HB2.out.size _) | exact belowDraws (HB2.out.alloc HB2.out.size _) _ | exact belowDraws (belowDraws (HB2.out.alloc HB2.out.size _) _) _ | exact ((HB2.out.alloc HB2.out.size _).alloc (by have := HB2.out.size; simp; omega) _) | exact belowDraws ((HB2.out.alloc HB2.out.size _).alloc (by have := HB2.out.size; simp; omega) _) _ | exact belowDraws (belowDraws ((HB2.out.alloc HB2.out.size _).alloc (by have := HB2.out.size; simp; omega) _) _) _ | exact ((belowDraws (HB2.out.alloc HB2.out.size _) _).alloc (by have := HB2.out.size; simp; omega) _) | exact belowDraws ((belowDraws (HB2.out.alloc HB2.out.size _) _).alloc (by have := HB2.out.size; simp; omega) _) _ | exact belowDraws (belowDraws ((belowDraws (HB2.out.alloc HB2.out.size _) _).alloc (by have := HB2.out.size; simp; omega) _) _) _⟩
    · have ht' : stateB q M = false := by simpa using ht
      have HT := Lib.hid ht'
      clear ht
      obtain ⟨x0, x1, x2, x3⟩ := X0.out.four
      go_enter Try.func38, Try.ntmps38
      go_wp2
      refine wp_loop_rounds 3 ?_
      rw [rounds_succ]
      have Z0 := Lib.hid (HI0.out.below ((Below.refl _ _).alloc (Nat.le_refl _) (.cells #[.int .i64 p, .slice A n c] 30)))
      go_wp2_with fail
      refine (implIsState_calls A n c p L _ HL.out hn Z0.out).mono ?_
      rintro e w1 ⟨rfl, hb⟩
      have X1 := Lib.hid ((X0.out.alloc (.cells #[.int .i64 p, .slice A n c] 30)).below hb (by have := X0.out.lt; simp; omega))
      have HI1 := Lib.hid ((HI0.out.below ((Below.refl _ _).alloc (Nat.le_refl _) (.cells #[.int .i64 p, .slice A n c] 30))).below hb)
      have HJ1 := Lib.hid ((HJ0.out.below ((Below.refl _ _).alloc (Nat.le_refl _) (.cells #[.int .i64 p, .slice A n c] 30))).below hb)
      have HB1 := Lib.hid ((HB0.out.alloc HB0.out.size (.cells #[.int .i64 p, .slice A n c] 30)).trans (hb.mono (by have := HB0.out.size; first | omega | (simp; done) | (simp; omega))))
      clear Z0
      clear hb x0 x1 x2 x3 X0 HI0 HJ0 HB0
      obtain ⟨x0, x1, x2, x3⟩ := X1.out.four
      go_wp2
      rw [rounds_succ]
      have Z1 := Lib.hid (HJ1.out.below ((Below.refl _ _).alloc (Nat.le_refl _) (.cells #[.int .i64 q, .slice B m d] 30)))
      go_wp2_with fail
      refine (implIsState_calls B m d q M _ HM.out hm Z1.out).mono ?_
      rintro e w2 ⟨rfl, hb⟩
      have X2 := Lib.hid ((X1.out.alloc (.cells #[.int .i64 q, .slice B m d] 30)).below hb (by have := X1.out.lt; simp; omega))
      have HI2 := Lib.hid ((HI1.out.below ((Below.refl _ _).alloc (Nat.le_refl _) (.cells #[.int .i64 q, .slice B m d] 30))).below hb)
      have HJ2 := Lib.hid ((HJ1.out.below ((Below.refl _ _).alloc (Nat.le_refl _) (.cells #[.int .i64 q, .slice B m d] 30))).below hb)
      have HB2 := Lib.hid ((HB1.out.alloc HB1.out.size (.cells #[.int .i64 q, .slice B m d] 30)).trans (hb.mono (by have := HB1.out.size; first | omega | (simp; done) | (simp; omega))))
      clear Z1
      clear hb x0 x1 x2 x3 X1 HI1 HJ1 HB1
      obtain ⟨x0, x1, x2, x3⟩ := X2.out.four
      go_wp2
      go_ret
      exact ⟨ret_int' (by unfold code2; rw [if_neg (by rintro ⟨_, h⟩; rw [HT.out] at h; cases h)]), by first | exact HB2.out | exact belowDraws HB2.out _ | exact belowDraws (belowDraws HB2.out _) _ | exact (HB2.out.alloc HB2.out.size _) | exact belowDraws (HB2.out.alloc HB2.out.size _) _ | exact belowDraws (belowDraws (HB2.out.alloc HB2.out.size _) _) _ | exact ((HB2.out.alloc HB2.out.size _).alloc (by have := HB2.out.size; simp; omega) _) | exact belowDraws ((HB2.out.alloc HB2.out.size _).alloc (by have := HB2.out.size; simp; omega) _) _ | exact belowDraws (belowDraws ((HB2.out.alloc HB2.out.size _).alloc (by have := HB2.out.size; simp; omega) _) _) _ | exact ((belowDraws (HB2.out.alloc HB2.out.size _) _).alloc (by have := HB2.out.size; simp; omega) _) | exact belowDraws ((belowDraws (HB2.out.alloc HB2.out.size _) _).alloc (by have := HB2.out.size; simp; omega) _) _ | exact belowDraws (belowDraws ((belowDraws (HB2.out.alloc HB2.out.size _) _).alloc (by have := HB2.out.size; simp; omega) _) _) _⟩
  · have hs' : stateB p L = false := by simpa using hs
    have HS := Lib.hid hs'
    clear hs
    obtain ⟨x0, x1, x2, x3⟩ := X0.out.four
    go_enter Try.func38, Try.ntmps38
    go_wp2
    refine wp_loop_rounds 3 ?_
    rw [rounds_succ]
    have Z0 := Lib.hid (HI0.out.below ((Below.refl _ _).alloc (Nat.le_refl _) (.cells #[.int .i64 p, .slice A n c] 30)))
    go_wp2_with fail
    refine (implIsState_calls A n c p L _ HL.out hn Z0.out).mono ?_
    rintro e w1 ⟨rfl, hb⟩
    have X1 := Lib.hid ((X0.out.alloc (.cells #[.int .i64 p, .slice A n c] 30)).below hb (by have := X0.out.lt; simp; omega))
    have HI1 := Lib.hid ((HI0.out.below ((Below.refl _ _).alloc (Nat.le_refl _) (.cells #[.int .i64 p, .slice A n c] 30))).below hb)
    have HJ1 := Lib.hid ((HJ0.out.below ((Below.refl _ _).alloc (Nat.le_refl _) (.cells #[.int .i64 p, .slice A n c] 30))).below hb)
    have HB1 := Lib.hid ((HB0.out.alloc HB0.out.size (.cells #[.int .i64 p, .slice A n c] 30)).trans (hb.mono (by have := HB0.out.size; first | omega | (simp; done) | (simp; omega))))
    clear Z0
    clear hb x0 x1 x2 x3 X0 HI0 HJ0 HB0
    obtain ⟨x0, x1, x2, x3⟩ := X1.out.four
    go_wp2
    go_ret
    exact ⟨ret_int' (by unfold code2; rw [if_neg (by rintro ⟨h, _⟩; rw [HS.out] at h; cases h)]), by first | exact HB1.out | exact belowDraws HB1.out _ | exact belowDraws (belowDraws HB1.out _) _ | exact (HB1.out.alloc HB1.out.size _) | exact belowDraws (HB1.out.alloc HB1.out.size _) _ | exact belowDraws (belowDraws (HB1.out.alloc HB1.out.size _) _) _ | exact ((HB1.out.alloc HB1.out.size _).alloc (by have := HB1.out.size; simp; omega) _) | exact belowDraws ((HB1.out.alloc HB1.out.size _).alloc (by have := HB1.out.size; simp; omega) _) _ | exact belowDraws (belowDraws ((HB1.out.alloc HB1.out.size _).alloc (by have := HB1.out.size; simp; omega) _) _) _ | exact ((belowDraws (HB1.out.alloc HB1.out.size _) _).alloc (by have := HB1.out.size; simp; omega) _) | exact belowDraws ((belowDraws (HB1.out.alloc HB1.out.size _) _).alloc (by have := HB1.out.size; simp; omega) _) _ | exact belowDraws (belowDraws ((belowDraws (HB1.out.alloc HB1.out.size _) _).alloc (by have := HB1.out.size; simp; omega) _) _) _⟩

end Go.Proofs.Ytbcgomimfgggnaa

namespace Go.Proofs.Ytbcgomimfgggnaa
open Go.RowKit
open Go.RowKit (wrap64)
set_option linter.unusedVariables false
set_option maxRecDepth 100000

theorem Ints.take {w : World} {A : Option Addr} {L : List Int} (h : Ints w A L) (d : Nat) : Ints w A (L.take d) := by
  intro k hk
  have hk' : k < L.length := by simp at hk; omega
  obtain ⟨ad, h1, h2, h3⟩ := h k hk'
  refine ⟨ad, h1, h2, ?_⟩
  rw [h3, List.getD_eq_getElem?_getD, List.getD_eq_getElem?_getD, List.getElem?_take, if_pos (by simp at hk; omega)]

/-- Two boxes of a state each, laid one after the other. -/
theorem twoBoxes (w : World) (p q : Int) (A B : Option Addr) (n c m d t : Nat) :
    Box ((w.alloc (.cells #[.int .i64 p, .slice A n c] t)).alloc (.cells #[.int .i64 q, .slice B m d] t)) w.heap.size t #[.int .i64 p, .slice A n c] ∧
    Box ((w.alloc (.cells #[.int .i64 p, .slice A n c] t)).alloc (.cells #[.int .i64 q, .slice B m d] t)) (w.heap.size + 1) t #[.int .i64 q, .slice B m d] ∧
    Below w.heap.size w ((w.alloc (.cells #[.int .i64 p, .slice A n c] t)).alloc (.cells #[.int .i64 q, .slice B m d] t)) := by
  refine ⟨(Box.new _ _ _).alloc _, ?_, ((Below.refl _ _).alloc (Nat.le_refl _) _).alloc (by simp) _⟩
  have := Box.new (w.alloc (.cells #[.int .i64 p, .slice A n c] t)) t #[.int .i64 q, .slice B m d]
  rwa [World.size_alloc] at this

theorem grt_step_eq {L M : List Int} {k : Nat} (h : L[k]?.getD 0 = M[k]?.getD 0) : grt L M (k + 1) = grt L M k := by rw [grt, if_pos h]
theorem grt_step_ne {L M : List Int} {k : Nat} (h : L[k]?.getD 0 ≠ M[k]?.getD 0) : grt L M (k + 1) = k := by rw [grt, if_neg h]

set_option maxHeartbeats 1000000 in
theorem l02Greatest_calls (A : Option Addr) (n c : Nat) (p : Int) (L : List Int) (B : Option Addr) (d : Nat) (q : Int) (M : List Int) (w : World) (hL : L.length = n) (hM : M.length = n) (hn : n ≤ 8) (hI : Ints w A L) (hJ : Ints w B M) :
    Calls Try.prog 36 #[.agg #[.int .i64 p, .slice A n c], .agg #[.int .i64 q, .slice B n d]] w fun e w' => e = .returned (.int .i64 (grt L M n)) ∧ Below w.heap.size w w' := by
  have HL := Lib.hid hL
  have HM := Lib.hid hM
  obtain ⟨b1, b2, b3⟩ := twoBoxes w p q A B n c n d 30
  have X0 := Lib.hid b1
  have Y0 := Lib.hid b2
  have HB0 := Lib.hid b3
  have HI0 := Lib.hid (hI.below b3)
  have HJ0 := Lib.hid (hJ.below b3)
  clear hL hM b1 b2 b3 hI hJ
  go_enter Try.func36, Try.ntmps36
  go_wp2
  go_loopw [5] (fun i wr => ∃ m : Nat, m ≤ n ∧ i = .int .i64 ((m : Int) - 1) ∧ Hid (grt L M n = grt L M m) ∧ ∃ k, wr = ((w.alloc (.cells #[.int .i64 p, .slice A n c] 30)).alloc (.cells #[.int .i64 q, .slice B n d] 30)).drewN k) (fun i _ => (intOf i + 1).toNat)
  case atStart => exact ⟨n, Nat.le_refl _, rfl, Lib.hid rfl, 0, rfl⟩
  case round =>
    obtain ⟨m, hm, rfl, HG, k0, rfl⟩ := hrel
    obtain ⟨x0, x1, y0, y1⟩ := cells22 X0.out Y0.out
    cases m with
    | zero =>
      go_wp2
      go_ret
      exact ⟨ret_int' HG.out, belowDraws HB0.out _⟩
    | succ k =>
      have hk : k < n := by omega
      obtain ⟨ad, rfl, had, hc⟩ := HI0.out k (by rw [HL.out]; exact hk)
      obtain ⟨ad', rfl, had', hc'⟩ := HJ0.out k (by rw [HM.out]; exact hk)
      have hi0 : (0 : Int) ≤ (k : Int) := by omega
      have hi1 : (k : Int) < (n : Int) := by omega
      have hi2 : ((k + 1 : Nat) : Int) - 1 = (k : Int) := by omega
      rw [hi2]
      clear hi2
      by_cases he : L[k]?.getD 0 = M[k]?.getD 0
      · have ht : (L[k]?.getD 0 != M[k]?.getD 0) = false := by simpa using he
        have HST := Lib.hid (grt_step_eq he)
        clear he
        go_wp2_with fail
        go_quiet (fail)
        go_wp2
        go_roundw
        case rel => exact ⟨k, by omega, rfl, Lib.hid (HG.out.trans HST.out), by first | exact ⟨_, rfl⟩ | exact ⟨_, World.drewN_drewN _ _ _⟩⟩
        case measure => simp [intOf] <;> omega
      · have ht : (L[k]?.getD 0 != M[k]?.getD 0) = true := by simpa using he
        have HST := Lib.hid (grt_step_ne he)
        clear he
        go_wp2_with fail
        go_quiet (fail)
        go_wp2
        go_ret
        exact ⟨ret_int' (HG.out.trans HST.out), by first | exact belowDraws HB0.out _ | exact belowDraws (belowDraws HB0.out _) _⟩

/-- The same shift, as a region that draws its order writes it. -/
theorem shl_drawn {k : Nat} (hk : k < 9) : IntKind.i64.wrap (2 ^ min (IntKind.u64.wrap (k : Int)).toNat 64) = pow2 k := by
  have e : IntKind.u64.wrap (k : Int) = k := IntWalk.u64_in _ (by omega)
  have e2 : min k 64 = k := by omega
  have e3 : (2 : Int) ^ k = pow2 k := by unfold pow2; simp
  have hb := pow2_bd (k := k) (by omega)
  rw [e, Int.toNat_natCast, e2, e3]
  exact IntWalk.i64_in _ (by omega)

/-- What is known of the pegs of the greatest disc that differs. -/
theorem carry_facts {L M : List Int} {n D : Nat} (hp : pegsOk L) (hq : pegsOk M) (hL : L.length = n) (hM : M.length = n) (hg : grt L M n = D) :
    D < n ∧ 0 ≤ L[D]?.getD 0 ∧ L[D]?.getD 0 ≤ 2 ∧ 0 ≤ M[D]?.getD 0 ∧ M[D]?.getD 0 ≤ 2 ∧ L[D]?.getD 0 ≠ M[D]?.getD 0 := by
  have h1 := (grt_bd L M n).2
  have h2 := grt_ne L M n D hg
  have h3 := pegsOk_at hp (d := D) (by omega)
  have h4 := pegsOk_at hq (d := D) (by omega)
  exact ⟨by omega, h3.1, h3.2, h4.1, h4.2, h2⟩

set_option maxHeartbeats 2000000 in
theorem l02Numbers_calls (A : Option Addr) (n c : Nat) (p : Int) (L : List Int) (B : Option Addr) (d : Nat) (q : Int) (M : List Int) (D : Nat) (w : World) (hL : L.length = n) (hM : M.length = n) (hn : n ≤ 8) (hI : Ints w A L) (hJ : Ints w B M)
    (hcap : n ≤ c) (hc : c ≤ 9223372036854775807) (hdap : n ≤ d) (hd : d ≤ 9223372036854775807) (hpL : pegsOk L) (hpM : pegsOk M) (hg : grt L M n = D) :
    Calls Try.prog 37 #[.agg #[.int .i64 p, .slice A n c], .agg #[.int .i64 q, .slice B n d]] w fun e w' => e = .returned (.tuple #[.int .i64 (oneN L M D), .int .i64 (twoN L M D)]) ∧ Below w.heap.size w w' := by
  obtain ⟨hD, hP0, hP1, hQ0, hQ1, hne⟩ := carry_facts hpL hpM hL hM hg
  have HL := Lib.hid hL
  have HM := Lib.hid hM
  have HG := Lib.hid hg
  obtain ⟨b1, b2, b3⟩ := twoBoxes w p q A B n c n d 30
  have X0 := Lib.hid b1
  have Y0 := Lib.hid b2
  have HB0 := Lib.hid b3
  have HI0 := Lib.hid (hI.below b3)
  have HJ0 := Lib.hid (hJ.below b3)
  have hd1 := distP_bd (L.take D) (3 - L[D]?.getD 0 - M[D]?.getD 0) (by simp; omega)
  have hd2 := distP_bd (M.take D) (3 - L[D]?.getD 0 - M[D]?.getD 0) (by simp; omega)
  have hd3 := distP_bd (L.take D) (M[D]?.getD 0) (by simp; omega)
  have hd4 := distP_bd (M.take D) (L[D]?.getD 0) (by simp; omega)
  have hpw := pow2_bd (k := D) (by omega)
  have hsh := shl_pow (k := D) (by omega)
  have HLT : Hid ((L.take D).length = D) := by unfold Hid; simp; omega
  have HMT : Hid ((M.take D).length = D) := by unfold Hid; simp; omega
  have HPL := Lib.hid (pegsOk_take hpL D)
  have HPM := Lib.hid (pegsOk_take hpM D)
  obtain ⟨ad, rfl, had, hcx⟩ := HI0.out D (by rw [HL.out]; exact hD)
  obtain ⟨ad', rfl, had', hcy⟩ := HJ0.out D (by rw [HM.out]; exact hD)
  rw [List.getD_eq_getElem?_getD] at hcx hcy
  show Calls _ _ _ _ fun e w' => e = .returned (.tuple #[.int .i64 (distP (L.take D) (3 - L[D]?.getD 0 - M[D]?.getD 0) + distP (M.take D) (3 - L[D]?.getD 0 - M[D]?.getD 0) + 1), .int .i64 (distP (L.take D) (M[D]?.getD 0) + distP (M.take D) (L[D]?.getD 0) + pow2 D + 1)]) ∧ Below w.heap.size w w'
  generalize L[D]?.getD 0 = P at *
  generalize M[D]?.getD 0 = Q at *
  generalize hu1 : distP (L.take D) (3 - P - Q) = u1 at *
  generalize hu2 : distP (M.take D) (3 - P - Q) = u2 at *
  generalize hu3 : distP (L.take D) Q = u3 at *
  generalize hu4 : distP (M.take D) P = u4 at *
  have U1 := Lib.hid hu1
  have U2 := Lib.hid hu2
  have U3 := Lib.hid hu3
  have U4 := Lib.hid hu4
  have hi0 : (0 : Int) ≤ (D : Int) := by omega
  have hi1 : (D : Int) < (n : Int) := by omega
  have hi2 : (D : Int) ≤ (c : Int) := by omega
  have hi3 : (D : Int) ≤ (d : Int) := by omega
  have hr : 0 ≤ 3 - P - Q ∧ 3 - P - Q ≤ 2 := by omega
  clear hL hM b1 b2 b3 hI hJ hg hu1 hu2 hu3 hu4 hpL hpM
  obtain ⟨x0, x1, y0, y1⟩ := cells22 X0.out Y0.out
  go_enter Try.func37, Try.ntmps37
  go_wp2_with fail
  refine (l02Greatest_calls (some ad) n c p L (some ad') d q M _ HL.out HM.out hn HI0.out HJ0.out).mono ?_
  rintro e w1 ⟨rfl, hb⟩
  rw [HG.out]
  have X1 := Lib.hid (X0.out.below hb X0.out.lt)
  have Y1 := Lib.hid (Y0.out.below hb Y0.out.lt)
  have HI1 := Lib.hid (HI0.out.below hb)
  have HJ1 := Lib.hid (HJ0.out.below hb)
  have HB1 := Lib.hid (HB0.out.trans (hb.mono HB0.out.size))
  have hcx1 := (hb.cell (p := ad.add D) (by rw [add_block]; exact had)).trans hcx
  have hcy1 := (hb.cell (p := ad'.add D) (by rw [add_block]; exact had')).trans hcy
  clear hb x0 x1 y0 y1 hcx hcy X0 Y0 HI0 HJ0 HB0
  obtain ⟨x0, x1, y0, y1⟩ := cells22 X1.out Y1.out
  go_wp2_with fail
  go_quiet (fail)
  go_wp2
  clear x0 x1 y0 y1 hcx1 hcy1
  obtain ⟨_, sx, _, sy⟩ := cells22 X1.out Y1.out
  have hs1 : IntKind.i64.wrap (u1 + u2) = u1 + u2 := IntWalk.i64_in _ (by omega)
  have hs2 : IntKind.i64.wrap (u1 + u2 + 1) = u1 + u2 + 1 := IntWalk.i64_in _ (by omega)
  go_region_held3 (fun w' => w'.cell? ⟨w.heap.size, 1, none⟩ = some (.slice (some ad) n c) ∧ w'.cell? ⟨w.heap.size + 1, 1, none⟩ = some (.slice (some ad') n d))
    (first | exact ⟨sx, sy⟩ | exact ⟨X2.out.two.2.1, Y2.out.two.2.1⟩ | exact ⟨X3.out.two.2.1, Y3.out.two.2.1⟩ | go_keep)
    (first
    | (go_at_call 60; (with_reducible refine (l02To_calls (some ad) D c (L.take D) (3 - P - Q) _ HLT.out (by omega) ?_ HPL.out hr).mono ?_); (exact HI1.out.take D); rintro e w2 ⟨rfl, hb2⟩; rw [U1.out]; have X2 := Lib.hid (Box.below X1.out (undrewN (undrew hb2)) (Box.lt X1.out)); have Y2 := Lib.hid (Box.below Y1.out (undrewN (undrew hb2)) (Box.lt Y1.out)))
    | (go_at_call 60; (with_reducible refine (l02To_calls (some ad') D d (M.take D) (3 - P - Q) _ HMT.out (by omega) ?_ HPM.out hr).mono ?_); (exact (HJ1.out.below (undrewN (undrew hb2))).take D); rintro e w3 ⟨rfl, hb3⟩; rw [U2.out]; have X3 := Lib.hid (Box.below X2.out hb3 (Box.lt X2.out)); have Y3 := Lib.hid (Box.below Y2.out hb3 (Box.lt Y2.out))))
  have q2 := Below.size (undrewN (undrew hb2))
  have HB3 := Lib.hid ((HB1.out.trans ((undrewN (undrew hb2)).mono HB1.out.size)).trans (hb3.mono (Nat.le_trans HB1.out.size q2)))
  have HI3 := Lib.hid ((HI1.out.below (undrewN (undrew hb2))).below hb3)
  have HJ3 := Lib.hid ((HJ1.out.below (undrewN (undrew hb2))).below hb3)
  clear q2 hb2 hb3 sx sy X1 Y1 HI1 HJ1 HB1 X2 Y2 hs1 hs2
  go_wp2_with fail
  obtain ⟨_, sx, _, sy⟩ := cells22 X3.out Y3.out
  have hs6 := shl_drawn (k := D) (by omega)
  have hs3 : IntKind.i64.wrap (u3 + u4) = u3 + u4 := IntWalk.i64_in _ (by omega)
  have hs4 : IntKind.i64.wrap (u3 + u4 + pow2 D) = u3 + u4 + pow2 D := IntWalk.i64_in _ (by omega)
  have hs5 : IntKind.i64.wrap (u3 + u4 + pow2 D + 1) = u3 + u4 + pow2 D + 1 := IntWalk.i64_in _ (by omega)
  go_region_held3 (fun w' => w'.cell? ⟨w.heap.size, 1, none⟩ = some (.slice (some ad) n c) ∧ w'.cell? ⟨w.heap.size + 1, 1, none⟩ = some (.slice (some ad') n d))
    (first | exact ⟨sx, sy⟩ | exact ⟨X4.out.two.2.1, Y4.out.two.2.1⟩ | exact ⟨X5.out.two.2.1, Y5.out.two.2.1⟩ | go_keep)
    (first
    | (go_at_call 60; (with_reducible refine (l02To_calls (some ad) D c (L.take D) Q _ HLT.out (by omega) ?_ HPL.out ⟨hQ0, hQ1⟩).mono ?_); (exact HI3.out.take D); rintro e w4 ⟨rfl, hb4⟩; rw [U3.out]; have X4 := Lib.hid (Box.below X3.out (undrew hb4) (Box.lt X3.out)); have Y4 := Lib.hid (Box.below Y3.out (undrew hb4) (Box.lt Y3.out)))
    | (go_at_call 60; (with_reducible refine (l02To_calls (some ad') D d (M.take D) P _ HMT.out (by omega) ?_ HPM.out ⟨hP0, hP1⟩).mono ?_); (exact (HJ3.out.below (undrew hb4)).take D); rintro e w5 ⟨rfl, hb5⟩; rw [U4.out]; have X5 := Lib.hid (Box.below X4.out hb5 (Box.lt X4.out)); have Y5 := Lib.hid (Box.below Y4.out hb5 (Box.lt Y4.out))))
  have q4 := Below.size (undrew hb4)
  have HB5 := Lib.hid ((HB3.out.trans ((undrew hb4).mono HB3.out.size)).trans (hb5.mono (Nat.le_trans HB3.out.size q4)))
  have HI5 := Lib.hid ((HI3.out.below (undrew hb4)).below hb5)
  have HJ5 := Lib.hid ((HJ3.out.below (undrew hb4)).below hb5)
  clear q4 hb4 hb5 sx sy X3 Y3 HI3 HJ3 HB3 X4 Y4 hs3 hs4 hs5 hs6
  go_wp2
  go_ret2
  exact ⟨rfl, HB5.out⟩

end Go.Proofs.Ytbcgomimfgggnaa
