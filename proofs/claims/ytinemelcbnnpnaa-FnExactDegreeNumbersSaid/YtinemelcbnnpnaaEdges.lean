/- Contracts: the number of edges. -/
import Derived.Test.YtinemelcbnnpnaaStatesOf
import Derived.Test.YtinemelcbnnpnaaDegree
import Derived.Test.YtinemelcbnnpnaaCount
namespace Go.Proofs.Ytinemelcbnnpnaa
open Go.RowKit Go.Shelf
set_option linter.unusedVariables false
attribute [local go_sem] Oper.semAt_some

/-- The degree of the state of a rank, and the sum of the first ones. -/
def degN (k : Int) (m r : Nat) : Nat := (movesL k (digR k m r)).length
def sumDeg (k : Int) (m : Nat) : Nat → Nat
  | 0 => 0
  | j + 1 => sumDeg k m j + degN k m j
theorem degN_le {k : Int} {m : Nat} (hf : fitsB k m = true) (r : Nat) : degN k m r ≤ 40 := movesL_len (dig_state hf r (by omega))
theorem sumDeg_le {k : Int} {m : Nat} (hf : fitsB k m = true) : ∀ j, sumDeg k m j ≤ j * 40
  | 0 => by simp [sumDeg]
  | j + 1 => by have := sumDeg_le hf j; have := degN_le hf j; simp only [sumDeg]; omega
/-- What CountEdges answers. -/
def edV (k n : Int) : Int := if fitsB k n = true then ((sumDeg k n.toNat (powI k n.toNat).toNat : Nat) : Int) / 2 else 0
theorem edV_yes {k : Int} {m : Nat} (h : fitsB k m = true) : edV k m = ((sumDeg k m (powI k m).toNat : Nat) : Int) / 2 := by unfold edV; rw [if_pos h]; rfl
theorem edV_no {k n : Int} (h : fitsB k n = false) : edV k n = 0 := by unfold edV; rw [h]; rfl

set_option maxHeartbeats 1000000 in
theorem specCountEdges_calls (k n : Int) (w : World) :
    Calls Try.prog 32 #[.int .i64 k, .int .i64 n] w fun e w' => e = .returned (.tuple #[.int .i64 (edV k n), .int .i64 (cntE k n)]) ∧ Below w.heap.size w w' := by
  by_cases hf : fitsB k n = true
  · have hbd := fitsB_bd hf
    obtain ⟨m, rfl⟩ := Int.eq_ofNat_of_zero_le hbd.2.2.1
    have hpw := fitsB_pow hf
    rw [Int.toNat_natCast] at hpw
    have hp1 := powI_pos hbd.1 m
    have q2 := cntE_yes hf
    have q3 := Lib.hid (cntE_yes hf)
    have q1 := edV_yes hf
    have HF := Lib.hid hf
    obtain ⟨N, hN⟩ := Int.eq_ofNat_of_zero_le (a := powI k m) (by omega)
    rw [hN] at q1 hpw hp1
    rw [Int.toNat_natCast] at q1
    have Q1 := Lib.hid q1
    have HN := Lib.hid hN
    clear hf q1 hN
    go_enter Try.func32, Try.ntmps32
    go_wp2_with fail
    refine (l03Given_calls k m _).mono ?_
    rintro e w' ⟨rfl, rfl⟩
    go_wp2
    clear q2
    go_loopw [7, 8] (fun s r wr => ∃ j : Nat, j ≤ N ∧ r = .int .i64 j ∧ s = .int .i64 (sumDeg k m j) ∧ Below w.heap.size w wr) (fun _ r _ => N - (intOf r).toNat)
    case atStart => exact ⟨0, Nat.zero_le _, rfl, rfl, Below.refl _ _⟩
    case round =>
      obtain ⟨j, hj, rfl, rfl, hb⟩ := hrel
      have HB := Lib.hid hb
      have hsz := hb.size
      have hsd := sumDeg_le HF.out j
      clear hb
      by_cases hlt : j < N
      · go_wp2_with fail
        refine (l01Size_calls k m _ (by omega) (by omega) (by omega)).mono ?_
        rintro e w' ⟨rfl, rfl⟩
        rw [HN.out]
        go_wp2_with fail
        refine (l01OfRank_calls k j m _ (by omega) (by omega) (by omega) (by omega) (by omega)).mono ?_
        rintro e w1 ⟨A, c, rfl, hO, hb1⟩
        have HB1 := Lib.hid (HB.out.trans (hb1.mono hsz))
        have HO := Lib.hid hO.ints
        have hsz1 := HB1.out.size
        clear hb1 hO
        go_wp2_with fail
        refine (l01Moves_calls A m c k (digR k m j) _ (digR_len _ _ _) HO.out (dig_state HF.out j (by omega))).mono ?_
        rintro e w2 ⟨A2, c2, rfl, hO2, hb2⟩
        have HB2 := Lib.hid (HB1.out.trans (hb2.mono hsz1))
        have hdg : (movesL k (digR k m j)).length ≤ 40 := degN_le HF.out j
        have hst : Hid (sumDeg k m (j + 1) = sumDeg k m j + (movesL k (digR k m j)).length) := rfl
        clear hb2 hO2
        go_wp2
        go_roundw
        case rel => exact ⟨j + 1, by omega, by go_num, by rw [hst.out]; go_num, HB2.out⟩
        case measure => simp [intOf]; omega
      · obtain rfl : j = N := by omega
        go_wp2_with fail
        refine (l01Size_calls k m _ (by omega) (by omega) (by omega)).mono ?_
        rintro e w' ⟨rfl, rfl⟩
        rw [HN.out]
        go_wp2
        go_ret2
        exact ⟨ret_two Q1.out q3.out, HB.out⟩
  · have hf' : fitsB k n = false := by simpa using hf
    have q1 := Lib.hid (edV_no hf')
    have q2 := cntE_no hf'
    have q3 := Lib.hid (cntE_no hf')
    clear hf hf'
    go_enter Try.func32, Try.ntmps32
    go_wp2_with fail
    refine (l03Given_calls k n _).mono ?_
    rintro e w' ⟨rfl, rfl⟩
    go_wp2
    go_ret2
    exact ⟨ret_two q1.out q3.out, Below.refl _ _⟩

set_option maxRecDepth 100000 in
set_option maxHeartbeats 4000000 in
theorem implCountEdges_calls (k n : Int) (w : World) :
    Calls Try.prog 33 #[.int .i64 k, .int .i64 n] w fun e w' => e = .returned (.tuple #[.int .i64 (edV k n), .int .i64 (cntE k n)]) ∧ Below w.heap.size w w' := by
  by_cases hf : fitsB k n = true
  · have hbd := fitsB_bd hf
    obtain ⟨m, rfl⟩ := Int.eq_ofNat_of_zero_le hbd.2.2.1
    have hpw := fitsB_pow hf
    rw [Int.toNat_natCast] at hpw
    have hp1 := powI_pos hbd.1 m
    have q3 := cntE_yes hf
    have q1 := edV_yes hf
    have HF := Lib.hid hf
    rw [q1, q3]
    have hpN : (powI k m).toNat ≤ 6561 := by omega
    clear q1 q3
    refine (callsIn_wide (n := 6)).1 ?_
    refine callsIn_of_wp_marks Try.func33 rfl trivial ?_ rfl
    simp only [Try.ntmps33, List.size_toArray, List.length_cons, List.length_nil, Nat.reduceAdd, Nat.reduceSub, Array.replicate_succ, Array.replicate_zero, List.push_toArray, List.append_toArray, List.nil_append, List.cons_append]
    gi_wp2_with fail
    refine ⟨trivial, ?_⟩
    refine (callsIn_wide.2 (numberOfStates_calls k m w)).mono ?_
    rintro e w' ⟨rfl, rfl⟩
    gi_wp2_with (refine ⟨trivial, ?_⟩; gi_at_call 56; refine (statesOf_calls _ k m _).mono ?_; rintro e w' ⟨rfl, rfl⟩)
    have bD := ((Boxed.new w 2 (.int .i64 0)).alloc (.cells #[.int .i64 k] 2)).alloc (.cells #[.int .i64 m] 2)
    have bK := (Box.new (w.alloc (.cells #[.int .i64 0] 2)) 2 #[.int .i64 k]).alloc (.cells #[.int .i64 m] 2)
    have bN := Box.new ((w.alloc (.cells #[.int .i64 0] 2)).alloc (.cells #[.int .i64 k] 2)) 2 #[.int .i64 m]
    simp only [World.size_alloc] at bK bN
    have hB0 : Below w.heap.size w (((w.alloc (.cells #[.int .i64 0] 2)).alloc (.cells #[.int .i64 k] 2)).alloc (.cells #[.int .i64 m] 2)) := (((Below.refl _ _).alloc (Nat.le_refl _) _).alloc (by simp) _).alloc (by simp; omega) _
    have hsz : (((w.alloc (.cells #[.int .i64 0] 2)).alloc (.cells #[.int .i64 k] 2)).alloc (.cells #[.int .i64 m] 2)).heap.size = w.heap.size + 3 := by simp
    generalize ((w.alloc (.cells #[.int .i64 0] 2)).alloc (.cells #[.int .i64 k] 2)).alloc (.cells #[.int .i64 m] 2) = W0 at *
    refine rangeFunc_told (by omega) (gf := 64) (lb := #[.pointer (some ⟨w.heap.size + 1, 0, none⟩), .pointer (some ⟨w.heap.size + 1 + 1, 0, none⟩)]) rfl (enters_of Try.func64 (by kernel_rfl) rfl)
      (statesOf_told _ (w.heap.size + 1) (w.heap.size + 1 + 1) (by omega) k m HF.out W0 bK bN) (fun _ => rfl) (fun h j => keepB_t h j) (keepB_b (by intro b hb; omega))
      (fun pre W => Boxed W w.heap.size 2 (.int .i64 (sumDeg k m pre.length)) ∧ Below w.heap.size w W ∧ w.heap.size + 3 ≤ W.heap.size)
      (OwnFrom.and (Own.from (boxed_own _ _ (fun pre : List RkSt => .int .i64 (sumDeg k m pre.length))) _) (OwnFrom.and (ownFrom_below (Nat.le_refl _) (by omega)) (ownFrom_size _ _)))
      ⟨bD, hB0, by omega⟩
      (fun pre x a' W => (x.1 = pre.length ∧ x.1 < (powI k m).toNat ∧ m ≤ x.2.2 ∧ x.2.2 ≤ maxLen) ∧ Ints W x.2.1 (digR k m x.1) ∧ ∃ Bx, Box W Bx 29 #[.int .i64 k, .slice x.2.1 m x.2.2] ∧ a' = { tmps := #[.int .i64 k, .int .i64 m, undef, undef, .int .i64 0, .int .i64 0, .int .i64 (numOf k m), .bool true, .pointer (some ⟨w.heap.size, 0, none⟩), undef, .pointer (some ⟨Bx, 0, none⟩), .tuple #[.int .i64 (numOf k m), .bool true], .int .i64 k, .int .i64 m, .tuple #[.int .i64 (numOf k m), .bool true], .int .i64 (numOf k m), .bool true, .bool true, .bool false, .int .i64 k, .int .i64 m, .func (.func 64) #[] #[.pointer (some ⟨w.heap.size + 1, 0, none⟩), .pointer (some ⟨w.heap.size + 1 + 1, 0, none⟩)], .int .i64 x.1, .agg #[.int .i64 k, .slice x.2.1 m x.2.2], undef, undef, undef, undef, undef, undef], defers := [] })
      (fun pre x a' _ X Y row hs hg hr => ⟨hs.1, ints_own _ _ () X Y row hs.2.1 hg (fun r e => (hr r e).2), by obtain ⟨Bx, h2, h3⟩ := hs.2.2; exact ⟨Bx, box_own Bx 29 _ () X Y row h2 hg (fun r e => (hr r e).2), h3⟩⟩)
      ?assign ?body ?done
    case assign =>
      rintro l pre ⟨r, A, c⟩ W K ⟨hv, hB, hW⟩ ⟨g1, g2, g3, g4, g5⟩ hK
      have hle := hB.size
      dsimp only [rkV] at hK g1 g2 g3 g4 g5 ⊢
      subst g1
      gi_wp2
      exact hK _ _ ((KeepsOthers.alloc _ _).from _) (keepB_below ((Below.refl W.heap.size W).alloc (Nat.le_refl _) _) (fun b hb => by omega)) ⟨hv.alloc _, hB.alloc hle _, by simp; omega⟩ ⟨⟨by first | rfl | trivial, g2, g4, g5⟩, g3.below ((Below.refl _ _).alloc (Nat.le_refl _) _), W.heap.size, Box.new W 29 _, rfl⟩
    case body =>
      rintro l pre ⟨r, A, c⟩ a' W ⟨hv, hB, hW⟩ ⟨⟨g1, g2, g4, g5⟩, g3, Bx, bX, rfl⟩
      dsimp only at g1 g2 g3 g4 g5 bX ⊢
      unfold maxLen at g5
      subst g1
      have hsd := sumDeg_le HF.out pre.length
      have hdg : (movesL k (digR k m pre.length)).length ≤ 40 := degN_le HF.out _
      have hst : Hid (sumDeg k m (pre.length + 1) = sumDeg k m pre.length + (movesL k (digR k m pre.length)).length) := rfl
      have hc := hv.cell
      have hf0 := hv.frozen
      obtain ⟨s0, s1, _, _⟩ := bX.two
      have hd : 1 ≤ 6 - 1 - 1 := by omega
      have hmx : Try.prog.follows .mixedOrders = true := by kernel_rfl
      gi_wp2
      gi_region_with_o (refine ⟨trivial, ?_⟩; gi_at_call 57; refine (CallsIn.inRound l (callsIn_wide.2 (degreeOf_calls A m c k (digR k m pre.length) _ (digR_len _ _ _) (by omega) (by omega) (show Ints W.drew A _ from g3) (dig_state HF.out pre.length (by omega))))).mono ?_; rintro e w1 ⟨rfl, hb1⟩; have hv1 := Boxed.kept (show Boxed W.drew _ _ _ from hv) (grown_of_below hb1) (by simp); have hc1 := hv1.cell; have hf1 := hv1.frozen)
      all_goals
        have hw : IntKind.i64.wrap ((sumDeg k m pre.length : Int) + ((movesL k (digR k m pre.length)).length : Int)) = (sumDeg k m pre.length : Int) + ((movesL k (digR k m pre.length)).length : Int) := IntWalk.i64_in _ (by omega)
        have hbW : Below W.heap.size W w1 := undrew hb1
        have hzW := hbW.size
        rw [hw]
        refine ⟨((keepsOthers_of_below hbW).trans (KeepsOthers.setCell _ _ _)).from _, fun b hb => (Below.heap_setCell _ _ _ _ (by simp; omega)).trans (hbW.block b (by omega)), ?_, (hB.trans (hbW.mono hB.size)).setCell (by simp) _, by simp; omega⟩
        have := hv1.set (.int .i64 ((sumDeg k m pre.length : Int) + ((movesL k (digR k m pre.length)).length : Int)))
        rw [List.length_append]
        show Boxed _ _ _ (.int .i64 ((sumDeg k m (pre.length + 1) : Nat) : Int))
        rw [hst.out]
        simpa using this
    case done =>
      rintro D ys W hD hys ⟨hv, hB, hW⟩ hK
      have hlen : ys.length = (powI k m).toNat := by have := congrArg List.length hys; simpa using this
      rw [hlen] at hv
      have hc := hv.cell
      have hsd := sumDeg_le HF.out (powI k m).toNat
      clear hys hlen
      gi_wp2
      refine ⟨by simp, .inl ⟨_, _, rfl, run_takeDeferred hK, ?_⟩⟩
      refine ⟨_, results_tmp2 rfl _ _ _, rfl, hB.trans (belowK_b (w := w) (Nat.le_refl _) W D _ _ (by omega) hK rfl rfl)⟩
  · have hf' : fitsB k n = false := by simpa using hf
    have q1 := Lib.hid (edV_no hf')
    have q3 := Lib.hid (cntE_no hf')
    clear hf
    go_enter Try.func33, Try.ntmps33
    go_wp2_with fail
    refine (numberOfStates_calls k n _).mono ?_
    rintro e w' ⟨rfl, rfl⟩
    go_wp2
    go_ret2
    exact ⟨ret_two q1.out q3.out, Below.refl _ _⟩

end Go.Proofs.Ytinemelcbnnpnaa
