/- Contracts: a move among moves. -/
import Derived.Test.YtpiglaolofddfaaDoorHpA
import Derived.Laws.StructEq
namespace Go.Proofs.YtpiglaolofddfaaDoor
open Go.RowKit
set_option linter.unusedVariables false

theorem move_equalIn (a b c x y z : Int) (w : World) : (Op.equalIn 10000 40 (.agg #[.int .i64 a, .int .i64 b, .int .i64 c]) (.agg #[.int .i64 x, .int .i64 y, .int .i64 z])).run Tryd.prog w = .ok (a == x && (b == y && c == z)) w := by
  have u := Tryd.underlying2
  rw [show (10000 : Nat) = 9999 + 1 from rfl, run_equalIn_struct w 9999 40 _ _ (by kernel_rfl) (by kernel_rfl)]
  simp only [Program.fieldsOf, Tryd.underlying40]
  go_simp
  by_cases h1 : a = x <;> by_cases h2 : b = y <;> by_cases h3 : c = z <;> simp [h1, h2, h3, go_sem]

set_option maxHeartbeats 2000000 in
theorem moveIndex_calls (A : Option Addr) (n c : Nat) (M : List Mv) (m : Mv) (w : World) (hL : M.length = n) (hn : n ≤ 1048576) (hI : Mvs w A M) :
    Calls Tryd.prog 42 #[.slice A n c, .agg #[.int .i64 m.1, .int .i64 m.2.1, .int .i64 m.2.2]] w fun e w' => (∃ k : Int, e = .returned (.int .i64 k) ∧ (0 ≤ k ↔ m ∈ M) ∧ -1 ≤ k ∧ k ≤ 1048576) ∧ Below w.heap.size w w' := by
  obtain ⟨m0, m1, m2⟩ := m
  have HL := Lib.hid hL
  have hb0 : Below w.heap.size w (w.alloc (.cells #[.int .i64 m0, .int .i64 m1, .int .i64 m2] 40)) := (Below.refl _ _).alloc (Nat.le_refl _) _
  have HI := Lib.hid (hI.below hb0)
  have X0 := Lib.hid (Box.new w 40 #[.int .i64 m0, .int .i64 m1, .int .i64 m2])
  obtain ⟨W, hW⟩ : ∃ W, W = w.alloc (.cells #[.int .i64 m0, .int .i64 m1, .int .i64 m2] 40) := ⟨_, rfl⟩
  rw [← hW] at HI X0 hb0
  have HB0 := Lib.hid hb0
  have HW := Lib.hid hW
  clear hL hI hb0 hW
  go_enter Tryd.func42, Tryd.ntmps42
  go_wp2
  rw [← HW.out]
  go_loopw [5, 8] (fun _ i wr => ∃ k : Nat, k ≤ n ∧ i = .int .i64 k ∧ Hid ((m0, m1, m2) ∉ M.take k) ∧ Below W.heap.size W wr) (fun _ i _ => n - (intOf i).toNat)
  case atStart => exact ⟨0, by omega, rfl, by unfold Hid; simp, Below.refl _ _⟩
  case round =>
    obtain ⟨k, hk, rfl, hno, hbl⟩ := hrel
    have HB := Lib.hid hbl
    have X1 := Lib.hid (X0.out.below hbl X0.out.lt)
    have HI1 := Lib.hid (HI.out.below hbl)
    clear hbl
    obtain ⟨x0, x1, x2⟩ := X1.out.three
    by_cases hlt : k < n
    · obtain ⟨g, hA, hg, y0, y1, y2⟩ := HI1.out k (by rw [HL.out]; exact hlt)
      have hk2 : (k : Int) < (n : Int) := by omega
      subst hA
      have htk : Hid (M.take (k + 1) = M.take k ++ [M[k]?.getD (0, 0, 0)]) := by
        have hlt' : k < M.length := by rw [HL.out]; exact hlt
        unfold Hid
        rw [List.take_succ_eq_append_getElem hlt', List.getElem?_eq_getElem hlt']
        rfl
      generalize M[k]?.getD (0, 0, 0) = y at *
      obtain ⟨v0, v1, v2⟩ := y
      simp only at y0 y1 y2
      have hq := move_equalIn v0 v1 v2 m0 m1 m2
      have hq2 := move_equalIn m0 m1 m2 v0 v1 v2
      go_wp2_with fail
      go_quiet (fail)
      clear hq hq2
      by_cases he : (m0 == v0 && (m1 == v1 && m2 == v2)) = true
      · have HE := Lib.hid he
        rw [he]
        clear he
        go_wp2
        go_ret
        have h1 := HE.out
        simp only [Bool.and_eq_true, beq_iff_eq] at h1
        obtain ⟨rfl, rfl, rfl⟩ := h1
        have hmem : (m0, m1, m2) ∈ M := List.mem_of_mem_take (i := k + 1) (by rw [htk.out]; simp)
        exact ⟨⟨k, rfl, ⟨fun _ => hmem, fun _ => by omega⟩, by omega, by omega⟩, belowDraws (HB0.out.trans (HB.out.mono HB0.out.size)) _⟩
      · have he' : (m0 == v0 && (m1 == v1 && m2 == v2)) = false := Bool.eq_false_iff.2 he
        have HE := Lib.hid he
        rw [he']
        clear he he'
        go_wp2
        go_roundw
        case rel =>
          refine ⟨k + 1, by omega, rfl, ?_, belowDraws HB.out _⟩
          unfold Hid
          rw [htk.out, List.mem_append]
          rintro (h | h)
          · exact hno.out h
          · rw [List.mem_singleton] at h
            injection h with h1 h2
            injection h2 with h2 h3
            exact HE.out (by simp [h1, h2, h3])
        case measure => simp [intOf]; omega
    · obtain rfl : k = n := by omega
      go_wp2
      go_ret
      refine ⟨⟨-1, rfl, ⟨fun h => by omega, fun h => ?_⟩, by omega, by omega⟩, HB0.out.trans (HB.out.mono HB0.out.size)⟩
      refine absurd ?_ hno.out
      rw [← HL.out, List.take_length]
      exact h

theorem moveContains_calls (A : Option Addr) (n c : Nat) (M : List Mv) (m : Mv) (w : World) (hL : M.length = n) (hn : n ≤ 1048576) (hI : Mvs w A M) :
    Calls Tryd.prog 28 #[.slice A n c, .agg #[.int .i64 m.1, .int .i64 m.2.1, .int .i64 m.2.2]] w fun e w' => e = .returned (.bool (decide (m ∈ M))) ∧ Below w.heap.size w w' := by
  obtain ⟨m0, m1, m2⟩ := m
  have HL := Lib.hid hL
  have hb0 : Below w.heap.size w (w.alloc (.cells #[.int .i64 m0, .int .i64 m1, .int .i64 m2] 40)) := (Below.refl _ _).alloc (Nat.le_refl _) _
  have HI := Lib.hid (hI.below hb0)
  have HB0 := Lib.hid hb0
  have X0 := Lib.hid (Box.new w 40 #[.int .i64 m0, .int .i64 m1, .int .i64 m2])
  clear hL hI hb0
  obtain ⟨x0, x1, x2⟩ := X0.out.three
  go_enter Tryd.func28, Tryd.ntmps28
  go_wp2_with fail
  refine (moveIndex_calls A n c M (m0, m1, m2) _ HL.out hn HI.out).mono ?_
  rintro e w1 ⟨⟨k, rfl, hk, hk1, hk2⟩, hb⟩
  have HB1 := Lib.hid (HB0.out.trans (hb.mono HB0.out.size))
  have HK := Lib.hid hk
  clear hb hk
  by_cases h : 0 ≤ k
  · have HM := Lib.hid (HK.out.1 h)
    go_wp2
    go_ret
    exact ⟨by rw [decide_eq_true HM.out]; rfl, HB1.out⟩
  · have HM : Hid ((m0, m1, m2) ∉ M) := fun hm => h (HK.out.2 hm)
    have h' : k < 0 := by omega
    go_wp2
    go_ret
    exact ⟨by rw [decide_eq_false HM.out]; exact congrArg (fun b => Ending.returned (Value.bool b)) (decide_eq_false (by omega)), HB1.out⟩

end Go.Proofs.YtpiglaolofddfaaDoor
