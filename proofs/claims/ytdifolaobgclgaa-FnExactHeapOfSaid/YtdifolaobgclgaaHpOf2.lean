/- Contracts: 'HeapOf' of both sides. -/
import Derived.Test.YtdifolaobgclgaaHpOf
namespace Go.Proofs.Ytdifolaobgclgaa
open Go.RowKit
set_option linter.unusedVariables false

def codeHf (p : Int) (L : List Int) : Int := if stateB p L = true then (if p = 3 ∧ L.length ≤ 4 then 0 else 2) else 1
def hofV (p : Int) (L : List Int) : List (List Int) := if codeHf p L = 0 then stacksL 3 L L.length else []
theorem hof_no {p : Int} {L : List Int} (h : stateB p L = false) : hofV p L = [] ∧ codeHf p L = 1 := by
  have : codeHf p L = 1 := by unfold codeHf; rw [h]; rfl
  exact ⟨by unfold hofV; rw [this]; rfl, this⟩
theorem hof_far {p : Int} {L : List Int} (h : stateB p L = true) (h2 : ¬ (p = 3 ∧ L.length ≤ 4)) : hofV p L = [] ∧ codeHf p L = 2 := by
  have : codeHf p L = 2 := by unfold codeHf; rw [if_pos h, if_neg h2]
  exact ⟨by unfold hofV; rw [this]; rfl, this⟩
theorem hof_yes {L : List Int} {n : Nat} (hL : L.length = n) (h : stateB 3 L = true) (h2 : n ≤ 4) : hofV 3 L = stacksL 3 L n ∧ codeHf 3 L = 0 := by
  have : codeHf 3 L = 0 := by unfold codeHf; rw [if_pos h, if_pos ⟨rfl, by omega⟩]
  exact ⟨by unfold hofV; rw [this, hL]; rfl, this⟩
theorem hofV_small (p : Int) (L : List Int) : ((hofV p L).map List.length).sum + (hofV p L).length ≤ 1048576 := by
  by_cases h : stateB p L = true
  · by_cases h2 : p = 3 ∧ L.length ≤ 4
    · obtain ⟨rfl, h2⟩ := h2
      have := stkV_small 3 L
      rw [(hof_yes rfl h h2).1]
      unfold stkV at this
      rw [if_pos h] at this
      exact this
    · rw [(hof_far h h2).1]; simp
  · rw [(hof_no (by simpa using h)).1]; simp
theorem newSecond (w : World) (o : Obj) (t : Nat) (cs : Array Value) : Box ((w.alloc o).alloc (.cells cs t)) (w.heap.size + 1) t cs := Box.newAt (by simp)

set_option maxRecDepth 100000 in
set_option maxHeartbeats 4000000 in
theorem specHeapOf_ret (A : Option Addr) (n c : Nat) (p : Int) (L : List Int) (w : World) (hL : L.length = n) (hn : n ≤ 1048576) (hI : Ints w A L) :
    Calls Try.prog 6 #[.agg #[.int .i64 p, .slice A n c]] w (RetHeap w (hofV p L) (codeHf p L)) := by
  have HL := Lib.hid hL
  have hbA : Below w.heap.size w (w.alloc (.cells #[.int .i64 p, .slice A n c] 31)) := (Below.refl _ _).alloc (Nat.le_refl _) _
  have hb0 := hbA.alloc (by simp) (.cells #[.slice none 0 0] 28)
  have HB0 := Lib.hid hb0
  have HI0 := Lib.hid (hI.below hb0)
  have X0 := Lib.hid ((Box.new w 31 #[.int .i64 p, .slice A n c]).alloc (.cells #[.slice none 0 0] 28))
  have R0 := Lib.hid (newSecond w (.cells #[.int .i64 p, .slice A n c] 31) 28 #[.slice none 0 0])
  clear hbA hb0
  by_cases hs : stateB p L = true
  · have HSt := Lib.hid hs
    by_cases hp : p = 3
    · subst hp
      by_cases h4 : n ≤ 4
      · have H := Lib.hid (hof_yes hL hs h4)
        have hst := Lib.hid (state_at hs)
        have h4i : (n : Int) ≤ 4 := by omega
        clear hL hs
        go_enter Try.func6, Try.ntmps6
        go_wp2_with fail
        refine (l01Is_calls A n c 3 L _ HL.out hn HI0.out).mono ?_
        rintro e w1 ⟨rfl, hb⟩
        have HB1 := Lib.hid (HB0.out.trans (hb.mono HB0.out.size))
        have X1 := Lib.hid (X0.out.below hb X0.out.lt)
        have R1 := Lib.hid (R0.out.below hb R0.out.lt)
        rw [show stateB 3 L = true from HSt.out]
        obtain ⟨x0, x1, _, _⟩ := X1.out.two
        have hI1 := Lib.hid (hI.below HB1.out)
        clear hb X0 R0 HB0 HI0
        go_wp2_with fail
        refine (l06Of_calls A n c L _ HL.out h4 hI1.out (fun j hj => by have := hst.out j hj; omega)).mono ?_
        rintro e w2 ⟨A2, c2, rs2, rfl, hO, hLL, hb⟩
        have HB2 := Lib.hid (HB1.out.trans (hb.mono HB1.out.size))
        have R2 := Lib.hid (R1.out.below hb R1.out.lt)
        have HO := Lib.hid (hO.mono HB1.out.size)
        have HO' := Lib.hid hO
        have HLL := Lib.hid hLL
        have hlt := R1.out.lt
        obtain ⟨r0, rf⟩ := R2.out.one
        clear hb hO hLL x0 x1 X1 R1
        go_wp2
        have R3 : Box _ (w.heap.size + 1) 28 #[.slice A2 3 c2] := R2.out.set 0 (.slice A2 3 c2)
        obtain ⟨z0, _⟩ := R3.one
        refine bodyPost_ret (v := .tuple #[.agg #[.slice A2 3 c2], .int .i64 0]) (by simp [results, Try.results6, go_sem, z0]) rfl ?_
        exact ⟨_, _, _, rs2, by rw [H.out.2], (HO'.out.setOld (a := ⟨w.heap.size + 1, 0, none⟩) hlt _).mono HB1.out.size, by rw [HLL.out, H.out.1], HB2.out.setCell (Nat.le_succ _) _⟩
      · have H := Lib.hid (hof_far hs (fun h => h4 (by rw [← hL]; exact h.2)))
        have h4i : (4 : Int) < (n : Int) := by omega
        clear hL hs
        go_enter Try.func6, Try.ntmps6
        go_wp2_with fail
        refine (l01Is_calls A n c 3 L _ HL.out hn HI0.out).mono ?_
        rintro e w1 ⟨rfl, hb⟩
        have HB1 := Lib.hid (HB0.out.trans (hb.mono HB0.out.size))
        have X1 := Lib.hid (X0.out.below hb X0.out.lt)
        have R1 := Lib.hid (R0.out.below hb R0.out.lt)
        rw [show stateB 3 L = true from HSt.out]
        obtain ⟨x0, x1, _, _⟩ := X1.out.two
        obtain ⟨r0, rf⟩ := R1.out.one
        clear hb X0 R0 HB0 HI0
        go_wp2
        have R3 : Box _ (w.heap.size + 1) 28 #[.slice none 0 0] := R1.out.set 0 (.slice none 0 0)
        obtain ⟨z0, _⟩ := R3.one
        refine bodyPost_ret (v := .tuple #[.agg #[.slice none 0 0], .int .i64 2]) (by simp [results, Try.results6, go_sem, z0]) rfl ?_
        rw [H.out.1]
        exact retHeap_zero (by rw [H.out.2]) (HB1.out.setCell (Nat.le_succ _) _)
    · have H := Lib.hid (hof_far hs (fun h => hp h.1))
      clear hL hs
      go_enter Try.func6, Try.ntmps6
      go_wp2_with fail
      refine (l01Is_calls A n c p L _ HL.out hn HI0.out).mono ?_
      rintro e w1 ⟨rfl, hb⟩
      have HB1 := Lib.hid (HB0.out.trans (hb.mono HB0.out.size))
      have X1 := Lib.hid (X0.out.below hb X0.out.lt)
      have R1 := Lib.hid (R0.out.below hb R0.out.lt)
      rw [show stateB p L = true from HSt.out]
      obtain ⟨x0, x1, _, _⟩ := X1.out.two
      obtain ⟨r0, rf⟩ := R1.out.one
      clear hb X0 R0 HB0 HI0
      go_wp2
      have R3 : Box _ (w.heap.size + 1) 28 #[.slice none 0 0] := R1.out.set 0 (.slice none 0 0)
      obtain ⟨z0, _⟩ := R3.one
      refine bodyPost_ret (v := .tuple #[.agg #[.slice none 0 0], .int .i64 2]) (by simp [results, Try.results6, go_sem, z0]) rfl ?_
      rw [H.out.1]
      exact retHeap_zero (by rw [H.out.2]) (HB1.out.setCell (Nat.le_succ _) _)
  · have hs' : stateB p L = false := by simpa using hs
    have H := Lib.hid (hof_no hs')
    have HSt := Lib.hid hs'
    clear hL hs hs'
    go_enter Try.func6, Try.ntmps6
    go_wp2_with fail
    refine (l01Is_calls A n c p L _ HL.out hn HI0.out).mono ?_
    rintro e w1 ⟨rfl, hb⟩
    have HB1 := Lib.hid (HB0.out.trans (hb.mono HB0.out.size))
    have R1 := Lib.hid (R0.out.below hb R0.out.lt)
    rw [show stateB p L = false from HSt.out]
    obtain ⟨r0, rf⟩ := R1.out.one
    clear hb X0 R0 HB0 HI0
    go_wp2
    have R3 : Box _ (w.heap.size + 1) 28 #[.slice none 0 0] := R1.out.set 0 (.slice none 0 0)
    obtain ⟨z0, _⟩ := R3.one
    refine bodyPost_ret (v := .tuple #[.agg #[.slice none 0 0], .int .i64 1]) (by simp [results, Try.results6, go_sem, z0]) rfl ?_
    rw [H.out.1]
    exact retHeap_zero (by rw [H.out.2]) (HB1.out.setCell (Nat.le_succ _) _)

set_option maxRecDepth 100000 in
set_option maxHeartbeats 4000000 in
theorem implHeapOf_ret (A : Option Addr) (n c : Nat) (p : Int) (L : List Int) (w : World) (hL : L.length = n) (hn : n ≤ 1048576) (hI : Ints w A L) :
    Calls Try.prog 8 #[.agg #[.int .i64 p, .slice A n c]] w (RetHeap w (hofV p L) (codeHf p L)) := by
  have HL := Lib.hid hL
  have hbA : Below w.heap.size w (w.alloc (.cells #[.int .i64 p, .slice A n c] 31)) := (Below.refl _ _).alloc (Nat.le_refl _) _
  have hb1 := hbA.alloc (by simp) (.cells #[.slice none 0 0] 28)
  have hb0 := hb1.alloc (by simp; omega) (.cells #[.int .i64 p, .slice A n c] 31)
  have HB0 := Lib.hid hb0
  have HI0 := Lib.hid (hI.below hb0)
  have X0 := Lib.hid (((Box.new w 31 #[.int .i64 p, .slice A n c]).alloc (.cells #[.slice none 0 0] 28)).alloc (.cells #[.int .i64 p, .slice A n c] 31))
  have R0 := Lib.hid ((newSecond w (.cells #[.int .i64 p, .slice A n c] 31) 28 #[.slice none 0 0]).alloc (.cells #[.int .i64 p, .slice A n c] 31))
  have Y0 : Hid (Box (((w.alloc (.cells #[.int .i64 p, .slice A n c] 31)).alloc (.cells #[.slice none 0 0] 28)).alloc (.cells #[.int .i64 p, .slice A n c] 31)) (w.heap.size + 1 + 1) 31 #[.int .i64 p, .slice A n c]) := Lib.hid (Box.newAt (by simp))
  clear hbA hb0 hb1
  by_cases hz : code1 p L = 0
  · obtain ⟨hs, rfl⟩ := code1_zero hz
    have hz' : (code1 3 L == 0) = true := by simpa using hz
    have HZ := Lib.hid hz
    by_cases h4 : n ≤ 4
    · have H := Lib.hid (hof_yes hL hs h4)
      have H2 : Hid (stkV 3 L = stacksL 3 L n ∧ codeS 3 L = 0) := stk_yes (p := 3) hs hL
      have h4i : (n : Int) ≤ 4 := by omega
      clear hL hs hz
      go_enter Try.func8, Try.ntmps8
      go_wp2_with fail
      refine (codeOfStates_one (w.heap.size + 1 + 1) A n c 3 L _ Y0.out HL.out hn HI0.out).mono ?_
      rintro e w1 ⟨rfl, hb⟩
      have HB1 := Lib.hid (HB0.out.trans (hb.mono HB0.out.size))
      have X1 := Lib.hid (X0.out.below hb X0.out.lt)
      have R1 := Lib.hid (R0.out.below hb R0.out.lt)
      rw [show code1 3 L = 0 from HZ.out]
      obtain ⟨x0, x1, _, _⟩ := X1.out.two
      have hI1 := Lib.hid (hI.below HB1.out)
      clear hb X0 R0 HB0 HI0 Y0 hz'
      go_wp2_with fail
      refine (implStacksOf_ret A n c 3 L _ HL.out hn hI1.out).mono ?_
      rintro e w2 ⟨A2, n2, c2, rs2, rfl, hO, hLL, hb⟩
      have HB2 := Lib.hid (HB1.out.trans (hb.mono HB1.out.size))
      have R2 := Lib.hid (R1.out.below hb R1.out.lt)
      have HO' := Lib.hid hO
      have HLL := Lib.hid hLL
      have hlt := R1.out.lt
      rw [show codeS 3 L = 0 from H2.out.2]
      obtain ⟨r0, rf⟩ := R2.out.one
      clear hb hO hLL x0 x1 X1 R1
      go_wp2
      have R3 : Box _ (w.heap.size + 1) 28 #[.slice A2 n2 c2] := R2.out.set 0 (.slice A2 n2 c2)
      obtain ⟨z0, _⟩ := R3.one
      refine bodyPost_ret (v := .tuple #[.agg #[.slice A2 n2 c2], .int .i64 0]) (by simp [results, Try.results8, go_sem, z0]) rfl ?_
      exact ⟨_, _, _, rs2, by rw [H.out.2], (HO'.out.setOld (a := ⟨w.heap.size + 1, 0, none⟩) hlt _).mono HB1.out.size, by rw [HLL.out, H.out.1, H2.out.1], HB2.out.setCell (Nat.le_succ _) _⟩
    · have H := Lib.hid (hof_far hs (fun h => h4 (by rw [← hL]; exact h.2)))
      have h4i : (4 : Int) < (n : Int) := by omega
      clear hL hs hz
      go_enter Try.func8, Try.ntmps8
      go_wp2_with fail
      refine (codeOfStates_one (w.heap.size + 1 + 1) A n c 3 L _ Y0.out HL.out hn HI0.out).mono ?_
      rintro e w1 ⟨rfl, hb⟩
      have HB1 := Lib.hid (HB0.out.trans (hb.mono HB0.out.size))
      have X1 := Lib.hid (X0.out.below hb X0.out.lt)
      have R1 := Lib.hid (R0.out.below hb R0.out.lt)
      rw [show code1 3 L = 0 from HZ.out]
      obtain ⟨x0, x1, _, _⟩ := X1.out.two
      obtain ⟨r0, rf⟩ := R1.out.one
      clear hb X0 R0 HB0 HI0 Y0 hz'
      go_wp2
      have R3 : Box _ (w.heap.size + 1) 28 #[.slice none 0 0] := R1.out.set 0 (.slice none 0 0)
      obtain ⟨z0, _⟩ := R3.one
      refine bodyPost_ret (v := .tuple #[.agg #[.slice none 0 0], .int .i64 2]) (by simp [results, Try.results8, go_sem, z0]) rfl ?_
      rw [H.out.1]
      exact retHeap_zero (by rw [H.out.2]) (HB1.out.setCell (Nat.le_succ _) _)
  · have hz' : (code1 p L == 0) = false := by simpa using hz
    have H : Hid (hofV p L = [] ∧ codeHf p L = code1 p L) := by
      unfold Hid
      by_cases hs : stateB p L = true
      · have hp : p ≠ 3 := fun h => hz (by unfold code1; rw [if_pos hs, if_pos h])
        have h1 := hof_far hs (fun h => hp h.1)
        exact ⟨h1.1, by rw [h1.2]; unfold code1; rw [if_pos hs, if_neg hp]⟩
      · have h1 := hof_no (p := p) (L := L) (by simpa using hs)
        exact ⟨h1.1, by rw [h1.2]; unfold code1; rw [if_neg hs]⟩
    have HZ := Lib.hid hz
    clear hL hz
    go_enter Try.func8, Try.ntmps8
    go_wp2_with fail
    refine (codeOfStates_one (w.heap.size + 1 + 1) A n c p L _ Y0.out HL.out hn HI0.out).mono ?_
    rintro e w1 ⟨rfl, hb⟩
    have HB1 := Lib.hid (HB0.out.trans (hb.mono HB0.out.size))
    have R1 := Lib.hid (R0.out.below hb R0.out.lt)
    obtain ⟨r0, rf⟩ := R1.out.one
    clear hb X0 R0 HB0 HI0 Y0
    go_wp2
    have R3 : Box _ (w.heap.size + 1) 28 #[.slice none 0 0] := R1.out.set 0 (.slice none 0 0)
    obtain ⟨z0, _⟩ := R3.one
    refine bodyPost_ret (v := .tuple #[.agg #[.slice none 0 0], .int .i64 (code1 p L)]) (by simp [results, Try.results8, go_sem, z0]) rfl ?_
    rw [H.out.1]
    exact retHeap_zero (by rw [H.out.2]) (HB1.out.setCell (Nat.le_succ _) _)

end Go.Proofs.Ytdifolaobgclgaa
