/- Contracts: the new desk, of both sides. -/
import Derived.Test.YtepjdoonopbijaaDk
import Derived.Test.YtepjdoonopbijaaPerfect
import Derived.Deep.RegionHeld3
namespace Go.Proofs.Ytepjdoonopbijaa
open Go.RowKit
set_option linter.unusedVariables false

/-- A desk is the answer. -/
def RetDk (w : World) (P : Int) (L : List Int) (G : Int) (LL : List (List Int)) (e : Ending) (w' : World) : Prop :=
  ∃ A n c H m d rs, e = .returned (.agg #[.int .i64 P, .slice A n c, .int .i64 G, .slice H m d]) ∧ OwnDk w.heap.size w' A n c L H m d rs ∧ LLof rs = LL ∧ Below w.heap.size w w'
theorem Box.at' {w : World} {g t : Nat} {cs : Array Value} (hg : w.heap.size = g) : Box (w.alloc (.cells cs t)) g t cs := by subst hg; exact Box.new w t cs
/-- The lists 0 1 2 and two empty ones, in boxes, and the list of them. -/
theorem ownSS_new {B : Nat} {w : World} {a b c g : Nat} (ha : Box w a 2 #[.int .i64 0, .int .i64 1, .int .i64 2]) (hb : Box w b 2 #[]) (hc : Box w c 2 #[]) (hg : Box w g 22 #[.slice (some ⟨a, 0, none⟩) 3 3, .slice (some ⟨b, 0, none⟩) 0 0, .slice (some ⟨c, 0, none⟩) 0 0])
    (hBa : B ≤ a) (hab : a < b) (hbc : b < c) (hBg : B ≤ g) : OwnSS B w (some ⟨g, 0, none⟩) 3 3 [⟨some ⟨a, 0, none⟩, 3, 3, 3, [0, 1, 2]⟩, ⟨some ⟨b, 0, none⟩, 0, 0, 0, []⟩, ⟨some ⟨c, 0, none⟩, 0, 0, 0, []⟩] := by
  refine ⟨⟨rfl, .inr ⟨g, 3, _, rfl, hBg, hg, Nat.le_refl _, by unfold maxLen; omega, rfl, rfl⟩⟩, ?_, ?_⟩
  · intro r hr
    simp only [List.mem_cons, List.not_mem_nil, or_false] at hr
    rcases hr with rfl | rfl | rfl
    · exact ⟨rfl, .inr ⟨a, 3, _, rfl, hBa, ha, Nat.le_refl _, by unfold maxLen; omega, rfl, rfl⟩⟩
    · exact OwnG.emptyAt hb (by omega)
    · exact OwnG.emptyAt hc (by omega)
  · unfold Distinct
    rw [List.pairwise_cons, List.pairwise_cons]
    refine ⟨?_, ?_, List.pairwise_singleton _ _⟩
    · intro s hs g hA hB
      injection hA with hA
      injection hA with hA
      simp only [List.mem_cons, List.not_mem_nil, or_false] at hs
      rcases hs with rfl | rfl
      · injection hB with hB
        injection hB with hB
        omega
      · injection hB with hB
        injection hB with hB
        omega
    · intro s hs g hA hB
      injection hA with hA
      injection hA with hA
      rw [List.mem_singleton] at hs
      subst hs
      injection hB with hB
      injection hB with hB
      omega
/-- The lists of the new desk's heap as they are laid. -/
def layNew (w : World) : World := (((w.alloc (.cells #[.int .i64 0, .int .i64 1, .int .i64 2] 2)).alloc (.cells #[] 2)).alloc (.cells #[] 2)).alloc (.cells #[.slice (some ⟨w.heap.size, 0, none⟩) 3 3, .slice (some ⟨w.heap.size + 1, 0, none⟩) 0 0, .slice (some ⟨w.heap.size + 1 + 1, 0, none⟩) 0 0] 22)
def newRs (g : Nat) : List Rw := [⟨some ⟨g, 0, none⟩, 3, 3, 3, [0, 1, 2]⟩, ⟨some ⟨g + 1, 0, none⟩, 0, 0, 0, []⟩, ⟨some ⟨g + 1 + 1, 0, none⟩, 0, 0, 0, []⟩]
theorem layNew_own (w : World) : OwnSS w.heap.size (layNew w) (some ⟨w.heap.size + 1 + 1 + 1, 0, none⟩) 3 3 (newRs w.heap.size) ∧ Below w.heap.size w (layNew w) := by
  unfold layNew newRs
  refine ⟨ownSS_new ?_ ?_ ?_ ?_ (Nat.le_refl _) (by omega) (by omega) (by omega), ?_⟩
  · exact (((Box.at' rfl).alloc _).alloc _).alloc _
  · exact ((Box.at' (by simp)).alloc _).alloc _
  · exact (Box.at' (by simp)).alloc _
  · exact Box.at' (by simp)
  · exact ((((Below.refl _ _).alloc (Nat.le_refl _) _).alloc (by simp) _).alloc (by simp; omega) _).alloc (by simp; omega) _
theorem layNew_size (w : World) : (layNew w).heap.size = w.heap.size + 4 := by unfold layNew; simp

set_option maxHeartbeats 1000000 in
theorem l11New_calls (w : World) : Calls Try.prog 9 #[] w (RetDk w 3 [0, 0, 0] 2 [[0, 1, 2], [], []]) := by
  have X0 := Lib.hid (Box.new w 29 #[.int .i64 0, .slice none 0 0, .int .i64 0, .slice none 0 0])
  have hb0 : Below w.heap.size w (w.alloc (.cells #[.int .i64 0, .slice none 0 0, .int .i64 0, .slice none 0 0] 29)) := (Below.refl _ _).alloc (Nat.le_refl _) _
  have HB0 := Lib.hid hb0
  clear hb0
  go_enter Try.func9, Try.ntmps9
  go_wp2_with fail
  refine (l01Perfect_calls 3 0 3 _ (by omega)).mono ?_
  rintro e w1 ⟨A, c, rfl, hO, hb⟩
  have HO := Lib.hid hO
  have HB1 := Lib.hid (HB0.out.trans (hb.mono HB0.out.size))
  have X1 := Lib.hid (X0.out.below hb X0.out.lt)
  clear hO hb X0
  have hsx := X1.out.lt
  have hl := layNew_own w1
  have HS2 := Lib.hid hl.1
  have X2 := Lib.hid (X1.out.below hl.2 X1.out.lt)
  have HO2 := Lib.hid (HO.out.below hl.2)
  have HB2 := Lib.hid (HB1.out.trans (hl.2.mono HB1.out.size))
  obtain ⟨x0, x1, x2, x3⟩ := X2.out.four
  have f0 := X2.out.frozen 0
  have f1 := X2.out.frozen 1
  have f2 := X2.out.frozen 2
  have f3 := X2.out.frozen 3
  unfold layNew at x0 x1 x2 x3 f0 f1 f2 f3
  clear hl
  go_wp2
  have X3 := (((X2.out.set 0 (.int .i64 3)).set 1 (.slice A 3 c)).set 2 (.int .i64 2)).set 3 (.slice (some ⟨w1.heap.size + 1 + 1 + 1, 0, none⟩) 3 3)
  have X4 : Box _ w.heap.size 29 #[.int .i64 3, .slice A 3 c, .int .i64 2, .slice (some ⟨w1.heap.size + 1 + 1 + 1, 0, none⟩) 3 3] := X3
  unfold layNew at X4
  obtain ⟨z0, z1, z2, z3⟩ := X4.four
  refine bodyPost_ret (v := .agg #[.int .i64 3, .slice A 3 c, .int .i64 2, .slice (some ⟨w1.heap.size + 1 + 1 + 1, 0, none⟩) 3 3]) (by simp [results, Try.results9, go_sem, z0, z1, z2, z3]) rfl ?_
  have HD : OwnDk (w.heap.size + 1) (layNew w1) A 3 c [0, 0, 0] (some ⟨w1.heap.size + 1 + 1 + 1, 0, none⟩) 3 3 (newRs w1.heap.size) :=
    ⟨by have := HO2.out; exact this.mono (by simp), HS2.out.mono (by omega), apartSS_fwd HO.out HS2.out (Nat.le_refl _)⟩
  refine ⟨A, 3, c, _, 3, 3, newRs w1.heap.size, rfl, ((((HD.setOld (a := ⟨w.heap.size, 0, none⟩) (by simp) _).setOld (a := ⟨w.heap.size, 1, none⟩) (by simp) _).setOld (a := ⟨w.heap.size, 2, none⟩) (by simp) _).setOld (a := ⟨w.heap.size, 3, none⟩) (by simp) _).mono (by omega), rfl, ?_⟩
  exact (((HB2.out.setCell (Nat.le_refl _) _).setCell (Nat.le_refl _) _).setCell (Nat.le_refl _) _).setCell (Nat.le_refl _) _

set_option maxHeartbeats 1000000 in
theorem specNewDesk_ret (w : World) : Calls Try.prog 4 #[] w (RetDk w 3 [0, 0, 0] 2 [[0, 1, 2], [], []]) := by
  have X0 := Lib.hid (Box.new w 29 #[.int .i64 0, .slice none 0 0, .int .i64 0, .slice none 0 0])
  have hb0 : Below w.heap.size w (w.alloc (.cells #[.int .i64 0, .slice none 0 0, .int .i64 0, .slice none 0 0] 29)) := (Below.refl _ _).alloc (Nat.le_refl _) _
  have HB0 := Lib.hid hb0
  clear hb0
  go_enter Try.func4, Try.ntmps4
  go_wp2_with fail
  refine (l11New_calls _).mono ?_
  rintro e w1 ⟨A, n, c, H, m, d, rs, rfl, hO, hLL, hb⟩
  have HO := Lib.hid hO
  have HLL := Lib.hid hLL
  have HB1 := Lib.hid (HB0.out.trans (hb.mono HB0.out.size))
  have X1 := Lib.hid (X0.out.below hb X0.out.lt)
  clear hO hb X0 hLL
  obtain ⟨x0, x1, x2, x3⟩ := X1.out.four
  have f0 := X1.out.frozen 0
  have f1 := X1.out.frozen 1
  have f2 := X1.out.frozen 2
  have f3 := X1.out.frozen 3
  go_wp2
  have X4 : Box _ w.heap.size 29 #[.int .i64 3, .slice A n c, .int .i64 2, .slice H m d] := (((X1.out.set 0 (.int .i64 3)).set 1 (.slice A n c)).set 2 (.int .i64 2)).set 3 (.slice H m d)
  obtain ⟨z0, z1, z2, z3⟩ := X4.four
  refine bodyPost_ret (v := .agg #[.int .i64 3, .slice A n c, .int .i64 2, .slice H m d]) (by simp [results, Try.results4, go_sem, z0, z1, z2, z3]) rfl ?_
  have HD : OwnDk (w.heap.size + 1) w1 A n c [0, 0, 0] H m d rs := HO.out.mono (by simp)
  refine ⟨A, n, c, H, m, d, rs, rfl, ((((HD.setOld (a := ⟨w.heap.size, 0, none⟩) (by simp) _).setOld (a := ⟨w.heap.size, 1, none⟩) (by simp) _).setOld (a := ⟨w.heap.size, 2, none⟩) (by simp) _).setOld (a := ⟨w.heap.size, 3, none⟩) (by simp) _).mono (by omega), HLL.out, ?_⟩
  exact (((HB1.out.setCell (Nat.le_refl _) _).setCell (Nat.le_refl _) _).setCell (Nat.le_refl _) _).setCell (Nat.le_refl _) _

set_option maxRecDepth 100000 in
set_option maxHeartbeats 2000000 in
theorem implNewDesk_ret (w : World) : Calls Try.prog 5 #[] w (RetDk w 3 [0, 0, 0] 2 [[0, 1, 2], [], []]) := by
  have X0 := Lib.hid (Box.new w 29 #[.int .i64 0, .slice none 0 0, .int .i64 0, .slice none 0 0])
  have hb0 : Below w.heap.size w (w.alloc (.cells #[.int .i64 0, .slice none 0 0, .int .i64 0, .slice none 0 0] 29)) := (Below.refl _ _).alloc (Nat.le_refl _) _
  have hl := layNew_own (w.alloc (.cells #[.int .i64 0, .slice none 0 0, .int .i64 0, .slice none 0 0] 29))
  have hB1 := hb0.trans (hl.2.mono (by simp))
  have hX1 := X0.out.below hl.2 X0.out.lt
  have hS1 := hl.1
  have hz1 := layNew_size (w.alloc (.cells #[.int .i64 0, .slice none 0 0, .int .i64 0, .slice none 0 0] 29))
  generalize hW1 : layNew (w.alloc (.cells #[.int .i64 0, .slice none 0 0, .int .i64 0, .slice none 0 0] 29)) = W1 at *
  simp only [layNew, World.size_alloc] at hW1 hS1 hz1
  have HW1 := Lib.hid hW1
  have HZ1 := Lib.hid hz1
  have hlt1 : w.heap.size < W1.heap.size := by omega
  have hbh : Below W1.heap.size W1 (W1.alloc (.cells #[.slice (some ⟨w.heap.size + 1 + 1 + 1 + 1, 0, none⟩) 3 3] 27)) := (Below.refl _ _).alloc (Nat.le_refl _) _
  have Y2 := Lib.hid (Box.new W1 27 #[.slice (some ⟨w.heap.size + 1 + 1 + 1 + 1, 0, none⟩) 3 3])
  have X2 := Lib.hid (hX1.below hbh hlt1)
  have HS2 := Lib.hid (hS1.below hbh)
  have HB2 := Lib.hid (hB1.trans (hbh.mono (by omega)))
  clear hl hb0 X0 hW1 hz1 hB1 hX1 hS1 hbh
  go_enter Try.func5, Try.ntmps5
  go_wp2_with fail
  rw [HW1.out, show w.heap.size + 1 + 1 + 1 + 1 + 1 = W1.heap.size by have := HZ1.out; omega]
  generalize hW2 : W1.alloc (.cells #[.slice (some ⟨w.heap.size + 1 + 1 + 1 + 1, 0, none⟩) 3 3] 27) = W2 at *
  generalize hbb : W1.heap.size = bb at *
  have hs2 : w.heap.size + 6 ≤ W2.heap.size := by rw [← hW2]; simp; have := HZ1.out; omega
  have hne : bb ≠ w.heap.size := by have := HZ1.out; omega
  clear hW2 HW1
  obtain ⟨y0, yf⟩ := Y2.out.one
  go_region_held3 (fun w' => w'.cell? ⟨bb, 0, none⟩ = some (.slice (some ⟨w.heap.size + 1 + 1 + 1 + 1, 0, none⟩) 3 3))
    (first | exact Y2.out.one.1 | exact Y3.out.one.1 | exact ((((Y3.out.other (a := ⟨w.heap.size, 0, none⟩) hne _).other (a := ⟨w.heap.size, 1, none⟩) hne _).other (a := ⟨w.heap.size, 2, none⟩) hne _).other (a := ⟨w.heap.size, 3, none⟩) hne _).one.1 | go_keep)
    ((go_at_call 10; refine (perfectState_calls 3 0 3 _ (by omega)).mono ?_; rintro e w3 ⟨A, c, rfl, hO, hb⟩; have Y3 := Lib.hid (Box.below Y2.out (undrew hb) (Box.lt Y2.out)); have X3 := Lib.hid (Box.below X2.out (undrew hb) (Box.lt X2.out)); obtain ⟨x0, x1, x2, x3⟩ := X3.out.four; have f0 := X3.out.frozen 0; have f1 := X3.out.frozen 1; have f2 := X3.out.frozen 2; have f3 := X3.out.frozen 3))
  have hb' := undrew hb
  have HS3 := Lib.hid (HS2.out.below hb')
  have HB3 := Lib.hid (HB2.out.trans (hb'.mono HB2.out.size))
  have HO := Lib.hid hO
  have hOB : Hid (Own (w.heap.size + 1) w3 A 3 c [0, 0, 0]) := hO.mono (by show w.heap.size + 1 ≤ W2.heap.size; omega)
  have HA := Lib.hid (apartSS_back hO HS2.out (Nat.le_refl _))
  clear hb hb' hO Y2 Y3 y0 yf
  go_wp2
  have X4 : Box _ w.heap.size 29 #[.int .i64 3, .slice A 3 c, .int .i64 2, .slice (some ⟨w.heap.size + 1 + 1 + 1 + 1, 0, none⟩) 3 3] := (((X3.out.set 0 (.int .i64 3)).set 1 (.slice A 3 c)).set 2 (.int .i64 2)).set 3 (.slice (some ⟨w.heap.size + 1 + 1 + 1 + 1, 0, none⟩) 3 3)
  obtain ⟨z0, z1, z2, z3⟩ := X4.four
  refine bodyPost_ret (v := .agg #[.int .i64 3, .slice A 3 c, .int .i64 2, .slice (some ⟨w.heap.size + 1 + 1 + 1 + 1, 0, none⟩) 3 3]) (by simp [results, Try.results5, go_sem, z0, z1, z2, z3]) rfl ?_
  have HD : OwnDk (w.heap.size + 1) w3 A 3 c [0, 0, 0] (some ⟨w.heap.size + 1 + 1 + 1 + 1, 0, none⟩) 3 3 (newRs (w.heap.size + 1)) := ⟨hOB.out, HS3.out, HA.out⟩
  refine ⟨A, 3, c, _, 3, 3, _, rfl, ((((HD.setOld (a := ⟨w.heap.size, 0, none⟩) (by simp) _).setOld (a := ⟨w.heap.size, 1, none⟩) (by simp) _).setOld (a := ⟨w.heap.size, 2, none⟩) (by simp) _).setOld (a := ⟨w.heap.size, 3, none⟩) (by simp) _).mono (by omega), rfl, ?_⟩
  exact (((HB3.out.setCell (Nat.le_refl _) _).setCell (Nat.le_refl _) _).setCell (Nat.le_refl _) _).setCell (Nat.le_refl _) _

end Go.Proofs.Ytepjdoonopbijaa
