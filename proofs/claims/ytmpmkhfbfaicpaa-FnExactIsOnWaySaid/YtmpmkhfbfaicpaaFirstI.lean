/- Contracts: FirstMove, by the program. -/
import Derived.Test.YtmpmkhfbfaicpaaFirst
import Derived.Test.YtmpmkhfbfaicpaaPrivS
namespace Go.Proofs.Ytmpmkhfbfaicpaa
open Go.RowKit Go.Shelf
set_option linter.unusedVariables false
attribute [local go_sem] Oper.semAt_some

/-- What holds ahead of the round, and behind its return. -/
def FmI (b4 b5 B : Nat) (w0 : World) (R : Nat) (pre : List Mv) (W : World) : Prop :=
  (pre = [] ∧ b5 < R) ∧ Box W b4 27 #[.int .i64 0, .int .i64 0, .int .i64 0] ∧ Box W b5 2 #[.int .i64 0] ∧ Below B w0 W
def FmX (q : Prop) (b4 b5 B : Nat) (w0 : World) (m : Mv) (W : World) : Prop :=
  q ∧ Box W b4 27 #[.int .i64 m.1, .int .i64 m.2.1, .int .i64 m.2.2] ∧ Box W b5 2 #[.int .i64 0] ∧ Below B w0 W

theorem heap_set4 (D b4 b5 : Nat) (h4 : D ≠ b4) (h5 : D ≠ b5) (W : World) (x y z u : Value) {o : Obj} (h : W.heap[D]? = some o) :
    ((((W.setCell ⟨b4, 0, none⟩ x).setCell ⟨b4, 1, none⟩ y).setCell ⟨b4, 2, none⟩ z).setCell ⟨b5, 0, none⟩ u).heap[D]? = some o := by
  rw [heap_setCell_other _ _ _ _ h5, heap_setCell_other _ _ _ _ h4, heap_setCell_other _ _ _ _ h4, heap_setCell_other _ _ _ _ h4]
  exact h

set_option maxRecDepth 100000 in
set_option maxHeartbeats 4000000 in
theorem implFirstMove_ret (ad : Addr) (n c : Nat) (p : Int) (L : List Int) (a : Int) (w : World) (hL : L.length = n) (hn : n ≤ 1048576) (hI : Ints w (some ad) L) :
    Calls Try.prog 9 #[.agg #[.int .i64 p, .slice (some ad) n c], .int .i64 a] w (RetFm w (fmM p L a) (fmE p L a)) := by
  have HL := Lib.hid hL
  obtain ⟨W0, hW0⟩ : ∃ W0, W0 = (((w.alloc (.cells #[.int .i64 p, .slice (some ad) n c] 30)).alloc (.cells #[.int .i64 0, .int .i64 0, .int .i64 0] 27)).alloc (.cells #[.int .i64 0] 2)).alloc (.cells #[.int .i64 p, .slice (some ad) n c] 30) := ⟨_, rfl⟩
  have hb0 : Below w.heap.size w W0 := by rw [hW0]; exact ((((Below.refl _ w).alloc (Nat.le_refl _) _).alloc (by simp) _).alloc (by simp; omega) _).alloc (by simp; omega) _
  have x0 : Box W0 w.heap.size 30 #[.int .i64 p, .slice (some ad) n c] := by rw [hW0]; exact (((Box.new w _ _).alloc _).alloc _).alloc _
  have x1 : Box W0 (w.heap.size + 1) 27 #[.int .i64 0, .int .i64 0, .int .i64 0] := by
    have h := Box.new (w.alloc (.cells #[.int .i64 p, .slice (some ad) n c] 30)) 27 #[.int .i64 0, .int .i64 0, .int .i64 0]
    rw [World.size_alloc] at h
    rw [hW0]; exact (h.alloc _).alloc _
  have x2 : Box W0 (w.heap.size + 1 + 1) 2 #[.int .i64 0] := by
    have h := Box.new ((w.alloc (.cells #[.int .i64 p, .slice (some ad) n c] 30)).alloc (.cells #[.int .i64 0, .int .i64 0, .int .i64 0] 27)) 2 #[.int .i64 0]
    rw [World.size_alloc, World.size_alloc] at h
    rw [hW0]; exact h.alloc _
  have x3 : Box W0 (w.heap.size + 1 + 1 + 1) 30 #[.int .i64 p, .slice (some ad) n c] := by
    have h := Box.new (((w.alloc (.cells #[.int .i64 p, .slice (some ad) n c] 30)).alloc (.cells #[.int .i64 0, .int .i64 0, .int .i64 0] 27)).alloc (.cells #[.int .i64 0] 2)) 30 #[.int .i64 p, .slice (some ad) n c]
    rw [World.size_alloc, World.size_alloc, World.size_alloc] at h
    rw [hW0]; exact h
  have hs0 : W0.heap.size = w.heap.size + 4 := by rw [hW0]; simp
  have X0 := Lib.hid x0
  have X1 := Lib.hid x1
  have X2 := Lib.hid x2
  have X3 := Lib.hid x3
  have HB0 := Lib.hid hb0
  have HI0 := Lib.hid (hI.below hb0)
  have HW0 := Lib.hid hW0
  clear hL hI x0 x1 x2 x3 hb0 hW0
  by_cases hz : codeW p L a = 0
  · obtain ⟨hs, hp, ha⟩ := codeW_zero hz
    subst hp
    have hz' : (codeW 3 L a != 0) = false := by simpa using hz
    have h8 := (state_facts hs HL.out).2.2.1
    have HP := Lib.hid (state_pegsOk hs)
    have HZ := Lib.hid hz
    have HWB := Lib.hid (show (wayL L a).length ≤ 255 from wayL_bd (by rw [HL.out]; exact h8))
    clear hz hs
    refine (callsIn_wide (n := 7)).1 ?_
    refine callsIn_of_wp_marks Try.func9 rfl trivial ?_ rfl
    simp only [Try.ntmps9, List.size_toArray, List.length_cons, List.length_nil, Nat.reduceAdd, Nat.reduceSub, Array.replicate_succ, Array.replicate_zero, List.push_toArray, List.append_toArray, List.nil_append, List.cons_append]
    gi_wp2_with fail
    rw [← HW0.out]
    refine ⟨trivial, ?_⟩
    refine (callsIn_wide.2 (codeOfPeg_one (w.heap.size + 1 + 1 + 1) (some ad) n c 3 L a W0 X3.out HL.out hn HI0.out)).mono ?_
    rintro e w1 ⟨rfl, hb1⟩
    have X11 := Lib.hid (X1.out.below hb1 X1.out.lt)
    have X21 := Lib.hid (X2.out.below hb1 X2.out.lt)
    have x01 := X0.out.below hb1 X0.out.lt
    have HB1 := Lib.hid (HB0.out.trans (hb1.mono HB0.out.size))
    have HI1 := Lib.hid (HI0.out.below hb1)
    have hs1 := hb1.size
    obtain ⟨c0, c1, _, _⟩ := x01.two
    clear hb1 x01
    gi_wp2_with fail
    refine ⟨trivial, ?_⟩
    refine (callsIn_wide.2 (movesToPeg_calls (some ad) n c a _)).mono ?_
    rintro e w2 ⟨rfl, hw2⟩
    have bP := (Box.new w1 22 #[.slice (some ad) n c]).alloc (.cells #[.int .i64 a] 2)
    have bA := Box.new (w1.alloc (.cells #[.slice (some ad) n c] 22)) 2 #[.int .i64 a]
    simp only [World.size_alloc] at bA
    have hb2 : Below w1.heap.size w1 ((w1.alloc (.cells #[.slice (some ad) n c] 22)).alloc (.cells #[.int .i64 a] 2)) := ((Below.refl _ _).alloc (Nat.le_refl _) _).alloc (by simp) _
    have hsz : ((w1.alloc (.cells #[.slice (some ad) n c] 22)).alloc (.cells #[.int .i64 a] 2)).heap.size = w1.heap.size + 2 := by simp
    rw [← hw2] at bP bA hb2 hsz
    have HI2 := Lib.hid (HI1.out.below hb2)
    have HB2 := Lib.hid (HB1.out.trans (hb2.mono HB1.out.size))
    have X12 := Lib.hid (X11.out.below hb2 X11.out.lt)
    have X22 := Lib.hid (X21.out.below hb2 X21.out.lt)
    have HSQ := Lib.hid (movesToPeg_privS 6 w1.heap.size (w1.heap.size + 1) (by omega) ad n c L a HL.out h8 HP.out ha _ bP bA HI2.out)
    have hsb := HB2.out.size
    clear hb2 c0 c1 bP bA hw2
    gi_wp2_with fail
    refine rangeFunc_privS (by omega) (gf := 42) (lb := #[.pointer (some ⟨w1.heap.size, 0, none⟩), .pointer (some ⟨w1.heap.size + 1, 0, none⟩)]) rfl (enters_of Try.func42 (by kernel_rfl) rfl) HSQ.out (fun _ => rfl) (fun b hb => by rcases hb with rfl | rfl <;> (rw [hsz]; omega))
      (FmI (w.heap.size + 1) (w.heap.size + 1 + 1) w.heap.size w) (FmX (fdW L a < L.length) (w.heap.size + 1) (w.heap.size + 1 + 1) w.heap.size w (mvW L a))
      (by
        show OwnFrom _ (fun (_ : Unit) W => fdW L a < L.length ∧ Box W _ _ _ ∧ Box W _ _ _ ∧ Below _ _ W)
        exact OwnFrom.and (ownFrom_pure _ (fun _ => fdW L a < L.length)) <| OwnFrom.and (Own.from (box_own _ _ _) _) (OwnFrom.and (Own.from (box_own _ _ _) _) (ownFrom_below (Nat.le_refl _) hsb)))
      (fun R => by
        show OwnFrom _ (fun (pre : List Mv) W => (pre = [] ∧ _ < R) ∧ Box W _ _ _ ∧ Box W _ _ _ ∧ Below _ _ W)
        exact OwnFrom.and (ownFrom_pure _ (fun pre : List Mv => pre = [] ∧ _ < R)) (OwnFrom.and (Own.from (box_own _ _ _) _) (OwnFrom.and (Own.from (box_own _ _ _) _) (ownFrom_below (Nat.le_refl _) hsb))))
      ?grow
      (fun R hR => ⟨⟨rfl, by omega⟩, X12.out, X22.out, HB2.out⟩)
      (fun R pre x a' W => ∃ Bx, w.heap.size + 1 + 1 < Bx ∧ Box W Bx 27 #[.int .i64 x.1, .int .i64 x.2.1, .int .i64 x.2.2] ∧ a' = { tmps := #[.agg #[.int .i64 3, .slice (some ad) n c], .int .i64 a, .pointer (some ⟨w.heap.size, 0, none⟩), undef, .pointer (some ⟨w.heap.size + 1, 0, none⟩), .pointer (some ⟨w.heap.size + 1 + 1, 0, none⟩), .int .i64 (codeW 3 L a), .pointer (some ⟨Bx, 0, none⟩), .int .i64 a, .agg #[.int .i64 3, .slice (some ad) n c], .slice (some ⟨w.heap.size + 1 + 1 + 1, 0, none⟩) 1 1, .int .i64 (codeW 3 L a), .int .i64 (codeW 3 L a), .bool false, undef, undef, .pointer (some ⟨w.heap.size, 1, none⟩), .slice (some ad) n c, .int .i64 a, .func (.func 42) #[] #[.pointer (some ⟨w1.heap.size, 0, none⟩), .pointer (some ⟨w1.heap.size + 1, 0, none⟩)], mvV x, undef, undef], defers := [] })
      (fun R pre x a' _ X Y row hs hg hr => by obtain ⟨Bx, h1, h2, h3⟩ := hs; exact ⟨Bx, h1, box_own Bx 27 _ () X Y row h2 hg (fun r e => (hr r e).2), h3⟩)
      ?assign ?body ?done ?stop
    case grow =>
      rintro R pre A B ⟨⟨rfl, hR⟩, h4, h5, hB⟩ hg
      have hR' : w.heap.size ≤ R := by omega
      exact ⟨⟨rfl, hR⟩, h4.grown hg (by simp; omega), h5.grown hg (by simp; omega), hB.grown hg hB.size (fun k hk => by injection hk with hk; omega)⟩
    case assign =>
      rintro l R pre x W K hR ⟨cs, hcs⟩ hpx ⟨⟨rfl, hR5⟩, h4, h5, hB⟩ hK
      have hRl : R < W.heap.size := (Array.getElem?_eq_some_iff.1 hcs).1
      have hlt := h5.lt
      have hle := hB.size
      obtain ⟨x1, x2, x3⟩ := x
      dsimp only [mvEnc, mvV] at hK ⊢
      gi_wp2
      exact hK _ _ ((KeepsOthers.alloc _ _).from _) (keepB_below ((Below.refl W.heap.size W).alloc (Nat.le_refl _) _) (fun b hb => by
        rcases hb with (rfl | rfl) | rfl
        · omega
        · omega
        · exact hRl)) ⟨⟨rfl, hR5⟩, h4.alloc _, h5.alloc _, hB.alloc hle _⟩ ⟨W.heap.size, hlt, Box.new W 27 _, rfl⟩
    case body =>
      rintro l R pre x a' W hR ⟨cs, hcs⟩ hpx ⟨⟨rfl, hR5⟩, h4, h5, hB⟩ ⟨Bx, hBx, bX, rfl⟩
      have hx : x = mvW L a ∧ fdW L a < L.length := by
        by_cases hf : fdW L a < L.length
        · rw [wayL_more HP.out ha hf] at hpx
          obtain ⟨t, ht⟩ := hpx
          simp at ht
          exact ⟨ht.1, hf⟩
        · rw [wayL_end (by have := fdW_le L a; omega)] at hpx
          obtain ⟨t, ht⟩ := hpx
          simp at ht
      obtain ⟨rfl, HF⟩ := hx
      obtain ⟨m, hm⟩ : ∃ m, m = mvW L a := ⟨_, rfl⟩
      rw [← hm] at bX ⊢
      have HM := Lib.hid hm
      clear hm hpx
      obtain ⟨k0, k1, k2⟩ := bX.three
      obtain ⟨m0, m1, m2⟩ := h4.three
      have f0 := h4.frozen 0
      have f1 := h4.frozen 1
      have f2 := h4.frozen 2
      obtain ⟨n0, nf⟩ := h5.one
      have H4 := Lib.hid h4
      have H5 := Lib.hid h5
      have HB := Lib.hid hB
      clear h4 h5 hB bX
      obtain ⟨y1, y2, y3⟩ := m
      dsimp only [mvV] at k0 k1 k2 ⊢
      gi_wp2
      refine ⟨((((KeepsOthers.setCell _ _ _).trans (KeepsOthers.setCell _ _ _)).trans (KeepsOthers.setCell _ _ _)).trans (KeepsOthers.setCell _ _ _)).from _, HF, ?_, ?_, ?_⟩
      · exact H4.out.set3.other (by simp) _
      · exact ((((H5.out.other (by simp) _).other (by simp) _).other (by simp) _).set 0 _)
      · exact (((HB.out.setCell (by simp) _).setCell (by simp) _).setCell (by simp) _).setCell (by simp; omega) _
    case done =>
      rintro D R W hD hR ⟨⟨hnil, _⟩, h4, h5, hB⟩ hK
      have hf : ¬ fdW L a < L.length := fun hf => by rw [wayL_more HP.out ha hf] at hnil; cases hnil
      have e1 := Lib.hid (show fmM 3 L a = (0, 0, 0) by unfold fmM; rw [if_neg (fun h => hf h.2)])
      have e2 := Lib.hid (show fmE 3 L a = 5 by unfold fmE; rw [if_pos HZ.out, if_neg hf])
      clear hnil hf
      obtain ⟨m0, m1, m2⟩ := h4.three
      have f0 := h4.frozen 0
      have f1 := h4.frozen 1
      have f2 := h4.frozen 2
      obtain ⟨n0, nf⟩ := h5.one
      have hDl : w.heap.size + 1 + 1 < D := by omega
      have H4 := Lib.hid (h4.set3 (a := .int .i64 0) (c := .int .i64 0) (d := .int .i64 0) |>.other (a := ⟨w.heap.size + 1 + 1, 0, none⟩) (by simp) (.int .i64 5))
      have H5 := Lib.hid (((((h5.other (a := ⟨w.heap.size + 1, 0, none⟩) (by simp) (.int .i64 0)).other (a := ⟨w.heap.size + 1, 1, none⟩) (by simp) (.int .i64 0)).other (a := ⟨w.heap.size + 1, 2, none⟩) (by simp) (.int .i64 0)).set 0 (.int .i64 5)))
      have HB := Lib.hid ((((hB.setCell (show w.heap.size ≤ (⟨w.heap.size + 1, 0, none⟩ : Addr).block by simp) (.int .i64 0)).setCell (show w.heap.size ≤ (⟨w.heap.size + 1, 1, none⟩ : Addr).block by simp) (.int .i64 0)).setCell (show w.heap.size ≤ (⟨w.heap.size + 1, 2, none⟩ : Addr).block by simp) (.int .i64 0)).setCell (show w.heap.size ≤ (⟨w.heap.size + 1 + 1, 0, none⟩ : Addr).block by simp; omega) (.int .i64 5))
      have HK := Lib.hid hK
      clear h4 h5 hB hK
      gi_wp2
      have hK' := heap_set4 D (w.heap.size + 1) (w.heap.size + 1 + 1) (by omega) (by omega) W (.int .i64 0) (.int .i64 0) (.int .i64 0) (.int .i64 5) HK.out
      generalize (((W.setCell ⟨w.heap.size + 1, 0, none⟩ (.int .i64 0)).setCell ⟨w.heap.size + 1, 1, none⟩ (.int .i64 0)).setCell ⟨w.heap.size + 1, 2, none⟩ (.int .i64 0)).setCell ⟨w.heap.size + 1 + 1, 0, none⟩ (.int .i64 5) = V at *
      refine ⟨by simp, .inl ⟨_, _, rfl, run_takeDeferred hK', ?_⟩⟩
      obtain ⟨r0, r1, r2⟩ := Box.three (show Box (V.putObj D (.deferred none)) (w.heap.size + 1) 27 #[.int .i64 0, .int .i64 0, .int .i64 0] from (World.putObj_heap_other (by omega)).trans H4.out)
      obtain ⟨s0, _⟩ := Box.one (show Box (V.putObj D (.deferred none)) (w.heap.size + 1 + 1) 2 #[.int .i64 5] from (World.putObj_heap_other (by omega)).trans H5.out)
      refine ⟨.tuple #[.agg #[.int .i64 0, .int .i64 0, .int .i64 0], .int .i64 5], (by simp [results, Try.results9, go_sem, r0, r1, r2, s0]), ?_⟩
      rw [e1.out, e2.out]
      exact ⟨rfl, HB.out.trans (belowK_b (w := w) (Nat.le_refl _) V D _ _ (by omega) hK' rfl rfl)⟩
    case stop =>
      rintro D W hD ⟨hf, h4, h5, hB⟩ hK
      have e1 := Lib.hid (show fmM 3 L a = mvW L a by unfold fmM; rw [if_pos ⟨HZ.out, hf⟩])
      have e2 := Lib.hid (show fmE 3 L a = 0 by unfold fmE; rw [if_pos HZ.out, if_pos hf])
      gi_wp2
      refine ⟨by simp, .inl ⟨_, _, rfl, run_takeDeferred hK, ?_⟩⟩
      obtain ⟨r0, r1, r2⟩ := Box.three (show Box (W.putObj D (.deferred none)) (w.heap.size + 1) 27 _ from (World.putObj_heap_other (by omega)).trans h4)
      obtain ⟨s0, _⟩ := Box.one (show Box (W.putObj D (.deferred none)) (w.heap.size + 1 + 1) 2 #[.int .i64 0] from (World.putObj_heap_other (by omega)).trans h5)
      refine ⟨.tuple #[.agg #[.int .i64 (mvW L a).1, .int .i64 (mvW L a).2.1, .int .i64 (mvW L a).2.2], .int .i64 0], (by simp [results, Try.results9, go_sem, r0, r1, r2, s0]), ?_⟩
      rw [e1.out, e2.out]
      exact ⟨rfl, hB.trans (belowK_b (w := w) (Nat.le_refl _) W D _ _ (by omega) hK rfl rfl)⟩
  · have e1 : fmM p L a = (0, 0, 0) := by unfold fmM; rw [if_neg (fun h => hz h.1)]
    have e2 : fmE p L a = codeW p L a := by unfold fmE; rw [if_neg hz]
    have hz' : (codeW p L a != 0) = true := by simpa using hz
    rw [e1, e2]
    clear e1 e2 hz
    go_enter Try.func9, Try.ntmps9
    go_wp2_with fail
    rw [← HW0.out]
    refine (codeOfPeg_one (w.heap.size + 1 + 1 + 1) (some ad) n c p L a W0 X3.out HL.out hn HI0.out).mono ?_
    rintro e w1 ⟨rfl, hb1⟩
    have M1 := Lib.hid (X1.out.below hb1 X1.out.lt)
    have N1 := Lib.hid (X2.out.below hb1 X2.out.lt)
    have HB1 := Lib.hid (HB0.out.trans (hb1.mono HB0.out.size))
    clear hb1
    obtain ⟨m0, m1, m2⟩ := M1.out.three
    have hf0 := M1.out.frozen 0
    have hf1 := M1.out.frozen 1
    have hf2 := M1.out.frozen 2
    obtain ⟨n0, nf⟩ := N1.out.one
    obtain ⟨r0, r1, r2⟩ := ((M1.out.set3 (a := .int .i64 0) (c := .int .i64 0) (d := .int .i64 0)).other (a := ⟨w.heap.size + 1 + 1, 0, none⟩) (by simp) (.int .i64 (codeW p L a))).three
    obtain ⟨s0, _⟩ := Box.one (show Box _ (w.heap.size + 1 + 1) 2 #[.int .i64 (codeW p L a)] from ((((N1.out.other (a := ⟨w.heap.size + 1, 0, none⟩) (by simp) (.int .i64 0)).other (a := ⟨w.heap.size + 1, 1, none⟩) (by simp) (.int .i64 0)).other (a := ⟨w.heap.size + 1, 2, none⟩) (by simp) (.int .i64 0)).set 0 (.int .i64 (codeW p L a))))
    go_wp2
    refine bodyPost_ret (v := .tuple #[.agg #[.int .i64 0, .int .i64 0, .int .i64 0], .int .i64 (codeW p L a)]) (by simp [results, Try.results9, go_sem, r0, r1, r2, s0]) rfl ⟨rfl, ?_⟩
    exact (((HB1.out.setCell (by simp) _).setCell (by simp) _).setCell (by simp) _).setCell (by simp; omega) _

end Go.Proofs.Ytmpmkhfbfaicpaa
