/- Contracts: LegalMoves, by the specification's model and by the program. -/
import Derived.Test.YtfdjlgpdbgmdkaaIter
import Derived.Test.YtfdjlgpdbgmdkaaSpecMoves
import Derived.RangeFuncBox
namespace Go.Proofs.Ytfdjlgpdbgmdkaa
open Go.RowKit Go.Shelf
set_option linter.unusedVariables false
attribute [local go_sem] Oper.semAt_some


/-- What LegalMoves answers. -/
def lmL (p : Int) (L : List Int) : List Mv := if stateB p L = true then movesL p L else []
theorem lmL_yes {p : Int} {L : List Int} (h : stateB p L = true) : lmL p L = movesL p L := by unfold lmL; rw [if_pos h]
theorem lmL_no {p : Int} {L : List Int} (h : stateB p L = false) : lmL p L = [] := by unfold lmL; rw [h]; rfl
theorem lmL_len (p : Int) (L : List Int) : (lmL p L).length ≤ 1048576 := by
  by_cases h : stateB p L = true
  · rw [lmL_yes h]; have := movesL_len h; omega
  · rw [lmL_no (by simpa using h)]; simp

set_option maxRecDepth 100000 in
set_option maxHeartbeats 4000000 in
theorem implLegalMoves_ret (A : Option Addr) (n c : Nat) (p : Int) (L : List Int) (w : World) (hL : L.length = n) (hn : n ≤ 1048576) (hI : Ints w A L) (hcap : n ≤ c) (hc63 : c ≤ 9223372036854775807) :
    Calls Try.prog 19 #[.agg #[.int .i64 p, .slice A n c]] w (RetMvs w (lmL p L).length (lmL p L) (codeS p L)) := by
  have HL : Hid (L.length = n) := hL
  clear hL
  have hb0 : Below w.heap.size w (w.alloc (.cells #[.int .i64 p, .slice A n c] 26)) := (Below.refl _ _).alloc (Nat.le_refl _) _
  have hI0 := hI.below hb0
  by_cases hs : stateB p L = true
  · rw [lmL_yes hs, codeS_yes hs]
    obtain ⟨i0, hi, hz0, hz1, hz2⟩ := info_parts Try.infoM
    have HS := Lib.hid hs
    refine (callsIn_wide (n := 6)).1 ?_
    refine callsIn_of_wp_marks Try.func19 rfl trivial ?_ rfl
    simp only [Try.ntmps19, List.size_toArray, List.length_cons, List.length_nil, Nat.reduceAdd, Nat.reduceSub, Array.replicate_succ, Array.replicate_zero, List.push_toArray, List.append_toArray, List.nil_append, List.cons_append]
    gi_wp2_with fail
    refine ⟨trivial, ?_⟩
    refine (callsIn_wide.2 (implIsState_calls A n c p L _ HL.out hn hI0)).mono ?_
    rintro e w1 ⟨rfl, hb⟩
    have HB1 := Lib.hid (hb0.trans (hb.mono (by simp)))
    have hI1 := hI0.below hb
    obtain ⟨c0, c1, hz⟩ := boxed2 (hb.mono (by simp))
    have hzl : w.heap.size < w1.heap.size := hz
    clear hb
    gi_wp2_with (refine ⟨trivial, ?_⟩; gi_at_call 53; refine (legalMoves_calls _ A n c p _).mono ?_; rintro e w' ⟨rfl, rfl⟩)
    have bM := Boxed.new w1 44 (.slice none 0 0)
    have bS := Box.new (w1.alloc (.cells #[.slice none 0 0] 44)) 26 #[.int .i64 p, .slice A n c]
    simp only [World.size_alloc] at bS
    have hB0 : Below w.heap.size w ((w1.alloc (.cells #[.slice none 0 0] 44)).alloc (.cells #[.int .i64 p, .slice A n c] 26)) := (HB1.out.alloc (by omega) _).alloc (by simp; omega) _
    have hI2 : Ints ((w1.alloc (.cells #[.slice none 0 0] 44)).alloc (.cells #[.int .i64 p, .slice A n c] 26)) A L := hI1.below (((Below.refl _ _).alloc (Nat.le_refl _) _).alloc (by simp) _)
    have bM2 := bM.alloc (.cells #[.int .i64 p, .slice A n c] 26)
    have hsz : ((w1.alloc (.cells #[.slice none 0 0] 44)).alloc (.cells #[.int .i64 p, .slice A n c] 26)).heap.size = w1.heap.size + 2 := by simp
    generalize (w1.alloc (.cells #[.slice none 0 0] 44)).alloc (.cells #[.int .i64 p, .slice A n c] 26) = W0 at *
    have hSb : ∀ b, stS (w1.heap.size + 1) A L b → b ≠ w1.heap.size ∧ b < w1.heap.size + 2 := fun b hb => by
      rcases stS_cases hI hb with h | h <;> omega
    refine wpIn_rangeFunc_ownH rfl (by omega) (gf := 72) (lb := #[.pointer (some ⟨w1.heap.size + 1, 0, none⟩)]) rfl trivial (enters_of Try.func72 (by kernel_rfl) rfl)
      (legalMoves_stops _ (w1.heap.size + 1) (by omega) A n c p L HL.out hcap hc63 HS.out _ bS hI2) (fun h k => keepB_t h k) (keepB_b (by intro b hb; have := hSb b hb; omega)) (Below.refl _ _) (fun _ => rfl)
      (fun pre W => (∃ v, Boxed W w1.heap.size 44 v ∧ W.ownsRow w.heap.size 74 3 v pre.length (mvCells pre) ∧ True) ∧ Below w.heap.size w W ∧ Box W (w1.heap.size + 1) 26 #[.int .i64 p, .slice A n c] ∧ w1.heap.size + 2 ≤ W.heap.size)
      (fun _ _ _ => False)
      (OwnFrom.and (Own.from (holdsRow_own w.heap.size w1.heap.size 44 74 3 (fun pre : List Mv => pre.length) (fun pre => mvCells pre) (fun _ _ => True)) _) (OwnFrom.and (ownFrom_below (Nat.le_refl _) (by omega)) (OwnFrom.and (Own.from (box_own _ _ _) _) (ownFrom_size _ _))))
      (fun _ _ _ _ _ hs _ _ => hs)
      ⟨⟨_, bM2, World.ownsRow_nil _ _ _ _, trivial⟩, hB0, bS, by omega⟩
      (fun x a' W => ∃ Bx, w1.heap.size + 1 < Bx ∧ Box W Bx 74 #[.int .i64 x.1, .int .i64 x.2.1, .int .i64 x.2.2] ∧ a' = { tmps := #[.agg #[.int .i64 p, .slice A n c], .pointer (some ⟨w.heap.size, 0, none⟩), .slice none 0 0, .int .i64 0, .pointer (some ⟨w1.heap.size, 0, none⟩), .pointer (some ⟨Bx, 0, none⟩), .agg #[.int .i64 p, .slice A n c], .bool true, .bool false, .agg #[.int .i64 p, .slice A n c], .func (.func 72) #[] #[.pointer (some ⟨w1.heap.size + 1, 0, none⟩)], mvV x, undef, undef, undef, undef, undef], defers := [] })
      (fun x a' _ X Y row hs hg hr => by obtain ⟨Bx, h1, h2, h3⟩ := hs; exact ⟨Bx, h1, box_own Bx 74 _ () X Y row h2 hg (fun r e => (hr r e).2), h3⟩)
      ?assign ?body ?done ?stop
    case assign =>
      rintro l pre x W K ⟨⟨v, hv, hrow, _⟩, hB, bC, hW⟩ hK
      have hlt := hv.lt
      have hle := hB.size
      obtain ⟨x1, x2, x3⟩ := x
      dsimp only [mvV] at hK ⊢
      gi_wp2
      exact hK _ _ ((KeepsOthers.alloc _ _).from _) (keepB_below ((Below.refl W.heap.size W).alloc (Nat.le_refl _) _) (fun b hb => by have := hSb b hb; omega)) ⟨⟨v, hv.alloc _, hrow.alloc _, trivial⟩, hB.alloc hle _, bC.alloc _, by simp; omega⟩ ⟨W.heap.size, by omega, Box.new W 74 _, rfl⟩
    case body =>
      rintro l pre x a' W hl ⟨r, hr⟩ ⟨⟨v, hv, hrow, _⟩, hB, bC, hW⟩ ⟨Bx, hBx, bX, rfl⟩ hlt
      obtain ⟨A', c', rfl⟩ := ownG_shape hrow
      have HN := Lib.hid (show ∀ b, stS (w1.heap.size + 1) A L b → b < W.heap.size ∧ some b ≠ (Value.slice A' pre.length c').ownBlock ∧ b ≠ w1.heap.size from fun b hb => ⟨by have := hSb b hb; omega, fun e => by
        rcases stS_cases hI hb with rfl | h
        · exact OwnG.box_ne hrow bC (by decide) e
        · have := ows_bk hrow b e.symm
          omega, (hSb b hb).1⟩)
      have hbm := OwnG.box_ne hrow bC (by decide)
      obtain ⟨x1, x2, x3⟩ := x
      dsimp only [mvV] at bX ⊢
      have hc := hv.cell
      obtain ⟨m0, m1, m2⟩ := bX.three
      have hle := hB.size
      gi_wp2_with (gi_at_builtin; refine wpListIn_append_own _ rfl _ _ 44 rfl w.heap.size 74 i0 (.agg #[.int .i64 0, .int .i64 0, .int .i64 0]) 3 24 Try.underlying44 hi hz0 hz1 hz2 rfl (by decide) _ _ _ rfl (hrow.alloc _) ⟨W.heap.size, 0, none⟩ 1 1 [.int .i64 x1, .int .i64 x2, .int .i64 x3] rfl rfl (World.news_of_block (cs := #[.int .i64 x1, .int .i64 x2, .int .i64 x3]) (t := 74) (fr := (0, 0)) (heap_alloc_new W _)) (by simp [Value.oneCell']) (by unfold maxLen; omega) (by omega) (by simp; omega) ?_; intro v' w2 hown' hgrow _; obtain ⟨g', cap', rfl⟩ := ownsRow_succ hown'; obtain ⟨hv1, hv2, hr2, hk2, hb2⟩ := hv.appended (by decide) hrow hle (by omega) hown' hgrow; have hc1 := hv1.cell; have hf1 := hv1.frozen; have hK2 := Lib.hid (keepB_appended (u := .slice (some ⟨g', 0, none⟩) (pre.length + 1) cap') (B := w1.heap.size) hgrow HN.out); have hbC := Lib.hid ((bC.alloc _).grown hgrow hbm); have hgs := hgrow.size; clear hbm)
      refine ⟨hk2.from _, hK2.out, ⟨⟨_, hv2, ?_, trivial⟩, hB.trans hb2, hbC.out.other (by simp) _, ?_⟩⟩
      · rw [List.length_append, mvCells_snoc]
        exact hr2
      · simp at hgs ⊢
        omega
    case done =>
      rintro D ys W hD rfl ⟨⟨v, hv, hrow, _⟩, hB, bC, hW⟩ hK
      have hc := hv.cell
      obtain ⟨A', c', rfl⟩ := ownG_shape hrow
      gi_wp2
      refine ⟨by simp, .inl ⟨_, _, rfl, run_takeDeferred hK, ?_⟩⟩
      refine ⟨_, results_tmp2 rfl _ _ _, A', c', rfl, ownsRow_putObj hrow _ hK rfl, hB.trans (belowK_b (w := w) (Nat.le_refl _) W D _ _ (by omega) hK rfl rfl)⟩
    case stop =>
      rintro D c pre W _ _ h _
      exact h.elim
  · have hs' : stateB p L = false := by simpa using hs
    rw [lmL_no hs', codeS_no hs']
    clear hs
    go_enter Try.func19, Try.ntmps19
    go_wp2_with fail
    refine (implIsState_calls A n c p L _ HL.out hn hI0).mono ?_
    rintro e w1 ⟨rfl, hb⟩
    have HB := Lib.hid hb
    clear hb
    go_wp2
    go_ret2
    exact retMvs_zero rfl (hb0.trans (HB.out.mono (by simp)))

end Go.Proofs.Ytfdjlgpdbgmdkaa
