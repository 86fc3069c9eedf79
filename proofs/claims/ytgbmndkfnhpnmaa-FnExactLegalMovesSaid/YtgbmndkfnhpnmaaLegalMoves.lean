/- Contracts: LegalMoves, by the specification's model and by the program. -/
import Derived.Test.YtgbmndkfnhpnmaaIter
import Derived.Test.YtgbmndkfnhpnmaaSpecMoves
import Derived.RangeFuncBox
namespace Go.Proofs.Ytgbmndkfnhpnmaa
open Go.RowKit Go.Shelf
set_option linter.unusedVariables false
attribute [local go_sem] Oper.semAt_some

/-- A list of moves and a code are the answer; the list lies in the call's own memory. -/
def RetMvs (w : World) (n : Nat) (M : List Mv) (E : Int) (e : Ending) (w' : World) : Prop :=
  ∃ A c, e = .returned (.tuple #[.slice A n c, .int .i64 E]) ∧ OwnM w.heap.size w' A n c M ∧ Below w.heap.size w w'
theorem retMvs_zero {w w' : World} {e : Ending} {E : Int} (he : e = .returned (.tuple #[.slice none 0 0, .int .i64 E])) (hb : Below w.heap.size w w') : RetMvs w ([] : List Mv).length [] E e w' :=
  ⟨none, 0, he, OwnG.nilS _ _ _ _, hb⟩
theorem box_own {β : Type} (B : Nat) (t : TypeId) (cs : Array Value) : Go.Own (fun (_ : β) W => Box W B t cs) := fun s X Y row hs hg hrow =>
  hs.grown hg (fun e' => by obtain ⟨o, ho, hc⟩ := hrow B e'.symm; rw [show X.heap[B]? = _ from hs] at ho; cases ho; cases hc)

theorem ownFrom_size {β : Type} (B k : Nat) : OwnFrom B (fun (_ : β) W => k ≤ W.heap.size) := fun _ _ _ _ hs hg _ => Nat.le_trans hs hg.size
/-- Behind an append and the store of its answer: the blocks that are neither the list's own nor the variable's lie as they lay. -/
theorem keepB_appended {S : Nat → Prop} {W w2 : World} {tmp : Obj} {v u : Value} {B : Nat} (hg : (W.alloc tmp).grownBy w2 v.ownBlock) (hS : ∀ b, S b → b < W.heap.size ∧ some b ≠ v.ownBlock ∧ b ≠ B) : KeepB S W (w2.setCell ⟨B, 0, none⟩ u) := fun b hb => by
  obtain ⟨h1, h2, h3⟩ := hS b hb
  exact (Below.heap_setCell _ _ _ _ (by exact h3)).trans ((hg.block b (by simp; omega) h2).trans (Below.heap_alloc W tmp b h1))

/-- What LegalMoves answers. -/
def lmL (p : Int) (L : List Int) : List Mv := if stateB p L = true then movesL p L else []
theorem lmL_yes {p : Int} {L : List Int} (h : stateB p L = true) : lmL p L = movesL p L := by unfold lmL; rw [if_pos h]
theorem lmL_no {p : Int} {L : List Int} (h : stateB p L = false) : lmL p L = [] := by unfold lmL; rw [h]; rfl
theorem lmL_len (p : Int) (L : List Int) : (lmL p L).length ≤ 1048576 := by
  by_cases h : stateB p L = true
  · rw [lmL_yes h]; have := movesL_len h; omega
  · rw [lmL_no (by simpa using h)]; simp

set_option maxHeartbeats 400000 in
theorem specLegalMoves_ret (A : Option Addr) (n c : Nat) (p : Int) (L : List Int) (w : World) (hL : L.length = n) (hn : n ≤ 1048576) (hI : Ints w A L) (hcap : n ≤ c) (hc63 : c ≤ 9223372036854775807) :
    Calls Try.prog 17 #[.agg #[.int .i64 p, .slice A n c]] w (RetMvs w (lmL p L).length (lmL p L) (codeS p L)) := by
  have HL : Hid (L.length = n) := hL
  clear hL
  have hb0 : Below w.heap.size w (w.alloc (.cells #[.int .i64 p, .slice A n c] 28)) := (Below.refl _ _).alloc (Nat.le_refl _) _
  have hI0 := hI.below hb0
  by_cases hs : stateB p L = true
  · rw [lmL_yes hs, codeS_yes hs]
    go_enter Try.func17, Try.ntmps17
    go_wp2_with fail
    refine (l01Is_calls A n c p L _ HL.out hn hI0).mono ?_
    rintro e w1 ⟨rfl, hb⟩
    have HB := Lib.hid hb
    have hI1 := hI0.below hb
    obtain ⟨c0, c1, hz⟩ := boxed2 (hb.mono (by simp))
    clear hb
    go_wp2_with fail
    refine (l01Moves_calls A n c p L _ HL.out hI1 hs).mono ?_
    rintro e w2 ⟨A2, c2, rfl, hO2, hb2⟩
    have HB2 := Lib.hid hb2
    have HO2 := Lib.hid hO2
    clear hb2 hO2
    go_wp2
    go_ret2
    exact ⟨A2, c2, rfl, HO2.out.mono (by have := HB.out.size; simp at this; omega), hb0.trans ((HB.out.mono (by simp)).trans (HB2.out.mono (by omega)))⟩
  · have hs' : stateB p L = false := by simpa using hs
    rw [lmL_no hs', codeS_no hs']
    clear hs
    go_enter Try.func17, Try.ntmps17
    go_wp2_with fail
    refine (l01Is_calls A n c p L _ HL.out hn hI0).mono ?_
    rintro e w1 ⟨rfl, hb⟩
    have HB := Lib.hid hb
    clear hb
    go_wp2
    go_ret2
    exact retMvs_zero rfl (hb0.trans (HB.out.mono (by simp)))

set_option maxRecDepth 100000 in
set_option maxHeartbeats 4000000 in
theorem implLegalMoves_ret (A : Option Addr) (n c : Nat) (p : Int) (L : List Int) (w : World) (hL : L.length = n) (hn : n ≤ 1048576) (hI : Ints w A L) (hcap : n ≤ c) (hc63 : c ≤ 9223372036854775807) :
    Calls Try.prog 18 #[.agg #[.int .i64 p, .slice A n c]] w (RetMvs w (lmL p L).length (lmL p L) (codeS p L)) := by
  have HL : Hid (L.length = n) := hL
  clear hL
  have hb0 : Below w.heap.size w (w.alloc (.cells #[.int .i64 p, .slice A n c] 28)) := (Below.refl _ _).alloc (Nat.le_refl _) _
  have hI0 := hI.below hb0
  by_cases hs : stateB p L = true
  · rw [lmL_yes hs, codeS_yes hs]
    obtain ⟨i0, hi, hz0, hz1, hz2⟩ := info_parts Try.infoM
    have HS := Lib.hid hs
    refine (callsIn_wide (n := 6)).1 ?_
    refine callsIn_of_wp_marks Try.func18 rfl trivial ?_ rfl
    simp only [Try.ntmps18, List.size_toArray, List.length_cons, List.length_nil, Nat.reduceAdd, Nat.reduceSub, Array.replicate_succ, Array.replicate_zero, List.push_toArray, List.append_toArray, List.nil_append, List.cons_append]
    gi_wp2_with fail
    refine ⟨trivial, ?_⟩
    refine (callsIn_wide.2 (implIsState_calls A n c p L _ HL.out hn hI0)).mono ?_
    rintro e w1 ⟨rfl, hb⟩
    have HB1 := Lib.hid (hb0.trans (hb.mono (by simp)))
    have hI1 := hI0.below hb
    obtain ⟨c0, c1, hz⟩ := boxed2 (hb.mono (by simp))
    have hzl : w.heap.size < w1.heap.size := hz
    clear hb
    gi_wp2_with (refine ⟨trivial, ?_⟩; gi_at_call 42; refine (legalMoves_calls _ A n c p _).mono ?_; rintro e w' ⟨rfl, rfl⟩)
    have bM := Boxed.new w1 36 (.slice none 0 0)
    have bS := Box.new (w1.alloc (.cells #[.slice none 0 0] 36)) 28 #[.int .i64 p, .slice A n c]
    simp only [World.size_alloc] at bS
    have hB0 : Below w.heap.size w ((w1.alloc (.cells #[.slice none 0 0] 36)).alloc (.cells #[.int .i64 p, .slice A n c] 28)) := (HB1.out.alloc (by omega) _).alloc (by simp; omega) _
    have hI2 : Ints ((w1.alloc (.cells #[.slice none 0 0] 36)).alloc (.cells #[.int .i64 p, .slice A n c] 28)) A L := hI1.below (((Below.refl _ _).alloc (Nat.le_refl _) _).alloc (by simp) _)
    have bM2 := bM.alloc (.cells #[.int .i64 p, .slice A n c] 28)
    have hsz : ((w1.alloc (.cells #[.slice none 0 0] 36)).alloc (.cells #[.int .i64 p, .slice A n c] 28)).heap.size = w1.heap.size + 2 := by simp
    generalize (w1.alloc (.cells #[.slice none 0 0] 36)).alloc (.cells #[.int .i64 p, .slice A n c] 28) = W0 at *
    have hSb : ∀ b, stS (w1.heap.size + 1) A L b → b ≠ w1.heap.size ∧ b < w1.heap.size + 2 := fun b hb => by
      rcases stS_cases hI hb with h | h <;> omega
    refine wpIn_rangeFunc_ownH rfl (by omega) (gf := 48) (lb := #[.pointer (some ⟨w1.heap.size + 1, 0, none⟩)]) rfl trivial (enters_of Try.func48 (by kernel_rfl) rfl)
      (legalMoves_stops _ (w1.heap.size + 1) (by omega) A n c p L HL.out hcap hc63 HS.out _ bS hI2) (fun h k => keepB_t h k) (keepB_b (by intro b hb; have := hSb b hb; omega)) (Below.refl _ _) (fun _ => rfl)
      (fun pre W => (∃ v, Boxed W w1.heap.size 36 v ∧ W.ownsRow w.heap.size 57 3 v pre.length (mvCells pre) ∧ True) ∧ Below w.heap.size w W ∧ Box W (w1.heap.size + 1) 28 #[.int .i64 p, .slice A n c] ∧ w1.heap.size + 2 ≤ W.heap.size)
      (fun _ _ _ => False)
      (OwnFrom.and (Own.from (holdsRow_own w.heap.size w1.heap.size 36 57 3 (fun pre : List Mv => pre.length) (fun pre => mvCells pre) (fun _ _ => True)) _) (OwnFrom.and (ownFrom_below (Nat.le_refl _) (by omega)) (OwnFrom.and (Own.from (box_own _ _ _) _) (ownFrom_size _ _))))
      (fun _ _ _ _ _ hs _ _ => hs)
      ⟨⟨_, bM2, World.ownsRow_nil _ _ _ _, trivial⟩, hB0, bS, by omega⟩
      (fun x a' W => ∃ Bx, w1.heap.size + 1 < Bx ∧ Box W Bx 57 #[.int .i64 x.1, .int .i64 x.2.1, .int .i64 x.2.2] ∧ a' = { tmps := #[.agg #[.int .i64 p, .slice A n c], .pointer (some ⟨w.heap.size, 0, none⟩), .slice none 0 0, .int .i64 0, .pointer (some ⟨w1.heap.size, 0, none⟩), .pointer (some ⟨Bx, 0, none⟩), .agg #[.int .i64 p, .slice A n c], .bool true, .bool false, .agg #[.int .i64 p, .slice A n c], .func (.func 48) #[] #[.pointer (some ⟨w1.heap.size + 1, 0, none⟩)], mvV x, undef, undef, undef, undef, undef], defers := [] })
      (fun x a' _ X Y row hs hg hr => by obtain ⟨Bx, h1, h2, h3⟩ := hs; exact ⟨Bx, h1, box_own Bx 57 _ () X Y row h2 hg (fun r e => (hr r e).2), h3⟩)
      ?assign ?body ?done ?stop
    case assign =>
      rintro l pre x W K ⟨⟨v, hv, hrow, _⟩, hB, bC, hW⟩ hK
      have hlt := hv.lt
      have hle := hB.size
      obtain ⟨x1, x2, x3⟩ := x
      dsimp only [mvV] at hK ⊢
      gi_wp2
      exact hK _ _ ((KeepsOthers.alloc _ _).from _) (keepB_below ((Below.refl W.heap.size W).alloc (Nat.le_refl _) _) (fun b hb => by have := hSb b hb; omega)) ⟨⟨v, hv.alloc _, hrow.alloc _, trivial⟩, hB.alloc hle _, bC.alloc _, by simp; omega⟩ ⟨W.heap.size, by omega, Box.new W 57 _, rfl⟩
    case body =>
      rintro l pre x a' W hl ⟨r, hr⟩ ⟨⟨v, hv, hrow, _⟩, hB, bC, hW⟩ ⟨Bx, hBx, bX, rfl⟩ hlt
      obtain ⟨A', c', rfl⟩ := ownG_shape hrow
      have HN := Lib.hid (show ∀ b, stS (w1.heap.size + 1) A L b → b < W.heap.size ∧ some b ≠ (Value.slice A' pre.length c').ownBlock ∧ b ≠ w1.heap.size from fun b hb => ⟨by have := hSb b hb; omega, fun e => by
        rcases stS_cases hI hb with rfl | h
        · exact OwnG.box_ne hrow bC (by decide) e
        · have := ows_bk hrow b e.symm
          omega, (hSb b hb).1⟩)
      have hbm := OwnG.box_ne hrow bC (by decide)
      obtain ⟨x1, x2, x3⟩ := x
      dsimp only [mvV] at bX ⊢
      have hc := hv.cell
      obtain ⟨m0, m1, m2⟩ := bX.three
      have hle := hB.size
      gi_wp2_with (gi_at_builtin; refine wpListIn_append_own _ rfl _ _ 36 rfl w.heap.size 57 i0 (.agg #[.int .i64 0, .int .i64 0, .int .i64 0]) 3 24 Try.underlying36 hi hz0 hz1 hz2 rfl (by decide) _ _ _ rfl (hrow.alloc _) ⟨W.heap.size, 0, none⟩ 1 1 [.int .i64 x1, .int .i64 x2, .int .i64 x3] rfl rfl (World.news_of_block (cs := #[.int .i64 x1, .int .i64 x2, .int .i64 x3]) (t := 57) (fr := (0, 0)) (heap_alloc_new W _)) (by simp [Value.oneCell']) (by unfold maxLen; omega) (by omega) (by simp; omega) ?_; intro v' w2 hown' hgrow _; obtain ⟨g', cap', rfl⟩ := ownsRow_succ hown'; obtain ⟨hv1, hv2, hr2, hk2, hb2⟩ := hv.appended (by decide) hrow hle (by omega) hown' hgrow; have hc1 := hv1.cell; have hf1 := hv1.frozen; have hK2 := Lib.hid (keepB_appended (u := .slice (some ⟨g', 0, none⟩) (pre.length + 1) cap') (B := w1.heap.size) hgrow HN.out); have hbC := Lib.hid ((bC.alloc _).grown hgrow hbm); have hgs := hgrow.size; clear hbm)
      refine ⟨hk2.from _, hK2.out, ⟨⟨_, hv2, ?_, trivial⟩, hB.trans hb2, hbC.out.other (by simp) _, ?_⟩⟩
      · rw [List.length_append, mvCells_snoc]
        exact hr2
      · simp at hgs ⊢
        omega
    case done =>
      rintro D ys W hD rfl ⟨⟨v, hv, hrow, _⟩, hB, bC, hW⟩ hK
      have hc := hv.cell
      obtain ⟨A', c', rfl⟩ := ownG_shape hrow
      gi_wp2
      refine ⟨by simp, .inl ⟨_, _, rfl, run_takeDeferred hK, ?_⟩⟩
      refine ⟨_, results_tmp2 rfl _ _ _, A', c', rfl, ownsRow_putObj hrow _ hK rfl, hB.trans (belowK_b (w := w) (Nat.le_refl _) W D _ _ (by omega) hK rfl rfl)⟩
    case stop =>
      rintro D c pre W _ _ h _
      exact h.elim
  · have hs' : stateB p L = false := by simpa using hs
    rw [lmL_no hs', codeS_no hs']
    clear hs
    go_enter Try.func18, Try.ntmps18
    go_wp2_with fail
    refine (implIsState_calls A n c p L _ HL.out hn hI0).mono ?_
    rintro e w1 ⟨rfl, hb⟩
    have HB := Lib.hid hb
    clear hb
    go_wp2
    go_ret2
    exact retMvs_zero rfl (hb0.trans (HB.out.mono (by simp)))

end Go.Proofs.Ytgbmndkfnhpnmaa
