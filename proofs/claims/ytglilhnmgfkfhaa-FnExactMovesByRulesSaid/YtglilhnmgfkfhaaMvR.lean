/- Contracts: the moves that are legal by rules, by the specification's model and by the program. -/
import Derived.Test.YtglilhnmgfkfhaaColl
import Derived.Test.YtglilhnmgfkfhaaMvBy
import Derived.Test.YtglilhnmgfkfhaaRb2
import Derived.Test.YtglilhnmgfkfhaaSpecMoves
import Derived.Test.YtglilhnmgfkfhaaLegalMoves
namespace Go.Proofs.Ytglilhnmgfkfhaa
open Go.RowKit Go.Shelf
set_option linter.unusedVariables false
attribute [local go_sem] Oper.semAt_some

set_option maxRecDepth 100000 in
set_option maxHeartbeats 4000000 in
theorem appendSeq_hold (gf : Nat) (lb : Array Value) (tp bs : Nat → Prop) (htp : ¬ tp 53) (encs : Mv → Array Value) (hen : ∀ x, encs x = mvEnc x) (M : List Mv) (w : World) (eg : ∀ args w, (callFunc gf args).run Try.prog w = .ok (.enter gf args) w) (hM : M.length ≤ 255) (hbs : ∀ b, bs b → b < w.heap.size) (hseq : SeqHold 5 Try.prog gf lb encs tp bs M w) :
    Calls Try.prog 41 #[.slice none 0 0, .func (.func gf) #[] lb] w fun e w' => ∃ A' c', e = .returned (.slice A' M.length c') ∧ OwnM w.heap.size w' A' M.length c' M ∧ Below w.heap.size w w' := by
  obtain ⟨i0, hi, hz0, hz1, hz2⟩ := info_parts Try.infoM
  refine (callsIn_wide (n := 6)).1 ?_
  refine callsIn_of_wp_marks Try.func41 rfl trivial ?_ rfl
  simp only [Try.ntmps41, List.size_toArray, List.length_cons, List.length_nil, Nat.reduceAdd, Nat.reduceSub, Array.replicate_succ, Array.replicate_zero, List.push_toArray, List.append_toArray, List.nil_append, List.cons_append]
  gi_wp2_with fail
  have bM := Boxed.new w 28 (.slice none 0 0)
  have hB0 : Below w.heap.size w (w.alloc (.cells #[.slice none 0 0] 28)) := (Below.refl _ _).alloc (Nat.le_refl _) _
  have hsz : (w.alloc (.cells #[.slice none 0 0] 28)).heap.size = w.heap.size + 1 := by simp
  have hseq0 := hseq.later hB0
  generalize w.alloc (.cells #[.slice none 0 0] 28) = W0 at *
  refine rangeFunc_hold (by omega) (gf := gf) (lb := lb) rfl eg hseq0 (fun x => by rw [hen]; rfl) (fun b hb => by have := hbs b hb; omega)
    (fun S pre W => (∃ v, Boxed W w.heap.size 28 v ∧ W.ownsRow w.heap.size 53 3 v pre.length (mvCells pre) ∧ ∀ b, S b → v.ownBlock ≠ some b) ∧ Below w.heap.size w W ∧ w.heap.size + 1 ≤ W.heap.size)
    (fun S => OwnFrom.and (Own.from (holdsRow_own w.heap.size w.heap.size 28 53 3 (fun pre : List Mv => pre.length) (fun pre => mvCells pre) (fun _ v => ∀ b, S b → v.ownBlock ≠ some b)) _) (OwnFrom.and (ownFrom_below (Nat.le_refl _) (by omega)) (ownFrom_size _ _)))
    (fun S hS => ⟨⟨_, bM, World.ownsRow_nil _ _ _ _, by simp [Value.ownBlock]⟩, hB0, by omega⟩)
    (fun S pre x a' W => ∃ Bx, w.heap.size < Bx ∧ Box W Bx 53 #[.int .i64 x.1, .int .i64 x.2.1, .int .i64 x.2.2] ∧ a' = { tmps := #[.slice none 0 0, .func (.func gf) #[] lb, .pointer (some ⟨w.heap.size, 0, none⟩), undef, .slice none 0 0, .pointer (some ⟨Bx, 0, none⟩), .func (.func gf) #[] lb, mvV x, undef, undef, undef, undef, undef], defers := [] })
    (fun S pre x a' _ X Y row hs hg hr => by obtain ⟨Bx, h1, h2, h3⟩ := hs; exact ⟨Bx, h1, box_own Bx 53 _ () X Y row h2 hg (fun r e => (hr r e).2), h3⟩)
    ?assign ?body ?done
  case assign =>
    rintro l S pre x W K hOw hpx ⟨⟨v, hv, hrow, hne⟩, hB, hW⟩ hK
    have hlt := hv.lt
    have hle := hB.size
    obtain ⟨x1, x2, x3⟩ := x
    rw [hen]
    dsimp only [mvEnc, mvV] at hK ⊢
    gi_wp2
    exact hK _ _ ((KeepsOthers.alloc _ _).from _) (keepB_below ((Below.refl W.heap.size W).alloc (Nat.le_refl _) _) (fun b hb => by
      rcases hb with hb | hb
      · have := hbs b hb; omega
      · exact hOw.lt b hb)) ⟨⟨v, hv.alloc _, hrow.alloc _, hne⟩, hB.alloc hle _, by simp; omega⟩ ⟨W.heap.size, by omega, Box.new W 53 _, rfl⟩
  case body =>
    rintro l S pre x a' W hOw hpx ⟨⟨v, hv, hrow, hne⟩, hB, hW⟩ ⟨Bx, hBx, bX, rfl⟩
    obtain ⟨A', c', rfl⟩ := ownG_shape hrow
    have hle := hB.size
    have HOw := Lib.hid hOw
    have HN := Lib.hid (show ∀ b, (bs b ∨ S b) → b < W.heap.size ∧ some b ≠ (Value.slice A' pre.length c').ownBlock ∧ b ≠ w.heap.size from fun b hb => by
      rcases hb with hb | hb
      · have h1 := hbs b hb
        exact ⟨by omega, fun e => by have := ows_bk hrow b e.symm; omega, by omega⟩
      · have h1 := hOw b hb
        exact ⟨hOw.lt b hb, fun e => hne b hb e.symm, by have := h1.1; omega⟩)
    have hlen : pre.length < 256 := by
      have := hpx.length_le
      simp at this
      omega
    obtain ⟨x1, x2, x3⟩ := x
    dsimp only [mvV] at bX ⊢
    have hc := hv.cell
    obtain ⟨m0, m1, m2⟩ := bX.three
    clear hpx hOw
    gi_wp2_with (gi_at_builtin; refine wpListIn_append_own _ rfl _ _ 28 rfl w.heap.size 53 i0 (.agg #[.int .i64 0, .int .i64 0, .int .i64 0]) 3 24 Try.underlying28 hi hz0 hz1 hz2 rfl (by decide) _ _ _ rfl (hrow.alloc _) ⟨W.heap.size, 0, none⟩ 1 1 [.int .i64 x1, .int .i64 x2, .int .i64 x3] rfl rfl (World.news_of_block (cs := #[.int .i64 x1, .int .i64 x2, .int .i64 x3]) (t := 53) (fr := (0, 0)) (heap_alloc_new W _)) (by simp [Value.oneCell']) (by unfold maxLen; omega) (by omega) (by simp; omega) ?_; intro v' w2 hown' hgrow _; obtain ⟨g', cap', rfl⟩ := ownsRow_succ hown'; obtain ⟨hv1, hv2, hr2, hk2, hb2⟩ := hv.appended (by decide) hrow hle (by omega) hown' hgrow; have hc1 := hv1.cell; have hf1 := hv1.frozen; have hK2 := Lib.hid (keepB_appended (u := .slice (some ⟨g', 0, none⟩) (pre.length + 1) cap') (B := w.heap.size) hgrow HN.out); have hgs := hgrow.size)
    refine ⟨hk2.from _, hK2.out, ⟨⟨_, hv2, ?_, ?_⟩, hB.trans hb2, ?_⟩⟩
    · rw [List.length_append, mvCells_snoc]
      exact hr2
    · intro b hb
      obtain ⟨_, cs, t, h2, h3⟩ := HOw.out b hb
      have h1 := ne_cells hr2 ((hK2.out b (.inr hb)).trans h3) (fun e => htp (by rw [e]; exact h2))
      simpa [Value.ownBlock] using h1
    · simp at hgs ⊢
      omega
  case done =>
    rintro D S W hD ⟨⟨v, hv, hrow, _⟩, hB, hW⟩ hK
    have hc := hv.cell
    obtain ⟨A', c', rfl⟩ := ownG_shape hrow
    gi_wp2
    refine ⟨by simp, .inl ⟨_, _, rfl, run_takeDeferred hK, ?_⟩⟩
    refine ⟨_, results_tmp rfl _ _ _, A', c', rfl, ownsRow_putObj hrow _ hK rfl, hB.trans (belowK_b (w := w) (Nat.le_refl _) W D _ _ (by omega) hK rfl rfl)⟩

theorem collect_hold (gf : Nat) (lb : Array Value) (tp bs : Nat → Prop) (htp : ¬ tp 53) (encs : Mv → Array Value) (hen : ∀ x, encs x = mvEnc x) (M : List Mv) (w : World) (eg : ∀ args w, (callFunc gf args).run Try.prog w = .ok (.enter gf args) w) (hM : M.length ≤ 255) (hbs : ∀ b, bs b → b < w.heap.size) (hseq : SeqHold 5 Try.prog gf lb encs tp bs M w) :
    Calls Try.prog 27 #[.func (.func gf) #[] lb] w fun e w' => ∃ A' c', e = .returned (.slice A' M.length c') ∧ OwnM w.heap.size w' A' M.length c' M ∧ Below w.heap.size w w' := by
  go_enter Try.func27, Try.ntmps27
  go_wp2_with fail
  refine (appendSeq_hold gf lb tp bs htp encs hen M _ eg hM hbs hseq).mono ?_
  rintro e w1 ⟨A', c', rfl, hO, hb⟩
  go_wp2
  go_ret
  exact ⟨A', c', rfl, hO, hb⟩

attribute [local go_sem] Oper.semAt_some

def mbL (r : Nat → Int) (p : Int) (L : List Int) : List Mv := if (ruB r && s3B p L) = true then byL r L else []
theorem mbL_yes {r : Nat → Int} {p : Int} {L : List Int} (h : ruB r = true) (h' : s3B p L = true) : mbL r p L = byL r L := by unfold mbL; rw [h, h']; rfl
theorem mbL_no {r : Nat → Int} {p : Int} {L : List Int} (h : ¬ (ruB r = true ∧ s3B p L = true)) : mbL r p L = [] := by unfold mbL; rw [if_neg]; simpa using h
theorem cR1_is {r : Nat → Int} {p : Int} {L : List Int} (h : cR1 r p L = 0) : ruB r = true ∧ s3B p L = true := by
  unfold cR1 at h
  split at h
  · next h2 => simpa using h2
  · cases h
theorem byL_len {r : Nat → Int} {L : List Int} (hs : stateB 3 L = true) : (byL r L).length ≤ 40 := by
  have h1 := List.length_filter_le (byB r) (movesL 3 L)
  have h2 := movesL_len hs
  unfold byL
  omega
theorem mbL_len (r : Nat → Int) (p : Int) (L : List Int) : (mbL r p L).length ≤ 1048576 := by
  unfold mbL
  split
  · rename_i h
    rw [Bool.and_eq_true] at h
    obtain ⟨h1, h2⟩ := s3_of h.2
    subst h2
    have := byL_len (r := r) h1
    omega
  · simp
theorem takeF_yes {f : Mv → Bool} {M : List Mv} {k : Nat} {x : Mv} (h : M[k]? = some x) (hx : f x = true) : (M.take (k + 1)).filter f = (M.take k).filter f ++ [x] := by
  rw [List.take_add_one, h]
  exact filter_yes f hx
theorem takeF_no {f : Mv → Bool} {M : List Mv} {k : Nat} {x : Mv} (h : M[k]? = some x) (hx : f x = false) : (M.take (k + 1)).filter f = (M.take k).filter f := by
  rw [List.take_add_one, h]
  exact filter_no f hx

set_option maxRecDepth 100000 in
set_option maxHeartbeats 4000000 in
theorem l07Moves_calls (r : Nat → Int) (A : Option Addr) (n c : Nat) (L : List Int) (w : World) (hL : L.length = n) (hI : Ints w A L) (hs : stateB 3 L = true) :
    Calls Try.prog 23 #[.agg (z9 r), .agg #[.int .i64 3, .slice A n c]] w fun e w' => ∃ A' c', e = .returned (.slice A' (byL r L).length c') ∧ OwnM w.heap.size w' A' (byL r L).length c' (byL r L) ∧ Below w.heap.size w w' := by
  obtain ⟨i0, hi, hz0, hz1', hz2'⟩ := info_parts Try.infoM
  have Q0 := Lib.hid ((Box.new w 31 (z9 r)).alloc (.cells #[.int .i64 3, .slice A n c] 33))
  have x0 := Box.new (w.alloc (.cells (z9 r) 31)) 33 #[.int .i64 3, .slice A n c]
  rw [World.size_alloc] at x0
  have HB0 := Lib.hid (((Below.refl w.heap.size w).alloc (Nat.le_refl _) (.cells (z9 r) 31)).alloc (by simp) (.cells #[.int .i64 3, .slice A n c] 33))
  have HI0 := Lib.hid (hI.below HB0.out)
  have HL := Lib.hid hL
  have HS := Lib.hid hs
  have hlen : (movesL 3 L).length ≤ 40 := movesL_len hs
  have HX := Lib.hid (show ∀ x, x ∈ movesL 3 L → (0 ≤ x.2.1 ∧ x.2.1 < 3) ∧ (0 ≤ x.2.2 ∧ x.2.2 < 3) from fun x hx => legal_in3 hs (movesTo_legal _ x hx))
  have HC := Lib.hid (fun W hW => l01Moves_calls A n c 3 L W hL hW hs)
  have hby : byL r L = (movesL 3 L).filter (byB r) := rfl
  rw [hby]
  clear hby hL hs hI HL HS
  generalize movesL 3 L = M at *
  obtain ⟨m, hm⟩ : ∃ m, M.length = m := ⟨_, rfl⟩
  have HMM := Lib.hid hm
  rw [hm] at HC hlen
  have hm40 : m ≤ 40 := hlen
  clear hm hlen
  obtain ⟨c0, c1, _, _⟩ := x0.two
  clear x0
  unfold z9 at HB0 HI0 Q0 c0 c1
  unfold z9
  go_enter Try.func23, Try.ntmps23
  go_wp2_with fail
  refine (HC.out _ HI0.out).mono ?_
  rintro e w1 ⟨A1, c1', rfl, hO, hb1⟩
  have HM1 := Lib.hid hO.mvs
  have Q1 := Lib.hid (Q0.out.below hb1 Q0.out.lt)
  have HB1 := Lib.hid (HB0.out.trans (hb1.mono HB0.out.size))
  clear hO hb1 Q0 HB0 HI0
  go_wp2
  go_loopw [6, 7] (fun o i wr => ∃ k : Nat, k ≤ m ∧ i = .int .i64 k ∧ ∃ A' m' c', o = .slice A' m' c' ∧ OwnM w1.heap.size wr A' m' c' ((M.take k).filter (byB r)) ∧ Below w1.heap.size w1 wr) (fun _ i _ => m - (intOf i).toNat)
  case atStart =>
    exact ⟨0, Nat.zero_le _, rfl, _, _, _, rfl, OwnG.emptyAt (Box.new w1 53 #[]) (Nat.le_refl _), (Below.refl _ _).alloc (Nat.le_refl _) _⟩
  case round =>
    obtain ⟨k, hk, rfl, A', m', c', rfl, hO, hb⟩ := hrel
    have HO := Lib.hid hO
    have HB := Lib.hid hb
    clear hO hb
    by_cases hlt : k < m
    · have hlm : m' ≤ 40 := by
        have h1 := OwnM.len HO.out
        have h2 := List.length_filter_le (byB r) (M.take k)
        have h3 := List.length_take_le k M
        omega
      obtain ⟨g, rfl, hg, k0, k1, k2⟩ := (HM1.out.below HB.out) k (by rw [HMM.out]; exact hlt)
      have hget : M[k]? = some (M[k]?.getD (0, 0, 0)) := by rw [List.getElem?_eq_getElem (by rw [HMM.out]; exact hlt)]; rfl
      have HG := Lib.hid hget
      obtain ⟨⟨hf0, hf1⟩, ⟨ht0, ht1⟩⟩ := HX.out _ (List.mem_of_getElem? hget)
      clear hget
      generalize M[k]?.getD (0, 0, 0) = mv at *
      obtain ⟨d, fr, tt⟩ := mv
      dsimp only at k0 k1 k2 hf0 hf1 ht0 ht1
      obtain ⟨u, rfl⟩ := Int.eq_ofNat_of_zero_le hf0
      obtain ⟨v, rfl⟩ := Int.eq_ofNat_of_zero_le ht0
      have hu3 : (u : Int) < 3 := by omega
      have hv3 : (v : Int) < 3 := by omega
      have hcell := z9_at (Q1.out.below HB.out Q1.out.lt) (i := u * 3 + v) (by omega)
      have hal : byB r (d, (u : Int), (v : Int)) = (r (u * 3 + v) == 1) := by unfold byB alR; rw [show (3 * (u : Int) + (v : Int)).toNat = u * 3 + v by omega]
      have hk0 : (0 : Int) ≤ (k : Int) := by omega
      have hk1 : (k : Int) < (m : Int) := by omega
      by_cases h1 : r (u * 3 + v) = 1
      · have hne : (r (u * 3 + v) == 1) = true := by simpa using h1
        have HT := Lib.hid (takeF_yes (f := byB r) HG.out (by rw [hal]; exact hne))
        clear h1 hal
        go_wp2_with fail
        go_quiet (fail)
        have HO1 := Lib.hid (OwnG.below HO.out (belowDraws (Below.refl wr.heap.size wr) nq))
        have HB2 := Lib.hid (belowDraws HB.out nq)
        have k0' : (wr.drewN nq).cell? ⟨g, k * 3, none⟩ = some (.int .i64 d) := k0
        have k1' : (wr.drewN nq).cell? ⟨g, k * 3 + 1, none⟩ = some (.int .i64 u) := k1
        have k2' : (wr.drewN nq).cell? ⟨g, k * 3 + 2, none⟩ = some (.int .i64 v) := k2
        have hsz := HB2.out.size
        generalize wr.drewN nq = w5 at *
        clear k0 k1 k2 HO HB hcell
        go_wp2_with (at_builtin; refine wpList_append_own _ rfl _ _ 28 rfl w1.heap.size 53 i0 (.agg #[.int .i64 0, .int .i64 0, .int .i64 0]) 3 24 Try.underlying28 hi hz0 hz1' hz2' rfl (by decide) _ _ _ rfl (HO1.out.alloc _) ⟨w5.heap.size, 0, none⟩ 1 1 [.int .i64 d, .int .i64 u, .int .i64 v] rfl rfl (World.news_of_block (cs := #[.int .i64 d, .int .i64 u, .int .i64 v]) (t := 53) (fr := (0, 0)) (heap_alloc_new w5 _)) (by simp [Value.oneCell']) (by unfold maxLen; omega) (by omega) (by simp; omega) ?_; intro v' w2 hown' hgrow _; obtain ⟨A2, c2, rfl⟩ := ownG_shape hown'; have HO2 := Lib.hid hown'; have HB3 := Lib.hid (HB2.out.trans (HO1.out.grown_below hgrow (Nat.le_refl _) hsz)); clear hown' hgrow)
        go_roundw
        case rel =>
          refine ⟨k + 1, by omega, by go_num, A2, m' + 1, c2, rfl, ?_, HB3.out⟩
          rw [HT.out]
          unfold OwnM OwnG
          rw [mvCells_snoc]
          exact HO2.out
        case measure => simp [intOf]; omega
      · have hne : (r (u * 3 + v) == 1) = false := by simpa using h1
        have HT := Lib.hid (takeF_no (f := byB r) HG.out (by rw [hal]; exact hne))
        clear h1 hal
        go_wp2_with fail
        go_quiet (fail)
        go_wp2
        go_roundw
        case rel => exact ⟨k + 1, by omega, by go_num, A', m', c', rfl, by rw [HT.out]; exact OwnG.below HO.out (belowDraws (Below.refl _ _) _), belowDraws HB.out _⟩
        case measure => simp [intOf]; omega
    · obtain rfl : k = m := by omega
      go_wp2
      go_ret
      have hml : m' = (M.filter (byB r)).length := by
        have h1 := OwnM.len HO.out
        rw [List.take_of_length_le (by rw [HMM.out]; exact Nat.le_refl _)] at h1
        exact h1.symm
      subst hml
      exact ⟨A', c', rfl, by have := HO.out.mono (B' := w.heap.size) (by have := HB1.out.size; omega); rwa [List.take_of_length_le (by rw [HMM.out]; exact Nat.le_refl _)] at this, HB1.out.trans (HB.out.mono HB1.out.size)⟩


set_option maxRecDepth 100000 in
set_option maxHeartbeats 4000000 in
theorem specMovesByRules_ret (r : Nat → Int) (A : Option Addr) (n c : Nat) (p : Int) (L : List Int) (w : World) (hL : L.length = n) (hn : n ≤ 1048576) (hI : Ints w A L) :
    Calls Try.prog 7 #[.agg (z9 r), .agg #[.int .i64 p, .slice A n c]] w (RetMvs w (mbL r p L).length (mbL r p L) (cR1 r p L)) := by
  have Q0 := Lib.hid ((Box.new w 31 (z9 r)).alloc (.cells #[.int .i64 p, .slice A n c] 33))
  have x0 := Box.new (w.alloc (.cells (z9 r) 31)) 33 #[.int .i64 p, .slice A n c]
  rw [World.size_alloc] at x0
  have X0 := Lib.hid x0
  have HB0 := Lib.hid (((Below.refl w.heap.size w).alloc (Nat.le_refl _) (.cells (z9 r) 31)).alloc (by simp) (.cells #[.int .i64 p, .slice A n c] 33))
  have HI0 := Lib.hid (hI.below HB0.out)
  have HL := Lib.hid hL
  clear hL hI x0
  unfold z9 at HB0 HI0 Q0 X0
  by_cases hr : ruB r = true
  · by_cases hs : s3B p L = true
    · obtain ⟨hst, hp⟩ := s3_of hs
      subst hp
      rw [mbL_yes hr hs, cR1_yes hr hs]
      have HST := Lib.hid hst
      clear hst
      unfold z9
      go_enter Try.func7, Try.ntmps7
      go_wp2_with fail
      refine (l07Is_calls r _).mono ?_
      rintro e w1 ⟨rfl, hb1⟩
      have Q1 := Lib.hid (Q0.out.below hb1 Q0.out.lt)
      have X1 := Lib.hid (X0.out.below hb1 X0.out.lt)
      have HB1 := Lib.hid (HB0.out.trans (hb1.mono HB0.out.size))
      have HI1 := Lib.hid (HI0.out.below hb1)
      clear hb1 Q0 X0 HB0 HI0
      obtain ⟨x0, x1, _, _⟩ := X1.out.two
      go_wp2_with fail
      refine (l07State_calls A n c 3 L _ HL.out hn HI1.out).mono ?_
      rintro e w2 ⟨rfl, hb2⟩
      have Q2 := Lib.hid (Q1.out.below hb2 Q1.out.lt)
      have X2 := Lib.hid (X1.out.below hb2 X1.out.lt)
      have HB2 := Lib.hid (HB1.out.trans (hb2.mono HB1.out.size))
      have HI2 := Lib.hid (HI1.out.below hb2)
      clear hb2 Q1 X1 HB1 HI1 x0 x1
      obtain ⟨x0, x1, _, _⟩ := X2.out.two
      obtain ⟨k0, k1, k2, k3, k4, k5, k6, k7, k8⟩ := (show Box _ _ _ (z9 r) from Q2.out).nine
      go_wp2_with fail
      refine (l07Moves_calls r A n c L _ HL.out HI2.out HST.out).mono ?_
      rintro e w3 ⟨A3, c3, rfl, hO, hb3⟩
      go_wp2
      go_ret2
      exact ⟨A3, c3, rfl, hO.mono HB2.out.size, HB2.out.trans (hb3.mono HB2.out.size)⟩
    · have hs' : s3B p L = false := by simpa using hs
      rw [mbL_no (fun h => hs h.2), cR1_no (fun h => hs h.2)]
      clear hs
      unfold z9
      go_enter Try.func7, Try.ntmps7
      go_wp2_with fail
      refine (l07Is_calls r _).mono ?_
      rintro e w1 ⟨rfl, hb1⟩
      have X1 := Lib.hid (X0.out.below hb1 X0.out.lt)
      have HB1 := Lib.hid (HB0.out.trans (hb1.mono HB0.out.size))
      have HI1 := Lib.hid (HI0.out.below hb1)
      clear hb1 X0 HB0 HI0
      obtain ⟨x0, x1, _, _⟩ := X1.out.two
      go_wp2_with fail
      refine (l07State_calls A n c p L _ HL.out hn HI1.out).mono ?_
      rintro e w2 ⟨rfl, hb2⟩
      have HB2 := Lib.hid (HB1.out.trans (hb2.mono HB1.out.size))
      clear hb2
      go_wp2
      go_ret2
      exact retMvs_zero rfl HB2.out
  · have hr' : ruB r = false := by simpa using hr
    rw [mbL_no (fun h => hr h.1), cR1_no (fun h => hr h.1)]
    clear hr
    unfold z9
    go_enter Try.func7, Try.ntmps7
    go_wp2_with fail
    refine (l07Is_calls r _).mono ?_
    rintro e w1 ⟨rfl, hb1⟩
    have HB1 := Lib.hid (HB0.out.trans (hb1.mono HB0.out.size))
    clear hb1
    go_wp2
    go_ret2
    exact retMvs_zero rfl HB1.out

set_option maxRecDepth 100000 in
set_option maxHeartbeats 4000000 in
theorem implMovesByRules_ret (r : Nat → Int) (hw : ∀ k, k < 9 → (Lit.int .i64 (r k)).wf = true) (A : Option Addr) (n c : Nat) (p : Int) (L : List Int) (w : World) (hL : L.length = n) (hn : n ≤ 1048576) (hcap : n ≤ c) (hc63 : c ≤ 9223372036854775807) (hI : Ints w A L) :
    Calls Try.prog 10 #[.agg (z9 r), .agg #[.int .i64 p, .slice A n c]] w (RetMvs w (mbL r p L).length (mbL r p L) (cR1 r p L)) := by
  have HWF := Lib.hid hw
  have HL := Lib.hid hL
  obtain ⟨W0, hW0⟩ : ∃ W0, W0 = ((w.alloc (.cells (z9 r) 31)).alloc (.cells #[.int .i64 p, .slice A n c] 33)).alloc (.cells #[.int .i64 p, .slice A n c] 33) := ⟨_, rfl⟩
  have hb0 : Below w.heap.size w W0 := by rw [hW0]; exact (((Below.refl _ _).alloc (Nat.le_refl _) _).alloc (by simp) _).alloc (by simp; omega) _
  have q0 : Box W0 w.heap.size 31 (z9 r) := by rw [hW0]; exact ((Box.new w _ _).alloc _).alloc _
  have x0 : Box W0 (w.heap.size + 1) 33 #[.int .i64 p, .slice A n c] := by
    have h := Box.new (w.alloc (.cells (z9 r) 31)) 33 #[.int .i64 p, .slice A n c]
    rw [World.size_alloc] at h
    rw [hW0]; exact h.alloc _
  have y0 : Box W0 (w.heap.size + 1 + 1) 33 #[.int .i64 p, .slice A n c] := by
    have h := Box.new ((w.alloc (.cells (z9 r) 31)).alloc (.cells #[.int .i64 p, .slice A n c] 33)) 33 #[.int .i64 p, .slice A n c]
    rw [World.size_alloc, World.size_alloc] at h
    rw [hW0]; exact h
  have Q0 := Lib.hid q0
  have X0 := Lib.hid x0
  have Y0 := Lib.hid y0
  have HB0 := Lib.hid hb0
  have HI0 := Lib.hid (hI.below hb0)
  have HW0 := Lib.hid hW0
  clear hw hL hI q0 x0 y0 hb0 hW0
  unfold z9 at HW0
  by_cases hc : cR1 r p L = 0
  · obtain ⟨hr, hs⟩ := cR1_is hc
    obtain ⟨hst, hp⟩ := s3_of hs
    subst hp
    rw [mbL_yes hr hs]
    have hc' : (cR1 r 3 L != 0) = false := by rw [hc]; rfl
    have HC := Lib.hid hc
    have HST := Lib.hid hst
    clear hc hr hs hst
    unfold z9
    go_enter Try.func10, Try.ntmps10
    go_wp2_with fail
    rw [← HW0.out]
    refine (codeOfRules_one r HWF.out (w.heap.size + 1 + 1) A n c 3 L W0 Y0.out HL.out hn HI0.out).mono ?_
    rintro e w1 ⟨rfl, hb1⟩
    have Q1 := Lib.hid (Q0.out.below hb1 Q0.out.lt)
    have X1 := Lib.hid (X0.out.below hb1 X0.out.lt)
    have HB1 := Lib.hid (HB0.out.trans (hb1.mono HB0.out.size))
    have HI1 := Lib.hid (HI0.out.below hb1)
    clear hb1 X0 Y0 Q0 HB0 HI0
    obtain ⟨x0, x1, _, _⟩ := X1.out.two
    obtain ⟨k0, k1, k2, k3, k4, k5, k6, k7, k8⟩ := Q1.out.nine
    go_wp2_with fail
    refine (callsIn_wide.1 (movesBy_calls 6 r A n c 3 _)).mono ?_
    rintro e w2 ⟨rfl, hw2⟩
    have D2 : Box w2 w1.heap.size 67 #[.iface 31 (.agg (z9 r))] := by rw [hw2]; exact (Box.new w1 _ _).alloc _
    have X2 : Box w2 (w1.heap.size + 1) 33 #[.int .i64 3, .slice A n c] := by
      have h := Box.new (w1.alloc (.cells #[.iface 31 (.agg (z9 r))] 67)) 33 #[.int .i64 3, .slice A n c]
      rw [World.size_alloc] at h
      rw [hw2]; exact h
    have hb2 : Below w1.heap.size w1 w2 := by rw [hw2]; exact ((Below.refl _ _).alloc (Nat.le_refl _) _).alloc (by simp) _
    have HI2 := HI1.out.below hb2
    have hz2 : w2.heap.size = w1.heap.size + 2 := by rw [hw2]; simp
    have HB2 := Lib.hid (HB1.out.trans (hb2.mono HB1.out.size))
    have HSQ := Lib.hid (movesBy1_hold 5 (w1.heap.size + 1) w1.heap.size (by omega) r A n c L HL.out hcap hc63 HST.out w2 X2 D2 HI2)
    have HBS := Lib.hid (show ∀ b, bsBy (w1.heap.size + 1) w1.heap.size A L b → b < w2.heap.size from fun b hb => by
      rcases hb with rfl | hb
      · omega
      · rcases stS_cases HI2 hb with rfl | h <;> omega)
    clear hw2 D2 X2 HI2 hb2 x0 x1 k0 k1 k2 k3 k4 k5 k6 k7 k8 Q1 X1 HB1 HI1 hz2
    go_wp2_with fail
    refine (collect_hold 42 _ tpBy _ (by unfold tpBy; decide) mvE (fun _ => rfl) (byL r L) w2 (enters_of Try.func42 (by kernel_rfl) rfl) (by have := byL_len (r := r) HST.out; omega) HBS.out HSQ.out).mono ?_
    rintro e w3 ⟨A3, c3, rfl, hO, hb3⟩
    go_wp2
    go_ret2
    rw [HC.out]
    exact ⟨A3, c3, rfl, hO.mono HB2.out.size, HB2.out.trans (hb3.mono HB2.out.size)⟩
  · have hm : mbL r p L = [] := mbL_no (fun h => hc (cR1_yes h.1 h.2))
    rw [hm]
    have hc' : (cR1 r p L != 0) = true := by simpa using hc
    clear hc hm
    unfold z9
    go_enter Try.func10, Try.ntmps10
    go_wp2_with fail
    rw [← HW0.out]
    refine (codeOfRules_one r HWF.out (w.heap.size + 1 + 1) A n c p L W0 Y0.out HL.out hn HI0.out).mono ?_
    rintro e w1 ⟨rfl, hb1⟩
    have HB1 := Lib.hid (HB0.out.trans (hb1.mono HB0.out.size))
    clear hb1
    go_wp2
    go_ret2
    exact retMvs_zero rfl HB1.out

end Go.Proofs.Ytglilhnmgfkfhaa
