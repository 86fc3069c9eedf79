/- Contracts: the neighbours of a state, by the program. -/
import Derived.Test.YtagaopdpnloblaaNbr
import Derived.Deep.AppendLies
namespace Go.Proofs.Ytagaopdpnloblaa
open Go.RowKit Go.Shelf
set_option linter.unusedVariables false
attribute [local go_sem] Oper.semAt_some

/-- A store into a box of another type keeps a list of states. -/
theorem OwnSt.setBoxed {B : Nat} {w : World} {A : Option Addr} {n c b t : Nat} {rs : List Sw} {cs : Array Value} (h : OwnSt B w A n c rs) (hb : Box w b t cs) (h1 : t ≠ 29) (h2 : t ≠ 2) (i : Nat) (u : Value) : OwnSt B (w.setCell ⟨b, i, none⟩ u) A n c rs :=
  ⟨h.1.setBoxed hb h1 i u, fun r hr => OwnG.setBoxed (h.2.1 r hr) hb h2 i u, h.2.2⟩
/-- The append of a region that draws its order, inside a fence. -/
theorem stepIn_append_lies {F : Fence} {nF : Nat} {P : Program} (w : World) {ops : Array Oper} {o : Oper} {a : Act} {K : Act → World → Prop} {Q : Exit → Act → World → Prop} {E : Prop} (hgd : o.guard = none) (s x : Operand) (t : TypeId)
    (ho : o.op = .call { callee := .builtin .append, args := #[s, x], argTypes := #[t, t] })
    (base : Nat) (e : TypeId) (i : TypeInfo) (z : Value) (size bytes : Nat) (ht : P.underlying t = some (.slice e)) (hi : P.info? e = some i) (hz : i.zero = some z)
    (hsize : i.size = size) (hby : i.bytes = bytes) (hzs : z.cells.size = size) (hsz : 0 < size)
    (v : Value) (n : Nat) (xs : List Value) (hs : a.eval s = v) (hown : w.ownsRow base e size v n xs)
    (ad : Addr) (m c : Nat) (news : List Value) (hx : a.eval x = .slice (some ad) m c) (hl : news.length = m * size) (hnews : ∀ j u, news[j]? = some u → w.cell? (ad.add j) = some u) (h1 : ∀ u ∈ news, u.oneCell' = true)
    (hm : 0 < m) (h63 : n + m ≤ maxLen) (hbytes : (n + m) * bytes ≤ 140737488355328) (hbase : base ≤ w.heap.size) (H : Nat) (hH : w.heap.size = H)
    (h : ∀ g cap w', w'.ownsRow base e size (.slice (some ⟨g, 0, none⟩) (n + m) cap) (n + m) (xs ++ news) → w.grownBy w' v.ownBlock → (v.ownBlock = some g ∨ g = H) → g < w'.heap.size → K (a.put o.dst (.slice (some ⟨g, 0, none⟩) (n + m) cap)) w') :
    if Region.wanted o (yielded ops a.tmps) = true then Oper.wpIn F nF P o a w K Q else E := by
  have hw : Region.wanted o (yielded ops a.tmps) = true := by simp [Region.wanted, hgd]
  rw [if_pos hw]
  obtain ⟨g, cap, w', hr, h2, h3, h4, h5⟩ := run_append_lies (P := P) w t o.type base e i z size bytes ht hi hz hsize hby hzs hsz v n xs hown ad m c news hl hnews h1 hm h63 hbytes hbase H hH
  unfold Oper.wpIn
  refine ⟨by simp [Oper.about, ho, resolve, Target.leads, Sem.run_pure], ?_⟩
  rw [Oper.semAt_plain F _ _ (by rw [ho]; intro c hc'; cases hc')]
  simp [execOp, ho, resolve, invoke, builtin, hs, hx, hr, Result.andThen]
  exact h g cap w' h2 h3 h4 h5

set_option maxRecDepth 100000 in
set_option maxHeartbeats 4000000 in
theorem implNeighboursOf_ret (A : Option Addr) (n c : Nat) (p : Int) (L : List Int) (w : World) (hL : L.length = n) (hn : n ≤ 1048576) (hI : Ints w A L) (hcap : n ≤ c) (hc63 : c ≤ 9223372036854775807) :
    Calls Try.prog 9 #[.agg #[.int .i64 p, .slice A n c]] w (RetSt w (nbV p L) (codeS p L)) := by
  have HL : Hid (L.length = n) := hL
  clear hL
  have hb0 : Below w.heap.size w (w.alloc (.cells #[.int .i64 p, .slice A n c] 29)) := (Below.refl _ _).alloc (Nat.le_refl _) _
  have hI0 := hI.below hb0
  by_cases hs : stateB p L = true
  · rw [(nb_yes hs).1, codeS_yes hs]
    obtain ⟨i0, hi, hz0, hz1, hz2⟩ := info_parts Try.infoSt
    have HS := Lib.hid hs
    refine (callsIn_wide (n := 6)).1 ?_
    refine callsIn_of_wp_marks Try.func9 rfl trivial ?_ rfl
    simp only [Try.ntmps9, List.size_toArray, List.length_cons, List.length_nil, Nat.reduceAdd, Nat.reduceSub, Array.replicate_succ, Array.replicate_zero, List.push_toArray, List.append_toArray, List.nil_append, List.cons_append]
    gi_wp2_with fail
    refine ⟨trivial, ?_⟩
    refine (callsIn_wide.2 (implIsState_calls A n c p L _ HL.out hn hI0)).mono ?_
    rintro e w1 ⟨rfl, hb⟩
    have HB1 := Lib.hid (hb0.trans (hb.mono (by simp)))
    have HBX := Lib.hid hb
    have hI1 := hI0.below hb
    obtain ⟨c0, c1, hz⟩ := boxed2 (hb.mono (by simp))
    have hzl : w.heap.size < w1.heap.size := hz
    clear hb
    gi_wp2_with (refine ⟨trivial, ?_⟩; gi_at_call 30; refine (legalMoves_calls _ A n c p _).mono ?_; rintro e w' ⟨rfl, rfl⟩)
    have bM := Boxed.new w1 26 (.slice none 0 0)
    have bS := Box.new (w1.alloc (.cells #[.slice none 0 0] 26)) 29 #[.int .i64 p, .slice A n c]
    simp only [World.size_alloc] at bS
    have hB0 : Below w.heap.size w ((w1.alloc (.cells #[.slice none 0 0] 26)).alloc (.cells #[.int .i64 p, .slice A n c] 29)) := (HB1.out.alloc (by omega) _).alloc (by simp; omega) _
    have bX0 := ((Box.new w 29 #[.int .i64 p, .slice A n c]).below HBX.out (by simp)).alloc (.cells #[.slice none 0 0] 26)
    have bX0 := bX0.alloc (.cells #[.int .i64 p, .slice A n c] 29)
    have hI2 : Ints ((w1.alloc (.cells #[.slice none 0 0] 26)).alloc (.cells #[.int .i64 p, .slice A n c] 29)) A L := hI1.below (((Below.refl _ _).alloc (Nat.le_refl _) _).alloc (by simp) _)
    have bM2 := bM.alloc (.cells #[.int .i64 p, .slice A n c] 29)
    have hsz : ((w1.alloc (.cells #[.slice none 0 0] 26)).alloc (.cells #[.int .i64 p, .slice A n c] 29)).heap.size = w1.heap.size + 2 := by simp
    generalize (w1.alloc (.cells #[.slice none 0 0] 26)).alloc (.cells #[.int .i64 p, .slice A n c] 29) = W0 at *
    have hSb : ∀ b, stS (w1.heap.size + 1) A L b → b ≠ w1.heap.size ∧ b < w1.heap.size + 2 := fun b hb => by
      rcases stS_cases hI hb with h | h <;> omega
    refine wpIn_rangeFunc_ownH rfl (by omega) (gf := 46) (lb := #[.pointer (some ⟨w1.heap.size + 1, 0, none⟩)]) rfl trivial (enters_of Try.func46 (by kernel_rfl) rfl)
      (legalMoves_stopsP _ (w1.heap.size + 1) (by omega) A n c p L HL.out hcap hc63 HS.out (fun m => ∃ j : Nat, m.1 = (j : Int) ∧ j < n) (fun d t hd _ => ⟨d, rfl, by rw [← HL.out]; exact hd⟩) _ bS hI2) (fun h k => keepB_t h k) (keepB_b (by intro b hb; have := hSb b hb; omega)) (Below.refl _ _) (fun _ => rfl)
      (fun pre W => (∃ A' c' rs, Boxed W w1.heap.size 26 (.slice A' pre.length c') ∧ OwnSt (w1.heap.size + 2) W A' pre.length c' rs ∧ QLof rs = nbF p L (pre.map Subtype.val)) ∧ Below w.heap.size w W ∧ Box W w.heap.size 29 #[.int .i64 p, .slice A n c] ∧ Box W (w1.heap.size + 1) 29 #[.int .i64 p, .slice A n c] ∧ w1.heap.size + 2 ≤ W.heap.size)
      (fun _ _ _ => False)
      (OwnFrom.and (Own.from (stRow_own (w1.heap.size + 2) w1.heap.size 26 (fun pre : List { m : Mv // ∃ j : Nat, m.1 = (j : Int) ∧ j < n } => pre.length) (fun pre => nbF p L (pre.map Subtype.val))) _) (OwnFrom.and (ownFrom_below (Nat.le_refl _) (by omega)) (OwnFrom.and (Own.from (box_own _ _ _) _) (OwnFrom.and (Own.from (box_own _ _ _) _) (ownFrom_size _ _)))))
      (fun _ _ _ _ _ hs _ _ => hs)
      ⟨⟨none, 0, [], bM2, OwnSt.nilS _ _, rfl⟩, hB0, bX0, bS, by omega⟩
      (fun x a' W => ∃ Bx, w1.heap.size + 1 < Bx ∧ Box W Bx 51 #[.int .i64 x.1.1, .int .i64 x.1.2.1, .int .i64 x.1.2.2] ∧ a' = { tmps := #[.agg #[.int .i64 p, .slice A n c], .pointer (some ⟨w.heap.size, 0, none⟩), .slice none 0 0, .int .i64 0, .pointer (some ⟨w1.heap.size, 0, none⟩), .pointer (some ⟨Bx, 0, none⟩), .agg #[.int .i64 p, .slice A n c], .bool true, .bool false, .agg #[.int .i64 p, .slice A n c], .func (.func 46) #[] #[.pointer (some ⟨w1.heap.size + 1, 0, none⟩)], mvV x.1, undef, undef, undef, undef, undef, undef, undef], defers := [] })
      (fun x a' _ X Y row hs hg hr => by obtain ⟨Bx, h1, h2, h3⟩ := hs; exact ⟨Bx, h1, box_own Bx 51 _ () X Y row h2 hg (fun r e => (hr r e).2), h3⟩)
      ?assign ?body ?done ?stop
    case assign =>
      rintro l pre ⟨⟨x1, x2, x3⟩, hx⟩ W K ⟨⟨A', c', rs, hv, hrow, hq⟩, hB, bX, bC, hW⟩ hK
      have hlt := hv.lt
      have hle := hB.size
      dsimp only [mvV] at hK ⊢
      gi_wp2
      exact hK _ _ ((KeepsOthers.alloc _ _).from _) (keepB_below ((Below.refl W.heap.size W).alloc (Nat.le_refl _) _) (fun b hb => by have := hSb b hb; omega)) ⟨⟨A', c', rs, hv.alloc _, hrow.below ((Below.refl W.heap.size W).alloc (Nat.le_refl _) _), hq⟩, hB.alloc hle _, bX.alloc _, bC.alloc _, by simp; omega⟩ ⟨W.heap.size, by omega, Box.new W 51 _, rfl⟩
    case body =>
      rintro l pre ⟨⟨x1, x2, x3⟩, j, hj, hjn⟩ a' W hl ⟨r, hr⟩ ⟨⟨A', c', rs, hv, hrow, hq⟩, hB, bX, bC, hW⟩ ⟨Bx, hBx, bM', rfl⟩ hlt
      dsimp only at hj
      subst hj
      dsimp only [mvV] at bM' ⊢
      have hc := hv.cell
      have hfz := hv.frozen
      obtain ⟨m0, m1, m2⟩ := bM'.three
      obtain ⟨s0, s1, _, _⟩ := bX.two
      have hle := hB.size
      have hnW := hv.lt
      have hnw1 : w.heap.size ≤ w1.heap.size := by omega
      have HN := Lib.hid (show ∀ b, stS (w1.heap.size + 1) A L b → b < W.heap.size ∧ some b ≠ (Value.slice A' pre.length c').ownBlock ∧ b ≠ w1.heap.size from fun b hb => ⟨by have := hSb b hb; omega, fun e => by
        have h1 := ows_bk hrow.1 b e.symm
        have h2 := hSb b hb
        omega, (hSb b hb).1⟩)
      have HIW := Lib.hid (show Ints W.drew A L from (show Ints W A L from hI.below hB))
      have HR := Lib.hid hrow
      have HQ := Lib.hid hq
      have HV := Lib.hid hv
      have HBB := Lib.hid hB
      have HX := Lib.hid bX
      have HC := Lib.hid bC
      have hold := Lib.hid hrow.rows_lt
      have hd1 : 1 ≤ 6 - 1 - 1 := by omega
      have hmx : Try.prog.follows .mixedOrders = true := by kernel_rfl
      clear hrow hq hv hB bX bC
      gi_wp2
      refine wpIn_region_any (by assumption) ?_
      change wpAnyIn _ _ _ _ _ _ _ _ _ (World.drew _)
      refine wpAnyIn_ready (rs := [0, 1, 2]) (by kernel_rfl) (by simp) ?_
      refine AllReadyIn.cons rfl (fun K hK => ?_) (AllReadyIn.cons rfl (fun K hK => ?_) (AllReadyIn.cons rfl (fun K hK => ?_) AllReadyIn.nil))
      · go_simp
        try refine hK _ _ ?_
        try clear hK K
        refine wpAnyIn_ready (rs := [1, 2]) (by kernel_rfl) (by simp) ?_
        refine AllReadyIn.cons rfl (fun K hK => ?_) (AllReadyIn.cons rfl (fun K hK => ?_) AllReadyIn.nil)
        · go_simp
          try refine hK _ _ ?_
          try clear hK K
          refine wpAnyIn_ready (rs := [2]) (by kernel_rfl) (by simp) ?_
          refine AllReadyIn.cons rfl (fun K hK => ?_) AllReadyIn.nil
          go_simp
          try refine hK _ _ ?_
          try clear hK K
          refine wpAnyIn_ready (rs := [3]) (by kernel_rfl) (by simp) ?_
          refine AllReadyIn.cons rfl (fun K hK => ?_) AllReadyIn.nil
          go_simp
          gi_wp2_with (refine ⟨trivial, ?_⟩; gi_at_call 31; refine (CallsIn.inRound l (callsIn_wide.2 (afterMove_calls A n c p L j x2 x3 _ HL.out hn hjn HIW.out))).mono ?_; rintro e w2 ⟨A3, c3, rfl, hO3, hb3⟩; have HW3 := Lib.hid (undrew hb3); have HO3 : Hid (Own W.heap.size w2 A3 n c3 (L.set j x3)) := hO3; have hv2 := Boxed.kept (show Boxed W.drew _ _ _ from HV.out) (grown_of_below hb3) (by simp); have hc2 := hv2.cell; have HV2 := Lib.hid hv2; have hs2 := HW3.out.size; have hnw2 : w1.heap.size < w2.heap.size := Nat.lt_of_lt_of_le hnW hs2; have HR2 := Lib.hid (HR.out.below HW3.out); clear hO3 hb3 hv2)
          try refine hK _ _ ?_
          try clear hK K
          refine wpAnyIn_ready (rs := [4]) (by kernel_rfl) (by simp) ?_
          refine AllReadyIn.cons rfl (fun K hK => ?_) AllReadyIn.nil
          go_simp
          try refine hK _ _ ?_
          try clear hK K
          refine wpAnyIn_ready (rs := [5]) (by kernel_rfl) (by simp) ?_
          refine AllReadyIn.cons rfl (fun K hK => ?_) AllReadyIn.nil
          refine stepIn_append_lies (w2.alloc (.cells #[.int .i64 p, .slice A3 n c3] 29)) rfl _ _ 26 rfl (w1.heap.size + 2) 29 i0 (.agg #[.int .i64 0, .slice none 0 0]) 2 32 Try.underlying26 hi hz0 hz1 hz2 rfl (by decide) (.slice A' pre.length c') pre.length (stCells rs) rfl (HR2.out.1.alloc _) ⟨w2.heap.size, 0, none⟩ 1 1 [.int .i64 p, .slice A3 n c3] rfl rfl (World.news_of_block (cs := #[.int .i64 p, .slice A3 n c3]) (t := 29) (fr := (0, 0)) (heap_alloc_new w2 _)) (by simp [Value.oneCell']) (by omega) (by unfold maxLen; omega) (by omega) (by simp; omega) (w2.heap.size + 1) (by simp) ?_
          intro gg cap w4 hown1 hgrow hat hlt4
          have HOW := Lib.hid hown1
          have HGR := Lib.hid hgrow
          obtain ⟨hv4, hv5, _, hk5, hb5⟩ := HV2.out.appended (n₀ := w.heap.size) (by decide) (HR2.out.1.mono (by omega)) (by omega) (by omega) (OwnG.mono hown1 (by omega)) hgrow
          have hc4 := hv4.cell
          have hf4 := hv4.frozen
          have HV4 := Lib.hid hv4
          have HV5 := Lib.hid hv5
          have HK5 := Lib.hid hk5
          have HB5 := Lib.hid hb5
          clear hown1 hgrow hat hv4 hv5 hk5 hb5
          try refine hK _ _ ?_
          try clear hK K
          refine wpAnyIn_ready (rs := [6]) (by kernel_rfl) (by simp) ?_
          refine AllReadyIn.cons rfl (fun K hK => ?_) AllReadyIn.nil
          go_simp
          try refine hK _ _ ?_
          try clear hK K
          refine wpAnyIn_done (by kernel_rfl) ?_ _
          have hkb := keepB_appended (u := .slice (some ⟨gg, 0, none⟩) (pre.length + 1) cap) (B := w1.heap.size) (S := fun b => b < w1.heap.size + 2 ∧ b ≠ w1.heap.size) HGR.out (fun b hb => ⟨by omega, fun e => by have h1 := ows_bk HR2.out.1 b e.symm; omega, hb.2⟩)
          have hsz5 := HB5.out.size
          have HS5 := OwnSt.snoc (r := ⟨p, A3, n, c3, c3, L.set j x3⟩) HR2.out (HO3.out.mono hW) (fun g (hA : A3 = some ⟨g, 0, none⟩) => by have h1 := HO3.out; rw [hA] at h1; exact (ownG_lt h1).1) hold.out HOW.out HGR.out
          have hLe := HB5.out.size
          refine ⟨((keepsOthers_of_below HW3.out).trans HK5.out).from _, fun b hb => ((hkb b ⟨(hSb b hb).2, (hSb b hb).1⟩).trans (HW3.out.block b (HN.out b hb).1)), ⟨⟨some ⟨gg, 0, none⟩, cap, rs ++ [⟨p, A3, n, c3, c3, L.set j x3⟩], by rw [List.length_append]; exact HV5.out, by rw [List.length_append]; exact HS5.setBoxed HV4.out (by decide) (by decide) 0 _, ?_⟩, HBB.out.trans ((HW3.out.mono hle).trans HB5.out), (hkb _ ⟨by omega, by omega⟩).trans (HX.out.below HW3.out HX.out.lt), (hkb _ ⟨by omega, by omega⟩).trans (HC.out.below HW3.out HC.out.lt), by simp at hsz5 ⊢; omega⟩⟩
          unfold QLof
          rw [List.map_append, List.map_append]
          unfold QLof at HQ
          rw [HQ.out]
          exact (nbF_snoc p L (pre.map Subtype.val) ((j : Int), x2, x3)).symm
        · go_simp
          try refine hK _ _ ?_
          try clear hK K
          refine wpAnyIn_ready (rs := [1]) (by kernel_rfl) (by simp) ?_
          refine AllReadyIn.cons rfl (fun K hK => ?_) AllReadyIn.nil
          go_simp
          try refine hK _ _ ?_
          try clear hK K
          refine wpAnyIn_ready (rs := [3]) (by kernel_rfl) (by simp) ?_
          refine AllReadyIn.cons rfl (fun K hK => ?_) AllReadyIn.nil
          go_simp
          gi_wp2_with (refine ⟨trivial, ?_⟩; gi_at_call 31; refine (CallsIn.inRound l (callsIn_wide.2 (afterMove_calls A n c p L j x2 x3 _ HL.out hn hjn HIW.out))).mono ?_; rintro e w2 ⟨A3, c3, rfl, hO3, hb3⟩; have HW3 := Lib.hid (undrew hb3); have HO3 : Hid (Own W.heap.size w2 A3 n c3 (L.set j x3)) := hO3; have hv2 := Boxed.kept (show Boxed W.drew _ _ _ from HV.out) (grown_of_below hb3) (by simp); have hc2 := hv2.cell; have HV2 := Lib.hid hv2; have hs2 := HW3.out.size; have hnw2 : w1.heap.size < w2.heap.size := Nat.lt_of_lt_of_le hnW hs2; have HR2 := Lib.hid (HR.out.below HW3.out); clear hO3 hb3 hv2)
          try refine hK _ _ ?_
          try clear hK K
          refine wpAnyIn_ready (rs := [4]) (by kernel_rfl) (by simp) ?_
          refine AllReadyIn.cons rfl (fun K hK => ?_) AllReadyIn.nil
          go_simp
          try refine hK _ _ ?_
          try clear hK K
          refine wpAnyIn_ready (rs := [5]) (by kernel_rfl) (by simp) ?_
          refine AllReadyIn.cons rfl (fun K hK => ?_) AllReadyIn.nil
          refine stepIn_append_lies (w2.alloc (.cells #[.int .i64 p, .slice A3 n c3] 29)) rfl _ _ 26 rfl (w1.heap.size + 2) 29 i0 (.agg #[.int .i64 0, .slice none 0 0]) 2 32 Try.underlying26 hi hz0 hz1 hz2 rfl (by decide) (.slice A' pre.length c') pre.length (stCells rs) rfl (HR2.out.1.alloc _) ⟨w2.heap.size, 0, none⟩ 1 1 [.int .i64 p, .slice A3 n c3] rfl rfl (World.news_of_block (cs := #[.int .i64 p, .slice A3 n c3]) (t := 29) (fr := (0, 0)) (heap_alloc_new w2 _)) (by simp [Value.oneCell']) (by omega) (by unfold maxLen; omega) (by omega) (by simp; omega) (w2.heap.size + 1) (by simp) ?_
          intro gg cap w4 hown1 hgrow hat hlt4
          have HOW := Lib.hid hown1
          have HGR := Lib.hid hgrow
          obtain ⟨hv4, hv5, _, hk5, hb5⟩ := HV2.out.appended (n₀ := w.heap.size) (by decide) (HR2.out.1.mono (by omega)) (by omega) (by omega) (OwnG.mono hown1 (by omega)) hgrow
          have hc4 := hv4.cell
          have hf4 := hv4.frozen
          have HV4 := Lib.hid hv4
          have HV5 := Lib.hid hv5
          have HK5 := Lib.hid hk5
          have HB5 := Lib.hid hb5
          clear hown1 hgrow hat hv4 hv5 hk5 hb5
          try refine hK _ _ ?_
          try clear hK K
          refine wpAnyIn_ready (rs := [6]) (by kernel_rfl) (by simp) ?_
          refine AllReadyIn.cons rfl (fun K hK => ?_) AllReadyIn.nil
          go_simp
          try refine hK _ _ ?_
          try clear hK K
          refine wpAnyIn_done (by kernel_rfl) ?_ _
          have hkb := keepB_appended (u := .slice (some ⟨gg, 0, none⟩) (pre.length + 1) cap) (B := w1.heap.size) (S := fun b => b < w1.heap.size + 2 ∧ b ≠ w1.heap.size) HGR.out (fun b hb => ⟨by omega, fun e => by have h1 := ows_bk HR2.out.1 b e.symm; omega, hb.2⟩)
          have hsz5 := HB5.out.size
          have HS5 := OwnSt.snoc (r := ⟨p, A3, n, c3, c3, L.set j x3⟩) HR2.out (HO3.out.mono hW) (fun g (hA : A3 = some ⟨g, 0, none⟩) => by have h1 := HO3.out; rw [hA] at h1; exact (ownG_lt h1).1) hold.out HOW.out HGR.out
          have hLe := HB5.out.size
          refine ⟨((keepsOthers_of_below HW3.out).trans HK5.out).from _, fun b hb => ((hkb b ⟨(hSb b hb).2, (hSb b hb).1⟩).trans (HW3.out.block b (HN.out b hb).1)), ⟨⟨some ⟨gg, 0, none⟩, cap, rs ++ [⟨p, A3, n, c3, c3, L.set j x3⟩], by rw [List.length_append]; exact HV5.out, by rw [List.length_append]; exact HS5.setBoxed HV4.out (by decide) (by decide) 0 _, ?_⟩, HBB.out.trans ((HW3.out.mono hle).trans HB5.out), (hkb _ ⟨by omega, by omega⟩).trans (HX.out.below HW3.out HX.out.lt), (hkb _ ⟨by omega, by omega⟩).trans (HC.out.below HW3.out HC.out.lt), by simp at hsz5 ⊢; omega⟩⟩
          unfold QLof
          rw [List.map_append, List.map_append]
          unfold QLof at HQ
          rw [HQ.out]
          exact (nbF_snoc p L (pre.map Subtype.val) ((j : Int), x2, x3)).symm
      · go_simp
        try refine hK _ _ ?_
        try clear hK K
        refine wpAnyIn_ready (rs := [0, 2]) (by kernel_rfl) (by simp) ?_
        refine AllReadyIn.cons rfl (fun K hK => ?_) (AllReadyIn.cons rfl (fun K hK => ?_) AllReadyIn.nil)
        · go_simp
          try refine hK _ _ ?_
          try clear hK K
          refine wpAnyIn_ready (rs := [2]) (by kernel_rfl) (by simp) ?_
          refine AllReadyIn.cons rfl (fun K hK => ?_) AllReadyIn.nil
          go_simp
          try refine hK _ _ ?_
          try clear hK K
          refine wpAnyIn_ready (rs := [3]) (by kernel_rfl) (by simp) ?_
          refine AllReadyIn.cons rfl (fun K hK => ?_) AllReadyIn.nil
          go_simp
          gi_wp2_with (refine ⟨trivial, ?_⟩; gi_at_call 31; refine (CallsIn.inRound l (callsIn_wide.2 (afterMove_calls A n c p L j x2 x3 _ HL.out hn hjn HIW.out))).mono ?_; rintro e w2 ⟨A3, c3, rfl, hO3, hb3⟩; have HW3 := Lib.hid (undrew hb3); have HO3 : Hid (Own W.heap.size w2 A3 n c3 (L.set j x3)) := hO3; have hv2 := Boxed.kept (show Boxed W.drew _ _ _ from HV.out) (grown_of_below hb3) (by simp); have hc2 := hv2.cell; have HV2 := Lib.hid hv2; have hs2 := HW3.out.size; have hnw2 : w1.heap.size < w2.heap.size := Nat.lt_of_lt_of_le hnW hs2; have HR2 := Lib.hid (HR.out.below HW3.out); clear hO3 hb3 hv2)
          try refine hK _ _ ?_
          try clear hK K
          refine wpAnyIn_ready (rs := [4]) (by kernel_rfl) (by simp) ?_
          refine AllReadyIn.cons rfl (fun K hK => ?_) AllReadyIn.nil
          go_simp
          try refine hK _ _ ?_
          try clear hK K
          refine wpAnyIn_ready (rs := [5]) (by kernel_rfl) (by simp) ?_
          refine AllReadyIn.cons rfl (fun K hK => ?_) AllReadyIn.nil
          refine stepIn_append_lies (w2.alloc (.cells #[.int .i64 p, .slice A3 n c3] 29)) rfl _ _ 26 rfl (w1.heap.size + 2) 29 i0 (.agg #[.int .i64 0, .slice none 0 0]) 2 32 Try.underlying26 hi hz0 hz1 hz2 rfl (by decide) (.slice A' pre.length c') pre.length (stCells rs) rfl (HR2.out.1.alloc _) ⟨w2.heap.size, 0, none⟩ 1 1 [.int .i64 p, .slice A3 n c3] rfl rfl (World.news_of_block (cs := #[.int .i64 p, .slice A3 n c3]) (t := 29) (fr := (0, 0)) (heap_alloc_new w2 _)) (by simp [Value.oneCell']) (by omega) (by unfold maxLen; omega) (by omega) (by simp; omega) (w2.heap.size + 1) (by simp) ?_
          intro gg cap w4 hown1 hgrow hat hlt4
          have HOW := Lib.hid hown1
          have HGR := Lib.hid hgrow
          obtain ⟨hv4, hv5, _, hk5, hb5⟩ := HV2.out.appended (n₀ := w.heap.size) (by decide) (HR2.out.1.mono (by omega)) (by omega) (by omega) (OwnG.mono hown1 (by omega)) hgrow
          have hc4 := hv4.cell
          have hf4 := hv4.frozen
          have HV4 := Lib.hid hv4
          have HV5 := Lib.hid hv5
          have HK5 := Lib.hid hk5
          have HB5 := Lib.hid hb5
          clear hown1 hgrow hat hv4 hv5 hk5 hb5
          try refine hK _ _ ?_
          try clear hK K
          refine wpAnyIn_ready (rs := [6]) (by kernel_rfl) (by simp) ?_
          refine AllReadyIn.cons rfl (fun K hK => ?_) AllReadyIn.nil
          go_simp
          try refine hK _ _ ?_
          try clear hK K
          refine wpAnyIn_done (by kernel_rfl) ?_ _
          have hkb := keepB_appended (u := .slice (some ⟨gg, 0, none⟩) (pre.length + 1) cap) (B := w1.heap.size) (S := fun b => b < w1.heap.size + 2 ∧ b ≠ w1.heap.size) HGR.out (fun b hb => ⟨by omega, fun e => by have h1 := ows_bk HR2.out.1 b e.symm; omega, hb.2⟩)
          have hsz5 := HB5.out.size
          have HS5 := OwnSt.snoc (r := ⟨p, A3, n, c3, c3, L.set j x3⟩) HR2.out (HO3.out.mono hW) (fun g (hA : A3 = some ⟨g, 0, none⟩) => by have h1 := HO3.out; rw [hA] at h1; exact (ownG_lt h1).1) hold.out HOW.out HGR.out
          have hLe := HB5.out.size
          refine ⟨((keepsOthers_of_below HW3.out).trans HK5.out).from _, fun b hb => ((hkb b ⟨(hSb b hb).2, (hSb b hb).1⟩).trans (HW3.out.block b (HN.out b hb).1)), ⟨⟨some ⟨gg, 0, none⟩, cap, rs ++ [⟨p, A3, n, c3, c3, L.set j x3⟩], by rw [List.length_append]; exact HV5.out, by rw [List.length_append]; exact HS5.setBoxed HV4.out (by decide) (by decide) 0 _, ?_⟩, HBB.out.trans ((HW3.out.mono hle).trans HB5.out), (hkb _ ⟨by omega, by omega⟩).trans (HX.out.below HW3.out HX.out.lt), (hkb _ ⟨by omega, by omega⟩).trans (HC.out.below HW3.out HC.out.lt), by simp at hsz5 ⊢; omega⟩⟩
          unfold QLof
          rw [List.map_append, List.map_append]
          unfold QLof at HQ
          rw [HQ.out]
          exact (nbF_snoc p L (pre.map Subtype.val) ((j : Int), x2, x3)).symm
        · go_simp
          try refine hK _ _ ?_
          try clear hK K
          refine wpAnyIn_ready (rs := [0, 3]) (by kernel_rfl) (by simp) ?_
          refine AllReadyIn.cons rfl (fun K hK => ?_) (AllReadyIn.cons rfl (fun K hK => ?_) AllReadyIn.nil)
          · go_simp
            try refine hK _ _ ?_
            try clear hK K
            refine wpAnyIn_ready (rs := [3]) (by kernel_rfl) (by simp) ?_
            refine AllReadyIn.cons rfl (fun K hK => ?_) AllReadyIn.nil
            go_simp
            gi_wp2_with (refine ⟨trivial, ?_⟩; gi_at_call 31; refine (CallsIn.inRound l (callsIn_wide.2 (afterMove_calls A n c p L j x2 x3 _ HL.out hn hjn HIW.out))).mono ?_; rintro e w2 ⟨A3, c3, rfl, hO3, hb3⟩; have HW3 := Lib.hid (undrew hb3); have HO3 : Hid (Own W.heap.size w2 A3 n c3 (L.set j x3)) := hO3; have hv2 := Boxed.kept (show Boxed W.drew _ _ _ from HV.out) (grown_of_below hb3) (by simp); have hc2 := hv2.cell; have HV2 := Lib.hid hv2; have hs2 := HW3.out.size; have hnw2 : w1.heap.size < w2.heap.size := Nat.lt_of_lt_of_le hnW hs2; have HR2 := Lib.hid (HR.out.below HW3.out); clear hO3 hb3 hv2)
            try refine hK _ _ ?_
            try clear hK K
            refine wpAnyIn_ready (rs := [4]) (by kernel_rfl) (by simp) ?_
            refine AllReadyIn.cons rfl (fun K hK => ?_) AllReadyIn.nil
            go_simp
            try refine hK _ _ ?_
            try clear hK K
            refine wpAnyIn_ready (rs := [5]) (by kernel_rfl) (by simp) ?_
            refine AllReadyIn.cons rfl (fun K hK => ?_) AllReadyIn.nil
            refine stepIn_append_lies (w2.alloc (.cells #[.int .i64 p, .slice A3 n c3] 29)) rfl _ _ 26 rfl (w1.heap.size + 2) 29 i0 (.agg #[.int .i64 0, .slice none 0 0]) 2 32 Try.underlying26 hi hz0 hz1 hz2 rfl (by decide) (.slice A' pre.length c') pre.length (stCells rs) rfl (HR2.out.1.alloc _) ⟨w2.heap.size, 0, none⟩ 1 1 [.int .i64 p, .slice A3 n c3] rfl rfl (World.news_of_block (cs := #[.int .i64 p, .slice A3 n c3]) (t := 29) (fr := (0, 0)) (heap_alloc_new w2 _)) (by simp [Value.oneCell']) (by omega) (by unfold maxLen; omega) (by omega) (by simp; omega) (w2.heap.size + 1) (by simp) ?_
            intro gg cap w4 hown1 hgrow hat hlt4
            have HOW := Lib.hid hown1
            have HGR := Lib.hid hgrow
            obtain ⟨hv4, hv5, _, hk5, hb5⟩ := HV2.out.appended (n₀ := w.heap.size) (by decide) (HR2.out.1.mono (by omega)) (by omega) (by omega) (OwnG.mono hown1 (by omega)) hgrow
            have hc4 := hv4.cell
            have hf4 := hv4.frozen
            have HV4 := Lib.hid hv4
            have HV5 := Lib.hid hv5
            have HK5 := Lib.hid hk5
            have HB5 := Lib.hid hb5
            clear hown1 hgrow hat hv4 hv5 hk5 hb5
            try refine hK _ _ ?_
            try clear hK K
            refine wpAnyIn_ready (rs := [6]) (by kernel_rfl) (by simp) ?_
            refine AllReadyIn.cons rfl (fun K hK => ?_) AllReadyIn.nil
            go_simp
            try refine hK _ _ ?_
            try clear hK K
            refine wpAnyIn_done (by kernel_rfl) ?_ _
            have hkb := keepB_appended (u := .slice (some ⟨gg, 0, none⟩) (pre.length + 1) cap) (B := w1.heap.size) (S := fun b => b < w1.heap.size + 2 ∧ b ≠ w1.heap.size) HGR.out (fun b hb => ⟨by omega, fun e => by have h1 := ows_bk HR2.out.1 b e.symm; omega, hb.2⟩)
            have hsz5 := HB5.out.size
            have HS5 := OwnSt.snoc (r := ⟨p, A3, n, c3, c3, L.set j x3⟩) HR2.out (HO3.out.mono hW) (fun g (hA : A3 = some ⟨g, 0, none⟩) => by have h1 := HO3.out; rw [hA] at h1; exact (ownG_lt h1).1) hold.out HOW.out HGR.out
            have hLe := HB5.out.size
            refine ⟨((keepsOthers_of_below HW3.out).trans HK5.out).from _, fun b hb => ((hkb b ⟨(hSb b hb).2, (hSb b hb).1⟩).trans (HW3.out.block b (HN.out b hb).1)), ⟨⟨some ⟨gg, 0, none⟩, cap, rs ++ [⟨p, A3, n, c3, c3, L.set j x3⟩], by rw [List.length_append]; exact HV5.out, by rw [List.length_append]; exact HS5.setBoxed HV4.out (by decide) (by decide) 0 _, ?_⟩, HBB.out.trans ((HW3.out.mono hle).trans HB5.out), (hkb _ ⟨by omega, by omega⟩).trans (HX.out.below HW3.out HX.out.lt), (hkb _ ⟨by omega, by omega⟩).trans (HC.out.below HW3.out HC.out.lt), by simp at hsz5 ⊢; omega⟩⟩
            unfold QLof
            rw [List.map_append, List.map_append]
            unfold QLof at HQ
            rw [HQ.out]
            exact (nbF_snoc p L (pre.map Subtype.val) ((j : Int), x2, x3)).symm
          · go_simp
            gi_wp2_with (refine ⟨trivial, ?_⟩; gi_at_call 31; refine (CallsIn.inRound l (callsIn_wide.2 (afterMove_calls A n c p L j x2 x3 _ HL.out hn hjn HIW.out))).mono ?_; rintro e w2 ⟨A3, c3, rfl, hO3, hb3⟩; have HW3 := Lib.hid (undrew hb3); have HO3 : Hid (Own W.heap.size w2 A3 n c3 (L.set j x3)) := hO3; have hv2 := Boxed.kept (show Boxed W.drew _ _ _ from HV.out) (grown_of_below hb3) (by simp); have hc2 := hv2.cell; have HV2 := Lib.hid hv2; have hs2 := HW3.out.size; have hnw2 : w1.heap.size < w2.heap.size := Nat.lt_of_lt_of_le hnW hs2; have HR2 := Lib.hid (HR.out.below HW3.out); clear hO3 hb3 hv2)
            try refine hK _ _ ?_
            try clear hK K
            refine wpAnyIn_ready (rs := [0, 4]) (by kernel_rfl) (by simp) ?_
            refine AllReadyIn.cons rfl (fun K hK => ?_) (AllReadyIn.cons rfl (fun K hK => ?_) AllReadyIn.nil)
            · go_simp
              try refine hK _ _ ?_
              try clear hK K
              refine wpAnyIn_ready (rs := [4]) (by kernel_rfl) (by simp) ?_
              refine AllReadyIn.cons rfl (fun K hK => ?_) AllReadyIn.nil
              go_simp
              try refine hK _ _ ?_
              try clear hK K
              refine wpAnyIn_ready (rs := [5]) (by kernel_rfl) (by simp) ?_
              refine AllReadyIn.cons rfl (fun K hK => ?_) AllReadyIn.nil
              refine stepIn_append_lies (w2.alloc (.cells #[.int .i64 p, .slice A3 n c3] 29)) rfl _ _ 26 rfl (w1.heap.size + 2) 29 i0 (.agg #[.int .i64 0, .slice none 0 0]) 2 32 Try.underlying26 hi hz0 hz1 hz2 rfl (by decide) (.slice A' pre.length c') pre.length (stCells rs) rfl (HR2.out.1.alloc _) ⟨w2.heap.size, 0, none⟩ 1 1 [.int .i64 p, .slice A3 n c3] rfl rfl (World.news_of_block (cs := #[.int .i64 p, .slice A3 n c3]) (t := 29) (fr := (0, 0)) (heap_alloc_new w2 _)) (by simp [Value.oneCell']) (by omega) (by unfold maxLen; omega) (by omega) (by simp; omega) (w2.heap.size + 1) (by simp) ?_
              intro gg cap w4 hown1 hgrow hat hlt4
              have HOW := Lib.hid hown1
              have HGR := Lib.hid hgrow
              obtain ⟨hv4, hv5, _, hk5, hb5⟩ := HV2.out.appended (n₀ := w.heap.size) (by decide) (HR2.out.1.mono (by omega)) (by omega) (by omega) (OwnG.mono hown1 (by omega)) hgrow
              have hc4 := hv4.cell
              have hf4 := hv4.frozen
              have HV4 := Lib.hid hv4
              have HV5 := Lib.hid hv5
              have HK5 := Lib.hid hk5
              have HB5 := Lib.hid hb5
              clear hown1 hgrow hat hv4 hv5 hk5 hb5
              try refine hK _ _ ?_
              try clear hK K
              refine wpAnyIn_ready (rs := [6]) (by kernel_rfl) (by simp) ?_
              refine AllReadyIn.cons rfl (fun K hK => ?_) AllReadyIn.nil
              go_simp
              try refine hK _ _ ?_
              try clear hK K
              refine wpAnyIn_done (by kernel_rfl) ?_ _
              have hkb := keepB_appended (u := .slice (some ⟨gg, 0, none⟩) (pre.length + 1) cap) (B := w1.heap.size) (S := fun b => b < w1.heap.size + 2 ∧ b ≠ w1.heap.size) HGR.out (fun b hb => ⟨by omega, fun e => by have h1 := ows_bk HR2.out.1 b e.symm; omega, hb.2⟩)
              have hsz5 := HB5.out.size
              have HS5 := OwnSt.snoc (r := ⟨p, A3, n, c3, c3, L.set j x3⟩) HR2.out (HO3.out.mono hW) (fun g (hA : A3 = some ⟨g, 0, none⟩) => by have h1 := HO3.out; rw [hA] at h1; exact (ownG_lt h1).1) hold.out HOW.out HGR.out
              have hLe := HB5.out.size
              refine ⟨((keepsOthers_of_below HW3.out).trans HK5.out).from _, fun b hb => ((hkb b ⟨(hSb b hb).2, (hSb b hb).1⟩).trans (HW3.out.block b (HN.out b hb).1)), ⟨⟨some ⟨gg, 0, none⟩, cap, rs ++ [⟨p, A3, n, c3, c3, L.set j x3⟩], by rw [List.length_append]; exact HV5.out, by rw [List.length_append]; exact HS5.setBoxed HV4.out (by decide) (by decide) 0 _, ?_⟩, HBB.out.trans ((HW3.out.mono hle).trans HB5.out), (hkb _ ⟨by omega, by omega⟩).trans (HX.out.below HW3.out HX.out.lt), (hkb _ ⟨by omega, by omega⟩).trans (HC.out.below HW3.out HC.out.lt), by simp at hsz5 ⊢; omega⟩⟩
              unfold QLof
              rw [List.map_append, List.map_append]
              unfold QLof at HQ
              rw [HQ.out]
              exact (nbF_snoc p L (pre.map Subtype.val) ((j : Int), x2, x3)).symm
            · go_simp
              try refine hK _ _ ?_
              try clear hK K
              refine wpAnyIn_ready (rs := [0]) (by kernel_rfl) (by simp) ?_
              refine AllReadyIn.cons rfl (fun K hK => ?_) AllReadyIn.nil
              go_simp
              try refine hK _ _ ?_
              try clear hK K
              refine wpAnyIn_ready (rs := [5]) (by kernel_rfl) (by simp) ?_
              refine AllReadyIn.cons rfl (fun K hK => ?_) AllReadyIn.nil
              refine stepIn_append_lies (w2.alloc (.cells #[.int .i64 p, .slice A3 n c3] 29)) rfl _ _ 26 rfl (w1.heap.size + 2) 29 i0 (.agg #[.int .i64 0, .slice none 0 0]) 2 32 Try.underlying26 hi hz0 hz1 hz2 rfl (by decide) (.slice A' pre.length c') pre.length (stCells rs) rfl (HR2.out.1.alloc _) ⟨w2.heap.size, 0, none⟩ 1 1 [.int .i64 p, .slice A3 n c3] rfl rfl (World.news_of_block (cs := #[.int .i64 p, .slice A3 n c3]) (t := 29) (fr := (0, 0)) (heap_alloc_new w2 _)) (by simp [Value.oneCell']) (by omega) (by unfold maxLen; omega) (by omega) (by simp; omega) (w2.heap.size + 1) (by simp) ?_
              intro gg cap w4 hown1 hgrow hat hlt4
              have HOW := Lib.hid hown1
              have HGR := Lib.hid hgrow
              obtain ⟨hv4, hv5, _, hk5, hb5⟩ := HV2.out.appended (n₀ := w.heap.size) (by decide) (HR2.out.1.mono (by omega)) (by omega) (by omega) (OwnG.mono hown1 (by omega)) hgrow
              have hc4 := hv4.cell
              have hf4 := hv4.frozen
              have HV4 := Lib.hid hv4
              have HV5 := Lib.hid hv5
              have HK5 := Lib.hid hk5
              have HB5 := Lib.hid hb5
              clear hown1 hgrow hat hv4 hv5 hk5 hb5
              try refine hK _ _ ?_
              try clear hK K
              refine wpAnyIn_ready (rs := [6]) (by kernel_rfl) (by simp) ?_
              refine AllReadyIn.cons rfl (fun K hK => ?_) AllReadyIn.nil
              go_simp
              try refine hK _ _ ?_
              try clear hK K
              refine wpAnyIn_done (by kernel_rfl) ?_ _
              have hkb := keepB_appended (u := .slice (some ⟨gg, 0, none⟩) (pre.length + 1) cap) (B := w1.heap.size) (S := fun b => b < w1.heap.size + 2 ∧ b ≠ w1.heap.size) HGR.out (fun b hb => ⟨by omega, fun e => by have h1 := ows_bk HR2.out.1 b e.symm; omega, hb.2⟩)
              have hsz5 := HB5.out.size
              have HS5 := OwnSt.snoc (r := ⟨p, A3, n, c3, c3, L.set j x3⟩) HR2.out (HO3.out.mono hW) (fun g (hA : A3 = some ⟨g, 0, none⟩) => by have h1 := HO3.out; rw [hA] at h1; exact (ownG_lt h1).1) hold.out HOW.out HGR.out
              have hLe := HB5.out.size
              refine ⟨((keepsOthers_of_below HW3.out).trans HK5.out).from _, fun b hb => ((hkb b ⟨(hSb b hb).2, (hSb b hb).1⟩).trans (HW3.out.block b (HN.out b hb).1)), ⟨⟨some ⟨gg, 0, none⟩, cap, rs ++ [⟨p, A3, n, c3, c3, L.set j x3⟩], by rw [List.length_append]; exact HV5.out, by rw [List.length_append]; exact HS5.setBoxed HV4.out (by decide) (by decide) 0 _, ?_⟩, HBB.out.trans ((HW3.out.mono hle).trans HB5.out), (hkb _ ⟨by omega, by omega⟩).trans (HX.out.below HW3.out HX.out.lt), (hkb _ ⟨by omega, by omega⟩).trans (HC.out.below HW3.out HC.out.lt), by simp at hsz5 ⊢; omega⟩⟩
              unfold QLof
              rw [List.map_append, List.map_append]
              unfold QLof at HQ
              rw [HQ.out]
              exact (nbF_snoc p L (pre.map Subtype.val) ((j : Int), x2, x3)).symm
      · go_simp
        try refine hK _ _ ?_
        try clear hK K
        refine wpAnyIn_ready (rs := [0, 1]) (by kernel_rfl) (by simp) ?_
        refine AllReadyIn.cons rfl (fun K hK => ?_) (AllReadyIn.cons rfl (fun K hK => ?_) AllReadyIn.nil)
        · go_simp
          try refine hK _ _ ?_
          try clear hK K
          refine wpAnyIn_ready (rs := [1]) (by kernel_rfl) (by simp) ?_
          refine AllReadyIn.cons rfl (fun K hK => ?_) AllReadyIn.nil
          go_simp
          try refine hK _ _ ?_
          try clear hK K
          refine wpAnyIn_ready (rs := [3]) (by kernel_rfl) (by simp) ?_
          refine AllReadyIn.cons rfl (fun K hK => ?_) AllReadyIn.nil
          go_simp
          gi_wp2_with (refine ⟨trivial, ?_⟩; gi_at_call 31; refine (CallsIn.inRound l (callsIn_wide.2 (afterMove_calls A n c p L j x2 x3 _ HL.out hn hjn HIW.out))).mono ?_; rintro e w2 ⟨A3, c3, rfl, hO3, hb3⟩; have HW3 := Lib.hid (undrew hb3); have HO3 : Hid (Own W.heap.size w2 A3 n c3 (L.set j x3)) := hO3; have hv2 := Boxed.kept (show Boxed W.drew _ _ _ from HV.out) (grown_of_below hb3) (by simp); have hc2 := hv2.cell; have HV2 := Lib.hid hv2; have hs2 := HW3.out.size; have hnw2 : w1.heap.size < w2.heap.size := Nat.lt_of_lt_of_le hnW hs2; have HR2 := Lib.hid (HR.out.below HW3.out); clear hO3 hb3 hv2)
          try refine hK _ _ ?_
          try clear hK K
          refine wpAnyIn_ready (rs := [4]) (by kernel_rfl) (by simp) ?_
          refine AllReadyIn.cons rfl (fun K hK => ?_) AllReadyIn.nil
          go_simp
          try refine hK _ _ ?_
          try clear hK K
          refine wpAnyIn_ready (rs := [5]) (by kernel_rfl) (by simp) ?_
          refine AllReadyIn.cons rfl (fun K hK => ?_) AllReadyIn.nil
          refine stepIn_append_lies (w2.alloc (.cells #[.int .i64 p, .slice A3 n c3] 29)) rfl _ _ 26 rfl (w1.heap.size + 2) 29 i0 (.agg #[.int .i64 0, .slice none 0 0]) 2 32 Try.underlying26 hi hz0 hz1 hz2 rfl (by decide) (.slice A' pre.length c') pre.length (stCells rs) rfl (HR2.out.1.alloc _) ⟨w2.heap.size, 0, none⟩ 1 1 [.int .i64 p, .slice A3 n c3] rfl rfl (World.news_of_block (cs := #[.int .i64 p, .slice A3 n c3]) (t := 29) (fr := (0, 0)) (heap_alloc_new w2 _)) (by simp [Value.oneCell']) (by omega) (by unfold maxLen; omega) (by omega) (by simp; omega) (w2.heap.size + 1) (by simp) ?_
          intro gg cap w4 hown1 hgrow hat hlt4
          have HOW := Lib.hid hown1
          have HGR := Lib.hid hgrow
          obtain ⟨hv4, hv5, _, hk5, hb5⟩ := HV2.out.appended (n₀ := w.heap.size) (by decide) (HR2.out.1.mono (by omega)) (by omega) (by omega) (OwnG.mono hown1 (by omega)) hgrow
          have hc4 := hv4.cell
          have hf4 := hv4.frozen
          have HV4 := Lib.hid hv4
          have HV5 := Lib.hid hv5
          have HK5 := Lib.hid hk5
          have HB5 := Lib.hid hb5
          clear hown1 hgrow hat hv4 hv5 hk5 hb5
          try refine hK _ _ ?_
          try clear hK K
          refine wpAnyIn_ready (rs := [6]) (by kernel_rfl) (by simp) ?_
          refine AllReadyIn.cons rfl (fun K hK => ?_) AllReadyIn.nil
          go_simp
          try refine hK _ _ ?_
          try clear hK K
          refine wpAnyIn_done (by kernel_rfl) ?_ _
          have hkb := keepB_appended (u := .slice (some ⟨gg, 0, none⟩) (pre.length + 1) cap) (B := w1.heap.size) (S := fun b => b < w1.heap.size + 2 ∧ b ≠ w1.heap.size) HGR.out (fun b hb => ⟨by omega, fun e => by have h1 := ows_bk HR2.out.1 b e.symm; omega, hb.2⟩)
          have hsz5 := HB5.out.size
          have HS5 := OwnSt.snoc (r := ⟨p, A3, n, c3, c3, L.set j x3⟩) HR2.out (HO3.out.mono hW) (fun g (hA : A3 = some ⟨g, 0, none⟩) => by have h1 := HO3.out; rw [hA] at h1; exact (ownG_lt h1).1) hold.out HOW.out HGR.out
          have hLe := HB5.out.size
          refine ⟨((keepsOthers_of_below HW3.out).trans HK5.out).from _, fun b hb => ((hkb b ⟨(hSb b hb).2, (hSb b hb).1⟩).trans (HW3.out.block b (HN.out b hb).1)), ⟨⟨some ⟨gg, 0, none⟩, cap, rs ++ [⟨p, A3, n, c3, c3, L.set j x3⟩], by rw [List.length_append]; exact HV5.out, by rw [List.length_append]; exact HS5.setBoxed HV4.out (by decide) (by decide) 0 _, ?_⟩, HBB.out.trans ((HW3.out.mono hle).trans HB5.out), (hkb _ ⟨by omega, by omega⟩).trans (HX.out.below HW3.out HX.out.lt), (hkb _ ⟨by omega, by omega⟩).trans (HC.out.below HW3.out HC.out.lt), by simp at hsz5 ⊢; omega⟩⟩
          unfold QLof
          rw [List.map_append, List.map_append]
          unfold QLof at HQ
          rw [HQ.out]
          exact (nbF_snoc p L (pre.map Subtype.val) ((j : Int), x2, x3)).symm
        · go_simp
          try refine hK _ _ ?_
          try clear hK K
          refine wpAnyIn_ready (rs := [0, 3]) (by kernel_rfl) (by simp) ?_
          refine AllReadyIn.cons rfl (fun K hK => ?_) (AllReadyIn.cons rfl (fun K hK => ?_) AllReadyIn.nil)
          · go_simp
            try refine hK _ _ ?_
            try clear hK K
            refine wpAnyIn_ready (rs := [3]) (by kernel_rfl) (by simp) ?_
            refine AllReadyIn.cons rfl (fun K hK => ?_) AllReadyIn.nil
            go_simp
            gi_wp2_with (refine ⟨trivial, ?_⟩; gi_at_call 31; refine (CallsIn.inRound l (callsIn_wide.2 (afterMove_calls A n c p L j x2 x3 _ HL.out hn hjn HIW.out))).mono ?_; rintro e w2 ⟨A3, c3, rfl, hO3, hb3⟩; have HW3 := Lib.hid (undrew hb3); have HO3 : Hid (Own W.heap.size w2 A3 n c3 (L.set j x3)) := hO3; have hv2 := Boxed.kept (show Boxed W.drew _ _ _ from HV.out) (grown_of_below hb3) (by simp); have hc2 := hv2.cell; have HV2 := Lib.hid hv2; have hs2 := HW3.out.size; have hnw2 : w1.heap.size < w2.heap.size := Nat.lt_of_lt_of_le hnW hs2; have HR2 := Lib.hid (HR.out.below HW3.out); clear hO3 hb3 hv2)
            try refine hK _ _ ?_
            try clear hK K
            refine wpAnyIn_ready (rs := [4]) (by kernel_rfl) (by simp) ?_
            refine AllReadyIn.cons rfl (fun K hK => ?_) AllReadyIn.nil
            go_simp
            try refine hK _ _ ?_
            try clear hK K
            refine wpAnyIn_ready (rs := [5]) (by kernel_rfl) (by simp) ?_
            refine AllReadyIn.cons rfl (fun K hK => ?_) AllReadyIn.nil
            refine stepIn_append_lies (w2.alloc (.cells #[.int .i64 p, .slice A3 n c3] 29)) rfl _ _ 26 rfl (w1.heap.size + 2) 29 i0 (.agg #[.int .i64 0, .slice none 0 0]) 2 32 Try.underlying26 hi hz0 hz1 hz2 rfl (by decide) (.slice A' pre.length c') pre.length (stCells rs) rfl (HR2.out.1.alloc _) ⟨w2.heap.size, 0, none⟩ 1 1 [.int .i64 p, .slice A3 n c3] rfl rfl (World.news_of_block (cs := #[.int .i64 p, .slice A3 n c3]) (t := 29) (fr := (0, 0)) (heap_alloc_new w2 _)) (by simp [Value.oneCell']) (by omega) (by unfold maxLen; omega) (by omega) (by simp; omega) (w2.heap.size + 1) (by simp) ?_
            intro gg cap w4 hown1 hgrow hat hlt4
            have HOW := Lib.hid hown1
            have HGR := Lib.hid hgrow
            obtain ⟨hv4, hv5, _, hk5, hb5⟩ := HV2.out.appended (n₀ := w.heap.size) (by decide) (HR2.out.1.mono (by omega)) (by omega) (by omega) (OwnG.mono hown1 (by omega)) hgrow
            have hc4 := hv4.cell
            have hf4 := hv4.frozen
            have HV4 := Lib.hid hv4
            have HV5 := Lib.hid hv5
            have HK5 := Lib.hid hk5
            have HB5 := Lib.hid hb5
            clear hown1 hgrow hat hv4 hv5 hk5 hb5
            try refine hK _ _ ?_
            try clear hK K
            refine wpAnyIn_ready (rs := [6]) (by kernel_rfl) (by simp) ?_
            refine AllReadyIn.cons rfl (fun K hK => ?_) AllReadyIn.nil
            go_simp
            try refine hK _ _ ?_
            try clear hK K
            refine wpAnyIn_done (by kernel_rfl) ?_ _
            have hkb := keepB_appended (u := .slice (some ⟨gg, 0, none⟩) (pre.length + 1) cap) (B := w1.heap.size) (S := fun b => b < w1.heap.size + 2 ∧ b ≠ w1.heap.size) HGR.out (fun b hb => ⟨by omega, fun e => by have h1 := ows_bk HR2.out.1 b e.symm; omega, hb.2⟩)
            have hsz5 := HB5.out.size
            have HS5 := OwnSt.snoc (r := ⟨p, A3, n, c3, c3, L.set j x3⟩) HR2.out (HO3.out.mono hW) (fun g (hA : A3 = some ⟨g, 0, none⟩) => by have h1 := HO3.out; rw [hA] at h1; exact (ownG_lt h1).1) hold.out HOW.out HGR.out
            have hLe := HB5.out.size
            refine ⟨((keepsOthers_of_below HW3.out).trans HK5.out).from _, fun b hb => ((hkb b ⟨(hSb b hb).2, (hSb b hb).1⟩).trans (HW3.out.block b (HN.out b hb).1)), ⟨⟨some ⟨gg, 0, none⟩, cap, rs ++ [⟨p, A3, n, c3, c3, L.set j x3⟩], by rw [List.length_append]; exact HV5.out, by rw [List.length_append]; exact HS5.setBoxed HV4.out (by decide) (by decide) 0 _, ?_⟩, HBB.out.trans ((HW3.out.mono hle).trans HB5.out), (hkb _ ⟨by omega, by omega⟩).trans (HX.out.below HW3.out HX.out.lt), (hkb _ ⟨by omega, by omega⟩).trans (HC.out.below HW3.out HC.out.lt), by simp at hsz5 ⊢; omega⟩⟩
            unfold QLof
            rw [List.map_append, List.map_append]
            unfold QLof at HQ
            rw [HQ.out]
            exact (nbF_snoc p L (pre.map Subtype.val) ((j : Int), x2, x3)).symm
          · go_simp
            gi_wp2_with (refine ⟨trivial, ?_⟩; gi_at_call 31; refine (CallsIn.inRound l (callsIn_wide.2 (afterMove_calls A n c p L j x2 x3 _ HL.out hn hjn HIW.out))).mono ?_; rintro e w2 ⟨A3, c3, rfl, hO3, hb3⟩; have HW3 := Lib.hid (undrew hb3); have HO3 : Hid (Own W.heap.size w2 A3 n c3 (L.set j x3)) := hO3; have hv2 := Boxed.kept (show Boxed W.drew _ _ _ from HV.out) (grown_of_below hb3) (by simp); have hc2 := hv2.cell; have HV2 := Lib.hid hv2; have hs2 := HW3.out.size; have hnw2 : w1.heap.size < w2.heap.size := Nat.lt_of_lt_of_le hnW hs2; have HR2 := Lib.hid (HR.out.below HW3.out); clear hO3 hb3 hv2)
            try refine hK _ _ ?_
            try clear hK K
            refine wpAnyIn_ready (rs := [0, 4]) (by kernel_rfl) (by simp) ?_
            refine AllReadyIn.cons rfl (fun K hK => ?_) (AllReadyIn.cons rfl (fun K hK => ?_) AllReadyIn.nil)
            · go_simp
              try refine hK _ _ ?_
              try clear hK K
              refine wpAnyIn_ready (rs := [4]) (by kernel_rfl) (by simp) ?_
              refine AllReadyIn.cons rfl (fun K hK => ?_) AllReadyIn.nil
              go_simp
              try refine hK _ _ ?_
              try clear hK K
              refine wpAnyIn_ready (rs := [5]) (by kernel_rfl) (by simp) ?_
              refine AllReadyIn.cons rfl (fun K hK => ?_) AllReadyIn.nil
              refine stepIn_append_lies (w2.alloc (.cells #[.int .i64 p, .slice A3 n c3] 29)) rfl _ _ 26 rfl (w1.heap.size + 2) 29 i0 (.agg #[.int .i64 0, .slice none 0 0]) 2 32 Try.underlying26 hi hz0 hz1 hz2 rfl (by decide) (.slice A' pre.length c') pre.length (stCells rs) rfl (HR2.out.1.alloc _) ⟨w2.heap.size, 0, none⟩ 1 1 [.int .i64 p, .slice A3 n c3] rfl rfl (World.news_of_block (cs := #[.int .i64 p, .slice A3 n c3]) (t := 29) (fr := (0, 0)) (heap_alloc_new w2 _)) (by simp [Value.oneCell']) (by omega) (by unfold maxLen; omega) (by omega) (by simp; omega) (w2.heap.size + 1) (by simp) ?_
              intro gg cap w4 hown1 hgrow hat hlt4
              have HOW := Lib.hid hown1
              have HGR := Lib.hid hgrow
              obtain ⟨hv4, hv5, _, hk5, hb5⟩ := HV2.out.appended (n₀ := w.heap.size) (by decide) (HR2.out.1.mono (by omega)) (by omega) (by omega) (OwnG.mono hown1 (by omega)) hgrow
              have hc4 := hv4.cell
              have hf4 := hv4.frozen
              have HV4 := Lib.hid hv4
              have HV5 := Lib.hid hv5
              have HK5 := Lib.hid hk5
              have HB5 := Lib.hid hb5
              clear hown1 hgrow hat hv4 hv5 hk5 hb5
              try refine hK _ _ ?_
              try clear hK K
              refine wpAnyIn_ready (rs := [6]) (by kernel_rfl) (by simp) ?_
              refine AllReadyIn.cons rfl (fun K hK => ?_) AllReadyIn.nil
              go_simp
              try refine hK _ _ ?_
              try clear hK K
              refine wpAnyIn_done (by kernel_rfl) ?_ _
              have hkb := keepB_appended (u := .slice (some ⟨gg, 0, none⟩) (pre.length + 1) cap) (B := w1.heap.size) (S := fun b => b < w1.heap.size + 2 ∧ b ≠ w1.heap.size) HGR.out (fun b hb => ⟨by omega, fun e => by have h1 := ows_bk HR2.out.1 b e.symm; omega, hb.2⟩)
              have hsz5 := HB5.out.size
              have HS5 := OwnSt.snoc (r := ⟨p, A3, n, c3, c3, L.set j x3⟩) HR2.out (HO3.out.mono hW) (fun g (hA : A3 = some ⟨g, 0, none⟩) => by have h1 := HO3.out; rw [hA] at h1; exact (ownG_lt h1).1) hold.out HOW.out HGR.out
              have hLe := HB5.out.size
              refine ⟨((keepsOthers_of_below HW3.out).trans HK5.out).from _, fun b hb => ((hkb b ⟨(hSb b hb).2, (hSb b hb).1⟩).trans (HW3.out.block b (HN.out b hb).1)), ⟨⟨some ⟨gg, 0, none⟩, cap, rs ++ [⟨p, A3, n, c3, c3, L.set j x3⟩], by rw [List.length_append]; exact HV5.out, by rw [List.length_append]; exact HS5.setBoxed HV4.out (by decide) (by decide) 0 _, ?_⟩, HBB.out.trans ((HW3.out.mono hle).trans HB5.out), (hkb _ ⟨by omega, by omega⟩).trans (HX.out.below HW3.out HX.out.lt), (hkb _ ⟨by omega, by omega⟩).trans (HC.out.below HW3.out HC.out.lt), by simp at hsz5 ⊢; omega⟩⟩
              unfold QLof
              rw [List.map_append, List.map_append]
              unfold QLof at HQ
              rw [HQ.out]
              exact (nbF_snoc p L (pre.map Subtype.val) ((j : Int), x2, x3)).symm
            · go_simp
              try refine hK _ _ ?_
              try clear hK K
              refine wpAnyIn_ready (rs := [0]) (by kernel_rfl) (by simp) ?_
              refine AllReadyIn.cons rfl (fun K hK => ?_) AllReadyIn.nil
              go_simp
              try refine hK _ _ ?_
              try clear hK K
              refine wpAnyIn_ready (rs := [5]) (by kernel_rfl) (by simp) ?_
              refine AllReadyIn.cons rfl (fun K hK => ?_) AllReadyIn.nil
              refine stepIn_append_lies (w2.alloc (.cells #[.int .i64 p, .slice A3 n c3] 29)) rfl _ _ 26 rfl (w1.heap.size + 2) 29 i0 (.agg #[.int .i64 0, .slice none 0 0]) 2 32 Try.underlying26 hi hz0 hz1 hz2 rfl (by decide) (.slice A' pre.length c') pre.length (stCells rs) rfl (HR2.out.1.alloc _) ⟨w2.heap.size, 0, none⟩ 1 1 [.int .i64 p, .slice A3 n c3] rfl rfl (World.news_of_block (cs := #[.int .i64 p, .slice A3 n c3]) (t := 29) (fr := (0, 0)) (heap_alloc_new w2 _)) (by simp [Value.oneCell']) (by omega) (by unfold maxLen; omega) (by omega) (by simp; omega) (w2.heap.size + 1) (by simp) ?_
              intro gg cap w4 hown1 hgrow hat hlt4
              have HOW := Lib.hid hown1
              have HGR := Lib.hid hgrow
              obtain ⟨hv4, hv5, _, hk5, hb5⟩ := HV2.out.appended (n₀ := w.heap.size) (by decide) (HR2.out.1.mono (by omega)) (by omega) (by omega) (OwnG.mono hown1 (by omega)) hgrow
              have hc4 := hv4.cell
              have hf4 := hv4.frozen
              have HV4 := Lib.hid hv4
              have HV5 := Lib.hid hv5
              have HK5 := Lib.hid hk5
              have HB5 := Lib.hid hb5
              clear hown1 hgrow hat hv4 hv5 hk5 hb5
              try refine hK _ _ ?_
              try clear hK K
              refine wpAnyIn_ready (rs := [6]) (by kernel_rfl) (by simp) ?_
              refine AllReadyIn.cons rfl (fun K hK => ?_) AllReadyIn.nil
              go_simp
              try refine hK _ _ ?_
              try clear hK K
              refine wpAnyIn_done (by kernel_rfl) ?_ _
              have hkb := keepB_appended (u := .slice (some ⟨gg, 0, none⟩) (pre.length + 1) cap) (B := w1.heap.size) (S := fun b => b < w1.heap.size + 2 ∧ b ≠ w1.heap.size) HGR.out (fun b hb => ⟨by omega, fun e => by have h1 := ows_bk HR2.out.1 b e.symm; omega, hb.2⟩)
              have hsz5 := HB5.out.size
              have HS5 := OwnSt.snoc (r := ⟨p, A3, n, c3, c3, L.set j x3⟩) HR2.out (HO3.out.mono hW) (fun g (hA : A3 = some ⟨g, 0, none⟩) => by have h1 := HO3.out; rw [hA] at h1; exact (ownG_lt h1).1) hold.out HOW.out HGR.out
              have hLe := HB5.out.size
              refine ⟨((keepsOthers_of_below HW3.out).trans HK5.out).from _, fun b hb => ((hkb b ⟨(hSb b hb).2, (hSb b hb).1⟩).trans (HW3.out.block b (HN.out b hb).1)), ⟨⟨some ⟨gg, 0, none⟩, cap, rs ++ [⟨p, A3, n, c3, c3, L.set j x3⟩], by rw [List.length_append]; exact HV5.out, by rw [List.length_append]; exact HS5.setBoxed HV4.out (by decide) (by decide) 0 _, ?_⟩, HBB.out.trans ((HW3.out.mono hle).trans HB5.out), (hkb _ ⟨by omega, by omega⟩).trans (HX.out.below HW3.out HX.out.lt), (hkb _ ⟨by omega, by omega⟩).trans (HC.out.below HW3.out HC.out.lt), by simp at hsz5 ⊢; omega⟩⟩
              unfold QLof
              rw [List.map_append, List.map_append]
              unfold QLof at HQ
              rw [HQ.out]
              exact (nbF_snoc p L (pre.map Subtype.val) ((j : Int), x2, x3)).symm
    case done =>
      rintro D ys W hD hys ⟨⟨A', c', rs, hv, hrow, hq⟩, hB, bX, bC, hW⟩ hK
      have hc := hv.cell
      gi_wp2
      refine ⟨by simp, .inl ⟨_, _, rfl, run_takeDeferred hK, ?_⟩⟩
      have hrow' : ∀ r, some D = some r → ∃ o : Obj, W.heap[r]? = some o ∧ o.isCells = false := fun r e => by cases e; exact ⟨_, hK, rfl⟩
      refine ⟨_, results_tmp2 rfl _ _ _, A', _, c', rs, rfl, (hrow.mono (by omega)).keptRow (grownBy_putObj' W D _) (ownG_far hrow.1 hrow') (fun r hr => ownG_far (hrow.2.1 r hr) hrow'), by rw [hq, hys], hB.trans (belowK_b (w := w) (Nat.le_refl _) W D _ _ (by omega) hK rfl rfl)⟩
    case stop =>
      rintro D c pre W _ _ h _
      exact h.elim
  · have hs' : stateB p L = false := by simpa using hs
    rw [(nb_no hs').1, codeS_no hs']
    clear hs
    go_enter Try.func9, Try.ntmps9
    go_wp2_with fail
    refine (implIsState_calls A n c p L _ HL.out hn hI0).mono ?_
    rintro e w1 ⟨rfl, hb⟩
    have HB := Lib.hid hb
    clear hb
    go_wp2
    go_ret2
    exact retSt_zero rfl (hb0.trans (HB.out.mono (by simp)))

end Go.Proofs.Ytagaopdpnloblaa
