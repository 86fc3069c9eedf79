/- Contracts: IsOnWay, by the program. -/
import Derived.Test.YtnbjnlgdolhlmaaPk7
import Derived.Test.YtnbjnlgdolhlmaaPk6
namespace Go.Proofs.Ytnbjnlgdolhlmaa
open Go.RowKit Go.Shelf
set_option linter.unusedVariables false
attribute [local go_sem] Oper.semAt_some

theorem Box.set4a {V : World} {g t : Nat} {a b c d e f x y : Value} (h : Box V g t #[a, b, c, d, e, f, x, y]) (u0 u1 u2 u3 : Value) : Box ((((V.setCell ⟨g, 0, none⟩ u0).setCell ⟨g, 1, none⟩ u1).setCell ⟨g, 2, none⟩ u2).setCell ⟨g, 3, none⟩ u3) g t #[u0, u1, u2, u3, e, f, x, y] := by
  have := (((h.set 0 u0).set 1 u1).set 2 u2).set 3 u3
  simpa using this
theorem Box.set4b {V : World} {g t : Nat} {a b c d e f x y : Value} (h : Box V g t #[a, b, c, d, e, f, x, y]) (u4 u5 u6 u7 : Value) : Box ((((V.setCell ⟨g, 4, none⟩ u4).setCell ⟨g, 5, none⟩ u5).setCell ⟨g, 6, none⟩ u6).setCell ⟨g, 7, none⟩ u7) g t #[a, b, c, d, u4, u5, u6, u7] := by
  have := (((h.set 4 u4).set 5 u5).set 6 u6).set 7 u7
  simpa using this
/-- Eight numbers stored into a box. -/
def set8 (V : World) (g : Nat) (p : Nat → Int) : World := (World.setCell (World.setCell (World.setCell (World.setCell (World.setCell (World.setCell (World.setCell (World.setCell V ⟨g, 0, none⟩ (.int .i64 (p 0))) ⟨g, 1, none⟩ (.int .i64 (p 1))) ⟨g, 2, none⟩ (.int .i64 (p 2))) ⟨g, 3, none⟩ (.int .i64 (p 3))) ⟨g, 4, none⟩ (.int .i64 (p 4))) ⟨g, 5, none⟩ (.int .i64 (p 5))) ⟨g, 6, none⟩ (.int .i64 (p 6))) ⟨g, 7, none⟩ (.int .i64 (p 7)))
theorem set8_def (V : World) (g : Nat) (p : Nat → Int) : set8 V g p = (World.setCell (World.setCell (World.setCell (World.setCell (World.setCell (World.setCell (World.setCell (World.setCell V ⟨g, 0, none⟩ (.int .i64 (p 0))) ⟨g, 1, none⟩ (.int .i64 (p 1))) ⟨g, 2, none⟩ (.int .i64 (p 2))) ⟨g, 3, none⟩ (.int .i64 (p 3))) ⟨g, 4, none⟩ (.int .i64 (p 4))) ⟨g, 5, none⟩ (.int .i64 (p 5))) ⟨g, 6, none⟩ (.int .i64 (p 6))) ⟨g, 7, none⟩ (.int .i64 (p 7))) := rfl
theorem set8_below {B g : Nat} {w V : World} {p : Nat → Int} (h : Below B w V) (hg : B ≤ g) : Below B w (set8 V g p) :=
  (((((((h.setCell hg _).setCell hg _).setCell hg _).setCell hg _).setCell hg _).setCell hg _).setCell hg _).setCell hg _
theorem set8_other {b t g : Nat} {V : World} {cs : Array Value} {p : Nat → Int} (h : Box V b t cs) (hg : b ≠ g) : Box (set8 V g p) b t cs :=
  (((((((h.other hg _).other hg _).other hg _).other hg _).other hg _).other hg _).other hg _).other hg _
theorem set8_box {t g : Nat} {V : World} {a b c d e f x y : Value} {p : Nat → Int} (h : Box V g t #[a, b, c, d, e, f, x, y]) : Box (set8 V g p) g t #[.int .i64 (p 0), .int .i64 (p 1), .int .i64 (p 2), .int .i64 (p 3), .int .i64 (p 4), .int .i64 (p 5), .int .i64 (p 6), .int .i64 (p 7)] :=
  (((h.set4a (.int .i64 (p 0)) (.int .i64 (p 1)) (.int .i64 (p 2)) (.int .i64 (p 3))).set4b (.int .i64 (p 4)) (.int .i64 (p 5)) (.int .i64 (p 6)) (.int .i64 (p 7))))
theorem frozen8 {w : World} {g t : Nat} {cs : Array Value} (h : Box w g t cs) : w.frozen? ⟨g, 0, none⟩ = false ∧ w.frozen? ⟨g, 1, none⟩ = false ∧ w.frozen? ⟨g, 2, none⟩ = false ∧ w.frozen? ⟨g, 3, none⟩ = false ∧ w.frozen? ⟨g, 4, none⟩ = false ∧ w.frozen? ⟨g, 5, none⟩ = false ∧ w.frozen? ⟨g, 6, none⟩ = false ∧ w.frozen? ⟨g, 7, none⟩ = false :=
  ⟨h.frozen 0, h.frozen 1, h.frozen 2, h.frozen 3, h.frozen 4, h.frozen 5, h.frozen 6, h.frozen 7⟩
theorem ops_getP {α : Type} (l : List α) (i : Nat) (o : α) (h : l[i]? = some o) : l.toArray[i]? = some o := by rw [List.getElem?_toArray]; exact h
theorem boxes5 (w : World) (p q : Int) (A B : Option Addr) (n c m d t u v : Nat) :
    ∃ W0, W0 = ((((w.alloc (.cells #[.int .i64 p, .slice A n c] t)).alloc (.cells #[.int .i64 q, .slice B m d] t)).alloc (.cells #[.bool false] u)).alloc (.cells #[.int .i64 0] v)).alloc (.cells #[.int .i64 p, .slice A n c, .int .i64 q, .slice B m d] t) ∧
    Box W0 w.heap.size t #[.int .i64 p, .slice A n c] ∧ Box W0 (w.heap.size + 1) t #[.int .i64 q, .slice B m d] ∧ Box W0 (w.heap.size + 1 + 1) u #[.bool false] ∧ Box W0 (w.heap.size + 1 + 1 + 1) v #[.int .i64 0] ∧
    Box W0 (w.heap.size + 1 + 1 + 1 + 1) t #[.int .i64 p, .slice A n c, .int .i64 q, .slice B m d] ∧ Below w.heap.size w W0 ∧ W0.heap.size = w.heap.size + 5 := by
  refine ⟨_, rfl, ?_, ?_, ?_, ?_, ?_, ?_, ?_⟩
  · exact (((((Box.new w _ _).alloc _).alloc _).alloc _).alloc _)
  · have h := Box.new (w.alloc (.cells #[.int .i64 p, .slice A n c] t)) t #[.int .i64 q, .slice B m d]
    rw [World.size_alloc] at h
    exact ((h.alloc _).alloc _).alloc _
  · have h := Box.new ((w.alloc (.cells #[.int .i64 p, .slice A n c] t)).alloc (.cells #[.int .i64 q, .slice B m d] t)) u #[.bool false]
    rw [World.size_alloc, World.size_alloc] at h
    exact (h.alloc _).alloc _
  · have h := Box.new (((w.alloc (.cells #[.int .i64 p, .slice A n c] t)).alloc (.cells #[.int .i64 q, .slice B m d] t)).alloc (.cells #[.bool false] u)) v #[.int .i64 0]
    rw [World.size_alloc, World.size_alloc, World.size_alloc] at h
    exact h.alloc _
  · have h := Box.new ((((w.alloc (.cells #[.int .i64 p, .slice A n c] t)).alloc (.cells #[.int .i64 q, .slice B m d] t)).alloc (.cells #[.bool false] u)).alloc (.cells #[.int .i64 0] v)) t #[.int .i64 p, .slice A n c, .int .i64 q, .slice B m d]
    rw [World.size_alloc, World.size_alloc, World.size_alloc, World.size_alloc] at h
    exact h
  · exact (((((Below.refl _ w).alloc (Nat.le_refl _) _).alloc (by simp) _).alloc (by simp; omega) _).alloc (by simp; omega) _).alloc (by simp; omega) _
  · simp

theorem ow_zero {p a q : Int} {L M : List Int} (h : owE p L a q M = 0) : code2 p L q M = 0 ∧ inB a 0 2 = true := by
  unfold owE at h
  split at h
  · next h1 =>
    refine ⟨h1, ?_⟩
    split at h
    · assumption
    · cases h
  · next h1 => exact absurd h h1
theorem ow_not {p a q : Int} {L M : List Int} (h : ¬ owE p L a q M = 0) : owV p L a q M = false := by
  unfold owV
  rw [if_neg]
  rintro ⟨h1, h2⟩
  exact h (by unfold owE; rw [if_pos h1, if_pos h2])
/-- What region 4 leaves: the pegs of both states in boxes of their own. -/
def OnMade (W0 : World) (L M : List Int) (t t' : Value) (wc : World) : Prop :=
  ∃ g h, t = .pointer (some ⟨g, 0, none⟩) ∧ t' = .pointer (some ⟨h, 0, none⟩) ∧ g ≠ h ∧ W0.heap.size ≤ g ∧ W0.heap.size ≤ h ∧ Box wc g 66 #[.int .i64 (padI L 0), .int .i64 (padI L 1), .int .i64 (padI L 2), .int .i64 (padI L 3), .int .i64 (padI L 4), .int .i64 (padI L 5), .int .i64 (padI L 6), .int .i64 (padI L 7)] ∧ Box wc h 66 #[.int .i64 (padI M 0), .int .i64 (padI M 1), .int .i64 (padI M 2), .int .i64 (padI M 3), .int .i64 (padI M 4), .int .i64 (padI M 5), .int .i64 (padI M 6), .int .i64 (padI M 7)] ∧ Below W0.heap.size W0 wc

/-- What holds between two rounds; behind a return. -/
def OnIv (g h b6 b7 N : Nat) (L M : List Int) (a : Int) (m B : Nat) (w0 : World) (R : Nat) (pre : List Mv) (W : World) : Prop :=
  ∃ Lc, (wayL L a = pre ++ wayL Lc a ∧ Lc.length = m ∧ pegsOk Lc ∧ onM M L (wayL L a) = onM M Lc (wayL Lc a)) ∧ N ≤ R ∧ Box W g 66 #[.int .i64 (padI Lc 0), .int .i64 (padI Lc 1), .int .i64 (padI Lc 2), .int .i64 (padI Lc 3), .int .i64 (padI Lc 4), .int .i64 (padI Lc 5), .int .i64 (padI Lc 6), .int .i64 (padI Lc 7)] ∧ Box W h 66 #[.int .i64 (padI M 0), .int .i64 (padI M 1), .int .i64 (padI M 2), .int .i64 (padI M 3), .int .i64 (padI M 4), .int .i64 (padI M 5), .int .i64 (padI M 6), .int .i64 (padI M 7)] ∧ Box W b6 4 #[.bool false] ∧ Box W b7 2 #[.int .i64 0] ∧ Below B w0 W
def OnX (q : Prop) (b6 b7 B : Nat) (w0 : World) (W : World) : Prop := q ∧ Box W b6 4 #[.bool true] ∧ Box W b7 2 #[.int .i64 0] ∧ Below B w0 W
theorem pad_ok {L : List Int} (h : pegsOk L) (i : Nat) : 0 ≤ padI L i ∧ padI L i ≤ 1000 := by
  unfold padI
  by_cases hi : i < L.length
  · have := h (L[i]) (List.getElem_mem hi)
    rw [List.getElem?_eq_getElem hi, Option.getD_some]
    omega
  · rw [List.getElem?_eq_none (by omega)]; simp
theorem pad_diff {L M : List Int} {n : Nat} (hL : L.length = n) (hM : M.length = n) (hn : n ≤ 8) (h : L ≠ M) : ∃ k, k < 8 ∧ padI L k ≠ padI M k := by
  apply Classical.byContradiction
  intro hc
  apply h
  refine ext_of hL hM (fun i hi => ?_)
  apply Classical.byContradiction
  intro hne
  exact hc ⟨i, by omega, hne⟩
theorem cell8_at {V : World} {g t j : Nat} {L : List Int} (h : Box V g t #[.int .i64 (padI L 0), .int .i64 (padI L 1), .int .i64 (padI L 2), .int .i64 (padI L 3), .int .i64 (padI L 4), .int .i64 (padI L 5), .int .i64 (padI L 6), .int .i64 (padI L 7)]) (hj : j < 8) : V.cell? ⟨g, j, none⟩ = some (.int .i64 (padI L j)) := by
  rw [h.cell j]
  have : j = 0 ∨ j = 1 ∨ j = 2 ∨ j = 3 ∨ j = 4 ∨ j = 5 ∨ j = 6 ∨ j = 7 := by omega
  rcases this with rfl | rfl | rfl | rfl | rfl | rfl | rfl | rfl <;> rfl
theorem padI_set {L : List Int} {j : Nat} {v : Int} (hl : j < L.length) (i : Nat) : padI (L.set j v) i = if i = j then v else padI L i := by
  unfold padI
  rw [List.getElem?_set]
  by_cases h : j = i
  · subst h; simp [hl]
  · rw [if_neg h, if_neg (fun e => h e.symm)]
theorem arr_set {L : List Int} {j : Nat} {v : Int} (hj : j < 8) (hl : j < L.length) : (#[.int .i64 (padI L 0), .int .i64 (padI L 1), .int .i64 (padI L 2), .int .i64 (padI L 3), .int .i64 (padI L 4), .int .i64 (padI L 5), .int .i64 (padI L 6), .int .i64 (padI L 7)] : Array Value).setIfInBounds j (.int .i64 v) = #[.int .i64 (padI (L.set j v) 0), .int .i64 (padI (L.set j v) 1), .int .i64 (padI (L.set j v) 2), .int .i64 (padI (L.set j v) 3), .int .i64 (padI (L.set j v) 4), .int .i64 (padI (L.set j v) 5), .int .i64 (padI (L.set j v) 6), .int .i64 (padI (L.set j v) 7)] := by
  simp only [padI_set hl]
  have : j = 0 ∨ j = 1 ∨ j = 2 ∨ j = 3 ∨ j = 4 ∨ j = 5 ∨ j = 6 ∨ j = 7 := by omega
  rcases this with rfl | rfl | rfl | rfl | rfl | rfl | rfl | rfl <;> simp
theorem way_next {L Lc : List Int} {a : Int} {pre : List Mv} {x : Mv} (hW : wayL L a = pre ++ wayL Lc a) (hp : pegsOk Lc) (ha : 0 ≤ a ∧ a ≤ 2) (hx : (pre ++ [x]) <+: wayL L a) : fdW Lc a < Lc.length ∧ x = mvW Lc a := by
  rw [hW] at hx
  have h2 : [x] <+: wayL Lc a := (List.prefix_append_right_inj pre).1 hx
  by_cases hf : fdW Lc a < Lc.length
  · rw [wayL_more hp ha hf] at h2
    obtain ⟨t, ht⟩ := h2
    simp at ht
    exact ⟨hf, ht.1⟩
  · rw [wayL_end (by have := fdW_le Lc a; omega)] at h2
    obtain ⟨t, ht⟩ := h2
    simp at ht

set_option maxRecDepth 100000 in
set_option maxHeartbeats 40000000 in
theorem implIsOnWay_ret (A : Option Addr) (n c : Nat) (p : Int) (L : List Int) (a : Int) (D : Option Addr) (m d : Nat) (q : Int) (M : List Int) (w : World) (hL : L.length = n) (hn : n ≤ 1048576) (hA : A = none → c = 0) (hI : Ints w A L) (hM : M.length = m) (hm : m ≤ 1048576) (hD : D = none → d = 0) (hJ : Ints w D M) :
    Calls Try.prog 19 #[.agg #[.int .i64 p, .slice A n c], .int .i64 a, .agg #[.int .i64 q, .slice D m d]] w (RetOw w (owV p L a q M) (owE p L a q M)) := by
  have HL := Lib.hid hL
  have HNA := Lib.hid hA
  have HND := Lib.hid hD
  clear hA hD
  have HM := Lib.hid hM
  obtain ⟨W0, hW0, x0, y0, r0, s0, z0, hb0, hs0⟩ := boxes5 w p q A D n c m d 26 4 2
  have X0 := Lib.hid x0
  have Y0 := Lib.hid y0
  have R0 := Lib.hid r0
  have S0 := Lib.hid s0
  have Z0 := Lib.hid z0
  have HB0 := Lib.hid hb0
  have HI0 := Lib.hid (hI.below hb0)
  have HJ0 := Lib.hid (hJ.below hb0)
  have HW0 := Lib.hid hW0
  clear hL hM hI hJ x0 y0 r0 s0 z0 hb0 hW0
  by_cases hz : owE p L a q M = 0
  · have hz' : (owE p L a q M != 0) = false := by simpa using hz
    obtain ⟨hc, hia⟩ := ow_zero hz
    obtain ⟨hs, ht, hp, hq, hl⟩ := code2_zero hc
    subst hp hq
    have e2 : owV 3 L a 3 M = onM M L (wayL L a) := by unfold owV; rw [if_pos ⟨hc, hia⟩]
    have HZ := Lib.hid hz
    have ha := inB_of hia
    have hmn : m = n := by rw [← HM.out, ← HL.out, hl]
    subst hmn
    have h8 := (state_facts hs HL.out).2.2.1
    have HP := Lib.hid (state_pegsOk hs)
    have HPM := Lib.hid (state_pegsOk ht)
    have HWB := Lib.hid (show (wayL L a).length ≤ 255 from wayL_bd (by rw [HL.out]; exact h8))
    rw [e2]
    clear hz hs ht hl e2 hia hc
    refine (callsIn_wide (n := 7)).1 ?_
    refine callsIn_of_wp_marks Try.func19 rfl trivial ?_ rfl
    refine wpIn_wide.2 ?_
    simp only [Try.ntmps19, List.size_toArray, List.length_cons, List.length_nil, Nat.reduceAdd, Nat.reduceSub, Array.replicate_succ, Array.replicate_zero, List.push_toArray, List.append_toArray, List.nil_append, List.cons_append]
    go_wp2_with fail
    rw [← HW0.out]
    refine (codeOfPeg_two (w.heap.size + 1 + 1 + 1 + 1) A m c 3 L D m d 3 M a W0 Z0.out HL.out hn HI0.out HM.out hn HJ0.out).mono ?_
    rintro e w1 ⟨rfl, hb1⟩
    have X1 := Lib.hid (X0.out.below hb1 X0.out.lt)
    have Y1 := Lib.hid (Y0.out.below hb1 Y0.out.lt)
    have R1 := Lib.hid (R0.out.below hb1 R0.out.lt)
    have S1 := Lib.hid (S0.out.below hb1 S0.out.lt)
    have HB1 := Lib.hid (HB0.out.trans (hb1.mono HB0.out.size))
    have HI1 := Lib.hid (HI0.out.below hb1)
    have HJ1 := Lib.hid (HJ0.out.below hb1)
    have hs1 := hb1.size
    have zx := X1.out.lt
    have zy := Y1.out.lt
    clear hb1 X0 Y0 R0 S0 Z0 HB0 HI0 HJ0 HW0
    obtain ⟨c0, c1, c2, c3⟩ := cells22 X1.out Y1.out
    go_upto_region 4 with (fail)
    go_cut [9, 10] from 20 to 24 (fun t9 t10 wc => OnMade w1 L M t9 t10 wc)
    case first =>
      refine wp_region_noPanic ?_
      refine wp_region_held_drew (S := (fun w' => w'.cell? ⟨w.heap.size, 0, none⟩ = some (.int .i64 3) ∧ w'.cell? ⟨w.heap.size, 1, none⟩ = some (.slice A m c) ∧ w'.cell? ⟨w.heap.size + 1, 0, none⟩ = some (.int .i64 3) ∧ w'.cell? ⟨w.heap.size + 1, 1, none⟩ = some (.slice D m d))) (by kernel_rfl) (cells22 X1.out Y1.out) (fun hHeld => ?_)
      have HT := Lib.hid (show Below w1.heap.size w1 w1.drew from (Below.refl _ _).drew)
      generalize w1.drew = V0 at *
      refine wpAnyH_take (i := 0) (v := ?_) (ops_getP _ _ _ rfl) (by kernel_rfl) (by kernel_rfl) (by kernel_rfl) (fun _ _ _ h => h) (Or.inl ⟨by rfl, ?_⟩) (by assumption) ?_
      rotate_left
      · intro w5 hSw
        (try dsimp only at hSw)
        go_simp
        all_goals (with_reducible rfl)
      try simp only [Act.put, List.setIfInBounds_toArray, List.set_cons_zero, List.set_cons_succ]
      refine wpAnyH_take (i := 2) (v := ?_) (ops_getP _ _ _ rfl) (by kernel_rfl) (by kernel_rfl) (by kernel_rfl) (fun _ _ _ h => h) (Or.inl ⟨by rfl, ?_⟩) (by assumption) ?_
      rotate_left
      · intro w5 hSw
        (try dsimp only at hSw)
        go_simp
        all_goals (with_reducible rfl)
      try simp only [Act.put, List.setIfInBounds_toArray, List.set_cons_zero, List.set_cons_succ]
      refine wpAnyH_ready (rs := [1, 4, 5]) (by kernel_rfl) (by simp) ?_
      refine AllReadyH.cons (ops_getP _ _ _ rfl) (fun K hK => ?_) (AllReadyH.cons (ops_getP _ _ _ rfl) (fun K hK => ?_) (AllReadyH.cons (ops_getP _ _ _ rfl) (fun K hK => ?_) AllReadyH.nil))
      · go_simp
        refine (pegsOf_calls A m c 3 L _ HL.out h8 (HI1.out.below HT.out)).mono ?_
        rintro e V1 ⟨rfl, hb⟩
        have HTn := Lib.hid (HT.out.trans (hb.mono HT.out.size))
        clear HT
        have HT := HTn
        clear HTn
        clear hb
        try go_simp
        refine hK.out _ _ ?_ (fun hHeld => ?_)
        · exact cells22 (X1.out.below HT.out zx) (Y1.out.below HT.out zy)
        clear hK K
        refine wpAnyH_ready (rs := [3, 4, 5]) (by kernel_rfl) (by simp) ?_
        refine AllReadyH.cons (ops_getP _ _ _ rfl) (fun K hK => ?_) (AllReadyH.cons (ops_getP _ _ _ rfl) (fun K hK => ?_) (AllReadyH.cons (ops_getP _ _ _ rfl) (fun K hK => ?_) AllReadyH.nil))
        · go_simp
          refine (pegsOf_calls D m d 3 M _ HM.out h8 (HJ1.out.below HT.out)).mono ?_
          rintro e V2 ⟨rfl, hb⟩
          have HTn := Lib.hid (HT.out.trans (hb.mono HT.out.size))
          clear HT
          have HT := HTn
          clear HTn
          clear hb
          try go_simp
          refine hK.out _ _ ?_ (fun hHeld => ?_)
          · exact cells22 (X1.out.below HT.out zx) (Y1.out.below HT.out zy)
          clear hK K
          refine wpAnyH_ready (rs := [4, 5]) (by kernel_rfl) (by simp) ?_
          refine AllReadyH.cons (ops_getP _ _ _ rfl) (fun K hK => ?_) (AllReadyH.cons (ops_getP _ _ _ rfl) (fun K hK => ?_) AllReadyH.nil)
          · go_simp
            have q4 : w1.heap.size ≤ V2.heap.size := HT.out.size
            have Gx := Lib.hid (Box.new V2 66 #[.int .i64 0, .int .i64 0, .int .i64 0, .int .i64 0, .int .i64 0, .int .i64 0, .int .i64 0, .int .i64 0])
            have HTn := Lib.hid (HT.out.alloc HT.out.size (.cells #[.int .i64 0, .int .i64 0, .int .i64 0, .int .i64 0, .int .i64 0, .int .i64 0, .int .i64 0, .int .i64 0] 66))
            clear HT
            have HT := HTn
            clear HTn
            have G4 := Gx
            clear Gx
            generalize V2.alloc (.cells #[.int .i64 0, .int .i64 0, .int .i64 0, .int .i64 0, .int .i64 0, .int .i64 0, .int .i64 0, .int .i64 0] 66) = V3 at *
            generalize V2.heap.size = g4 at *
            refine hK.out _ _ ?_ (fun hHeld => ?_)
            · exact cells22 (X1.out.below HT.out zx) (Y1.out.below HT.out zy)
            clear hK K
            refine wpAnyH_ready (rs := [5]) (by kernel_rfl) (by simp) ?_
            refine AllReadyH.cons (ops_getP _ _ _ rfl) (fun K hK => ?_) AllReadyH.nil
            go_simp
            have q5 : w1.heap.size ≤ V3.heap.size := HT.out.size
            have Gx := Lib.hid (Box.new V3 66 #[.int .i64 0, .int .i64 0, .int .i64 0, .int .i64 0, .int .i64 0, .int .i64 0, .int .i64 0, .int .i64 0])
            have hne : g4 ≠ V3.heap.size := Nat.ne_of_lt G4.out.lt
            have HTn := Lib.hid (HT.out.alloc HT.out.size (.cells #[.int .i64 0, .int .i64 0, .int .i64 0, .int .i64 0, .int .i64 0, .int .i64 0, .int .i64 0, .int .i64 0] 66))
            clear HT
            have HT := HTn
            clear HTn
            have G4n := Lib.hid (G4.out.alloc (.cells #[.int .i64 0, .int .i64 0, .int .i64 0, .int .i64 0, .int .i64 0, .int .i64 0, .int .i64 0, .int .i64 0] 66))
            clear G4
            have G4 := G4n
            clear G4n
            have G5 := Gx
            clear Gx
            generalize V3.alloc (.cells #[.int .i64 0, .int .i64 0, .int .i64 0, .int .i64 0, .int .i64 0, .int .i64 0, .int .i64 0, .int .i64 0] 66) = V4 at *
            generalize V3.heap.size = g5 at *
            refine hK.out _ _ ?_ (fun hHeld => ?_)
            · exact cells22 (X1.out.below HT.out zx) (Y1.out.below HT.out zy)
            clear hK K
            refine wpAnyH_ready (rs := [6]) (by kernel_rfl) (by simp) ?_
            refine AllReadyH.cons (ops_getP _ _ _ rfl) (fun K hK => ?_) AllReadyH.nil
            obtain ⟨z0, z1, z2, z3, z4, z5, z6, z7⟩ := cells8 G4.out
            obtain ⟨f0, f1, f2, f3, f4, f5, f6, f7⟩ := frozen8 G4.out
            go_simp
            clear z0 z1 z2 z3 z4 z5 z6 z7 f0 f1 f2 f3 f4 f5 f6 f7
            rw [← set8_def V4 g4 (padI L)]
            have HTn := Lib.hid (set8_below (p := padI L) HT.out q4)
            clear HT
            have HT := HTn
            clear HTn
            have G5n := Lib.hid (set8_other (g := g4) (p := padI L) G5.out (by first | exact hne | exact hne.symm))
            clear G5
            have G5 := G5n
            clear G5n
            have G4n := Lib.hid (set8_box (p := padI L) G4.out)
            clear G4
            have G4 := G4n
            clear G4n
            generalize set8 V4 g4 (padI L) = V5 at *
            refine hK.out _ _ ?_ (fun hHeld => ?_)
            · exact cells22 (X1.out.below HT.out zx) (Y1.out.below HT.out zy)
            clear hK K
            refine wpAnyH_ready (rs := [7]) (by kernel_rfl) (by simp) ?_
            refine AllReadyH.cons (ops_getP _ _ _ rfl) (fun K hK => ?_) AllReadyH.nil
            obtain ⟨z0, z1, z2, z3, z4, z5, z6, z7⟩ := cells8 G5.out
            obtain ⟨f0, f1, f2, f3, f4, f5, f6, f7⟩ := frozen8 G5.out
            go_simp
            clear z0 z1 z2 z3 z4 z5 z6 z7 f0 f1 f2 f3 f4 f5 f6 f7
            rw [← set8_def V5 g5 (padI M)]
            have HTn := Lib.hid (set8_below (p := padI M) HT.out q5)
            clear HT
            have HT := HTn
            clear HTn
            have G4n := Lib.hid (set8_other (g := g5) (p := padI M) G4.out (by first | exact hne | exact hne.symm))
            clear G4
            have G4 := G4n
            clear G4n
            have G5n := Lib.hid (set8_box (p := padI M) G5.out)
            clear G5
            have G5 := G5n
            clear G5n
            generalize set8 V5 g5 (padI M) = V6 at *
            refine hK.out _ _ ?_ (fun hHeld => ?_)
            · exact cells22 (X1.out.below HT.out zx) (Y1.out.below HT.out zy)
            clear hK K
            refine wpAnyH_done (by kernel_rfl) ?_ _
            refine NoPanic.normal ?_
            go_wp2_with fail
            go_meet
            case rel => exact ⟨g4, g5, rfl, rfl, (by first | exact hne | exact hne.symm), q4, q5, G4.out, G5.out, HT.out⟩
          · go_simp
            have q5 : w1.heap.size ≤ V2.heap.size := HT.out.size
            have Gx := Lib.hid (Box.new V2 66 #[.int .i64 0, .int .i64 0, .int .i64 0, .int .i64 0, .int .i64 0, .int .i64 0, .int .i64 0, .int .i64 0])
            have HTn := Lib.hid (HT.out.alloc HT.out.size (.cells #[.int .i64 0, .int .i64 0, .int .i64 0, .int .i64 0, .int .i64 0, .int .i64 0, .int .i64 0, .int .i64 0] 66))
            clear HT
            have HT := HTn
            clear HTn
            have G5 := Gx
            clear Gx
            generalize V2.alloc (.cells #[.int .i64 0, .int .i64 0, .int .i64 0, .int .i64 0, .int .i64 0, .int .i64 0, .int .i64 0, .int .i64 0] 66) = V3 at *
            generalize V2.heap.size = g5 at *
            refine hK.out _ _ ?_ (fun hHeld => ?_)
            · exact cells22 (X1.out.below HT.out zx) (Y1.out.below HT.out zy)
            clear hK K
            refine wpAnyH_ready (rs := [4]) (by kernel_rfl) (by simp) ?_
            refine AllReadyH.cons (ops_getP _ _ _ rfl) (fun K hK => ?_) AllReadyH.nil
            go_simp
            have q4 : w1.heap.size ≤ V3.heap.size := HT.out.size
            have Gx := Lib.hid (Box.new V3 66 #[.int .i64 0, .int .i64 0, .int .i64 0, .int .i64 0, .int .i64 0, .int .i64 0, .int .i64 0, .int .i64 0])
            have hne : g5 ≠ V3.heap.size := Nat.ne_of_lt G5.out.lt
            have HTn := Lib.hid (HT.out.alloc HT.out.size (.cells #[.int .i64 0, .int .i64 0, .int .i64 0, .int .i64 0, .int .i64 0, .int .i64 0, .int .i64 0, .int .i64 0] 66))
            clear HT
            have HT := HTn
            clear HTn
            have G5n := Lib.hid (G5.out.alloc (.cells #[.int .i64 0, .int .i64 0, .int .i64 0, .int .i64 0, .int .i64 0, .int .i64 0, .int .i64 0, .int .i64 0] 66))
            clear G5
            have G5 := G5n
            clear G5n
            have G4 := Gx
            clear Gx
            generalize V3.alloc (.cells #[.int .i64 0, .int .i64 0, .int .i64 0, .int .i64 0, .int .i64 0, .int .i64 0, .int .i64 0, .int .i64 0] 66) = V4 at *
            generalize V3.heap.size = g4 at *
            refine hK.out _ _ ?_ (fun hHeld => ?_)
            · exact cells22 (X1.out.below HT.out zx) (Y1.out.below HT.out zy)
            clear hK K
            refine wpAnyH_ready (rs := [6]) (by kernel_rfl) (by simp) ?_
            refine AllReadyH.cons (ops_getP _ _ _ rfl) (fun K hK => ?_) AllReadyH.nil
            obtain ⟨z0, z1, z2, z3, z4, z5, z6, z7⟩ := cells8 G4.out
            obtain ⟨f0, f1, f2, f3, f4, f5, f6, f7⟩ := frozen8 G4.out
            go_simp
            clear z0 z1 z2 z3 z4 z5 z6 z7 f0 f1 f2 f3 f4 f5 f6 f7
            rw [← set8_def V4 g4 (padI L)]
            have HTn := Lib.hid (set8_below (p := padI L) HT.out q4)
            clear HT
            have HT := HTn
            clear HTn
            have G5n := Lib.hid (set8_other (g := g4) (p := padI L) G5.out (by first | exact hne | exact hne.symm))
            clear G5
            have G5 := G5n
            clear G5n
            have G4n := Lib.hid (set8_box (p := padI L) G4.out)
            clear G4
            have G4 := G4n
            clear G4n
            generalize set8 V4 g4 (padI L) = V5 at *
            refine hK.out _ _ ?_ (fun hHeld => ?_)
            · exact cells22 (X1.out.below HT.out zx) (Y1.out.below HT.out zy)
            clear hK K
            refine wpAnyH_ready (rs := [7]) (by kernel_rfl) (by simp) ?_
            refine AllReadyH.cons (ops_getP _ _ _ rfl) (fun K hK => ?_) AllReadyH.nil
            obtain ⟨z0, z1, z2, z3, z4, z5, z6, z7⟩ := cells8 G5.out
            obtain ⟨f0, f1, f2, f3, f4, f5, f6, f7⟩ := frozen8 G5.out
            go_simp
            clear z0 z1 z2 z3 z4 z5 z6 z7 f0 f1 f2 f3 f4 f5 f6 f7
            rw [← set8_def V5 g5 (padI M)]
            have HTn := Lib.hid (set8_below (p := padI M) HT.out q5)
            clear HT
            have HT := HTn
            clear HTn
            have G4n := Lib.hid (set8_other (g := g5) (p := padI M) G4.out (by first | exact hne | exact hne.symm))
            clear G4
            have G4 := G4n
            clear G4n
            have G5n := Lib.hid (set8_box (p := padI M) G5.out)
            clear G5
            have G5 := G5n
            clear G5n
            generalize set8 V5 g5 (padI M) = V6 at *
            refine hK.out _ _ ?_ (fun hHeld => ?_)
            · exact cells22 (X1.out.below HT.out zx) (Y1.out.below HT.out zy)
            clear hK K
            refine wpAnyH_done (by kernel_rfl) ?_ _
            refine NoPanic.normal ?_
            go_wp2_with fail
            go_meet
            case rel => exact ⟨g4, g5, rfl, rfl, (by first | exact hne | exact hne.symm), q4, q5, G4.out, G5.out, HT.out⟩
        · go_simp
          have q4 : w1.heap.size ≤ V1.heap.size := HT.out.size
          have Gx := Lib.hid (Box.new V1 66 #[.int .i64 0, .int .i64 0, .int .i64 0, .int .i64 0, .int .i64 0, .int .i64 0, .int .i64 0, .int .i64 0])
          have HTn := Lib.hid (HT.out.alloc HT.out.size (.cells #[.int .i64 0, .int .i64 0, .int .i64 0, .int .i64 0, .int .i64 0, .int .i64 0, .int .i64 0, .int .i64 0] 66))
          clear HT
          have HT := HTn
          clear HTn
          have G4 := Gx
          clear Gx
          generalize V1.alloc (.cells #[.int .i64 0, .int .i64 0, .int .i64 0, .int .i64 0, .int .i64 0, .int .i64 0, .int .i64 0, .int .i64 0] 66) = V2 at *
          generalize V1.heap.size = g4 at *
          refine hK.out _ _ ?_ (fun hHeld => ?_)
          · exact cells22 (X1.out.below HT.out zx) (Y1.out.below HT.out zy)
          clear hK K
          refine wpAnyH_ready (rs := [3, 5]) (by kernel_rfl) (by simp) ?_
          refine AllReadyH.cons (ops_getP _ _ _ rfl) (fun K hK => ?_) (AllReadyH.cons (ops_getP _ _ _ rfl) (fun K hK => ?_) AllReadyH.nil)
          · go_simp
            refine (pegsOf_calls D m d 3 M _ HM.out h8 (HJ1.out.below HT.out)).mono ?_
            rintro e V3 ⟨rfl, hb⟩
            have HTn := Lib.hid (HT.out.trans (hb.mono HT.out.size))
            clear HT
            have HT := HTn
            clear HTn
            have G4n := Lib.hid (G4.out.below hb G4.out.lt)
            clear G4
            have G4 := G4n
            clear G4n
            clear hb
            try go_simp
            refine hK.out _ _ ?_ (fun hHeld => ?_)
            · exact cells22 (X1.out.below HT.out zx) (Y1.out.below HT.out zy)
            clear hK K
            refine wpAnyH_ready (rs := [5]) (by kernel_rfl) (by simp) ?_
            refine AllReadyH.cons (ops_getP _ _ _ rfl) (fun K hK => ?_) AllReadyH.nil
            go_simp
            have q5 : w1.heap.size ≤ V3.heap.size := HT.out.size
            have Gx := Lib.hid (Box.new V3 66 #[.int .i64 0, .int .i64 0, .int .i64 0, .int .i64 0, .int .i64 0, .int .i64 0, .int .i64 0, .int .i64 0])
            have hne : g4 ≠ V3.heap.size := Nat.ne_of_lt G4.out.lt
            have HTn := Lib.hid (HT.out.alloc HT.out.size (.cells #[.int .i64 0, .int .i64 0, .int .i64 0, .int .i64 0, .int .i64 0, .int .i64 0, .int .i64 0, .int .i64 0] 66))
            clear HT
            have HT := HTn
            clear HTn
            have G4n := Lib.hid (G4.out.alloc (.cells #[.int .i64 0, .int .i64 0, .int .i64 0, .int .i64 0, .int .i64 0, .int .i64 0, .int .i64 0, .int .i64 0] 66))
            clear G4
            have G4 := G4n
            clear G4n
            have G5 := Gx
            clear Gx
            generalize V3.alloc (.cells #[.int .i64 0, .int .i64 0, .int .i64 0, .int .i64 0, .int .i64 0, .int .i64 0, .int .i64 0, .int .i64 0] 66) = V4 at *
            generalize V3.heap.size = g5 at *
            refine hK.out _ _ ?_ (fun hHeld => ?_)
            · exact cells22 (X1.out.below HT.out zx) (Y1.out.below HT.out zy)
            clear hK K
            refine wpAnyH_ready (rs := [6]) (by kernel_rfl) (by simp) ?_
            refine AllReadyH.cons (ops_getP _ _ _ rfl) (fun K hK => ?_) AllReadyH.nil
            obtain ⟨z0, z1, z2, z3, z4, z5, z6, z7⟩ := cells8 G4.out
            obtain ⟨f0, f1, f2, f3, f4, f5, f6, f7⟩ := frozen8 G4.out
            go_simp
            clear z0 z1 z2 z3 z4 z5 z6 z7 f0 f1 f2 f3 f4 f5 f6 f7
            rw [← set8_def V4 g4 (padI L)]
            have HTn := Lib.hid (set8_below (p := padI L) HT.out q4)
            clear HT
            have HT := HTn
            clear HTn
            have G5n := Lib.hid (set8_other (g := g4) (p := padI L) G5.out (by first | exact hne | exact hne.symm))
            clear G5
            have G5 := G5n
            clear G5n
            have G4n := Lib.hid (set8_box (p := padI L) G4.out)
            clear G4
            have G4 := G4n
            clear G4n
            generalize set8 V4 g4 (padI L) = V5 at *
            refine hK.out _ _ ?_ (fun hHeld => ?_)
            · exact cells22 (X1.out.below HT.out zx) (Y1.out.below HT.out zy)
            clear hK K
            refine wpAnyH_ready (rs := [7]) (by kernel_rfl) (by simp) ?_
            refine AllReadyH.cons (ops_getP _ _ _ rfl) (fun K hK => ?_) AllReadyH.nil
            obtain ⟨z0, z1, z2, z3, z4, z5, z6, z7⟩ := cells8 G5.out
            obtain ⟨f0, f1, f2, f3, f4, f5, f6, f7⟩ := frozen8 G5.out
            go_simp
            clear z0 z1 z2 z3 z4 z5 z6 z7 f0 f1 f2 f3 f4 f5 f6 f7
            rw [← set8_def V5 g5 (padI M)]
            have HTn := Lib.hid (set8_below (p := padI M) HT.out q5)
            clear HT
            have HT := HTn
            clear HTn
            have G4n := Lib.hid (set8_other (g := g5) (p := padI M) G4.out (by first | exact hne | exact hne.symm))
            clear G4
            have G4 := G4n
            clear G4n
            have G5n := Lib.hid (set8_box (p := padI M) G5.out)
            clear G5
            have G5 := G5n
            clear G5n
            generalize set8 V5 g5 (padI M) = V6 at *
            refine hK.out _ _ ?_ (fun hHeld => ?_)
            · exact cells22 (X1.out.below HT.out zx) (Y1.out.below HT.out zy)
            clear hK K
            refine wpAnyH_done (by kernel_rfl) ?_ _
            refine NoPanic.normal ?_
            go_wp2_with fail
            go_meet
            case rel => exact ⟨g4, g5, rfl, rfl, (by first | exact hne | exact hne.symm), q4, q5, G4.out, G5.out, HT.out⟩
          · go_simp
            have q5 : w1.heap.size ≤ V2.heap.size := HT.out.size
            have Gx := Lib.hid (Box.new V2 66 #[.int .i64 0, .int .i64 0, .int .i64 0, .int .i64 0, .int .i64 0, .int .i64 0, .int .i64 0, .int .i64 0])
            have hne : g4 ≠ V2.heap.size := Nat.ne_of_lt G4.out.lt
            have HTn := Lib.hid (HT.out.alloc HT.out.size (.cells #[.int .i64 0, .int .i64 0, .int .i64 0, .int .i64 0, .int .i64 0, .int .i64 0, .int .i64 0, .int .i64 0] 66))
            clear HT
            have HT := HTn
            clear HTn
            have G4n := Lib.hid (G4.out.alloc (.cells #[.int .i64 0, .int .i64 0, .int .i64 0, .int .i64 0, .int .i64 0, .int .i64 0, .int .i64 0, .int .i64 0] 66))
            clear G4
            have G4 := G4n
            clear G4n
            have G5 := Gx
            clear Gx
            generalize V2.alloc (.cells #[.int .i64 0, .int .i64 0, .int .i64 0, .int .i64 0, .int .i64 0, .int .i64 0, .int .i64 0, .int .i64 0] 66) = V3 at *
            generalize V2.heap.size = g5 at *
            refine hK.out _ _ ?_ (fun hHeld => ?_)
            · exact cells22 (X1.out.below HT.out zx) (Y1.out.below HT.out zy)
            clear hK K
            refine wpAnyH_ready (rs := [3]) (by kernel_rfl) (by simp) ?_
            refine AllReadyH.cons (ops_getP _ _ _ rfl) (fun K hK => ?_) AllReadyH.nil
            go_simp
            refine (pegsOf_calls D m d 3 M _ HM.out h8 (HJ1.out.below HT.out)).mono ?_
            rintro e V4 ⟨rfl, hb⟩
            have HTn := Lib.hid (HT.out.trans (hb.mono HT.out.size))
            clear HT
            have HT := HTn
            clear HTn
            have G4n := Lib.hid (G4.out.below hb G4.out.lt)
            clear G4
            have G4 := G4n
            clear G4n
            have G5n := Lib.hid (G5.out.below hb G5.out.lt)
            clear G5
            have G5 := G5n
            clear G5n
            clear hb
            try go_simp
            refine hK.out _ _ ?_ (fun hHeld => ?_)
            · exact cells22 (X1.out.below HT.out zx) (Y1.out.below HT.out zy)
            clear hK K
            refine wpAnyH_ready (rs := [6]) (by kernel_rfl) (by simp) ?_
            refine AllReadyH.cons (ops_getP _ _ _ rfl) (fun K hK => ?_) AllReadyH.nil
            obtain ⟨z0, z1, z2, z3, z4, z5, z6, z7⟩ := cells8 G4.out
            obtain ⟨f0, f1, f2, f3, f4, f5, f6, f7⟩ := frozen8 G4.out
            go_simp
            clear z0 z1 z2 z3 z4 z5 z6 z7 f0 f1 f2 f3 f4 f5 f6 f7
            rw [← set8_def V4 g4 (padI L)]
            have HTn := Lib.hid (set8_below (p := padI L) HT.out q4)
            clear HT
            have HT := HTn
            clear HTn
            have G5n := Lib.hid (set8_other (g := g4) (p := padI L) G5.out (by first | exact hne | exact hne.symm))
            clear G5
            have G5 := G5n
            clear G5n
            have G4n := Lib.hid (set8_box (p := padI L) G4.out)
            clear G4
            have G4 := G4n
            clear G4n
            generalize set8 V4 g4 (padI L) = V5 at *
            refine hK.out _ _ ?_ (fun hHeld => ?_)
            · exact cells22 (X1.out.below HT.out zx) (Y1.out.below HT.out zy)
            clear hK K
            refine wpAnyH_ready (rs := [7]) (by kernel_rfl) (by simp) ?_
            refine AllReadyH.cons (ops_getP _ _ _ rfl) (fun K hK => ?_) AllReadyH.nil
            obtain ⟨z0, z1, z2, z3, z4, z5, z6, z7⟩ := cells8 G5.out
            obtain ⟨f0, f1, f2, f3, f4, f5, f6, f7⟩ := frozen8 G5.out
            go_simp
            clear z0 z1 z2 z3 z4 z5 z6 z7 f0 f1 f2 f3 f4 f5 f6 f7
            rw [← set8_def V5 g5 (padI M)]
            have HTn := Lib.hid (set8_below (p := padI M) HT.out q5)
            clear HT
            have HT := HTn
            clear HTn
            have G4n := Lib.hid (set8_other (g := g5) (p := padI M) G4.out (by first | exact hne | exact hne.symm))
            clear G4
            have G4 := G4n
            clear G4n
            have G5n := Lib.hid (set8_box (p := padI M) G5.out)
            clear G5
            have G5 := G5n
            clear G5n
            generalize set8 V5 g5 (padI M) = V6 at *
            refine hK.out _ _ ?_ (fun hHeld => ?_)
            · exact cells22 (X1.out.below HT.out zx) (Y1.out.below HT.out zy)
            clear hK K
            refine wpAnyH_done (by kernel_rfl) ?_ _
            refine NoPanic.normal ?_
            go_wp2_with fail
            go_meet
            case rel => exact ⟨g4, g5, rfl, rfl, (by first | exact hne | exact hne.symm), q4, q5, G4.out, G5.out, HT.out⟩
        · go_simp
          have q5 : w1.heap.size ≤ V1.heap.size := HT.out.size
          have Gx := Lib.hid (Box.new V1 66 #[.int .i64 0, .int .i64 0, .int .i64 0, .int .i64 0, .int .i64 0, .int .i64 0, .int .i64 0, .int .i64 0])
          have HTn := Lib.hid (HT.out.alloc HT.out.size (.cells #[.int .i64 0, .int .i64 0, .int .i64 0, .int .i64 0, .int .i64 0, .int .i64 0, .int .i64 0, .int .i64 0] 66))
          clear HT
          have HT := HTn
          clear HTn
          have G5 := Gx
          clear Gx
          generalize V1.alloc (.cells #[.int .i64 0, .int .i64 0, .int .i64 0, .int .i64 0, .int .i64 0, .int .i64 0, .int .i64 0, .int .i64 0] 66) = V2 at *
          generalize V1.heap.size = g5 at *
          refine hK.out _ _ ?_ (fun hHeld => ?_)
          · exact cells22 (X1.out.below HT.out zx) (Y1.out.below HT.out zy)
          clear hK K
          refine wpAnyH_ready (rs := [3, 4]) (by kernel_rfl) (by simp) ?_
          refine AllReadyH.cons (ops_getP _ _ _ rfl) (fun K hK => ?_) (AllReadyH.cons (ops_getP _ _ _ rfl) (fun K hK => ?_) AllReadyH.nil)
          · go_simp
            refine (pegsOf_calls D m d 3 M _ HM.out h8 (HJ1.out.below HT.out)).mono ?_
            rintro e V3 ⟨rfl, hb⟩
            have HTn := Lib.hid (HT.out.trans (hb.mono HT.out.size))
            clear HT
            have HT := HTn
            clear HTn
            have G5n := Lib.hid (G5.out.below hb G5.out.lt)
            clear G5
            have G5 := G5n
            clear G5n
            clear hb
            try go_simp
            refine hK.out _ _ ?_ (fun hHeld => ?_)
            · exact cells22 (X1.out.below HT.out zx) (Y1.out.below HT.out zy)
            clear hK K
            refine wpAnyH_ready (rs := [4]) (by kernel_rfl) (by simp) ?_
            refine AllReadyH.cons (ops_getP _ _ _ rfl) (fun K hK => ?_) AllReadyH.nil
            go_simp
            have q4 : w1.heap.size ≤ V3.heap.size := HT.out.size
            have Gx := Lib.hid (Box.new V3 66 #[.int .i64 0, .int .i64 0, .int .i64 0, .int .i64 0, .int .i64 0, .int .i64 0, .int .i64 0, .int .i64 0])
            have hne : g5 ≠ V3.heap.size := Nat.ne_of_lt G5.out.lt
            have HTn := Lib.hid (HT.out.alloc HT.out.size (.cells #[.int .i64 0, .int .i64 0, .int .i64 0, .int .i64 0, .int .i64 0, .int .i64 0, .int .i64 0, .int .i64 0] 66))
            clear HT
            have HT := HTn
            clear HTn
            have G5n := Lib.hid (G5.out.alloc (.cells #[.int .i64 0, .int .i64 0, .int .i64 0, .int .i64 0, .int .i64 0, .int .i64 0, .int .i64 0, .int .i64 0] 66))
            clear G5
            have G5 := G5n
            clear G5n
            have G4 := Gx
            clear Gx
            generalize V3.alloc (.cells #[.int .i64 0, .int .i64 0, .int .i64 0, .int .i64 0, .int .i64 0, .int .i64 0, .int .i64 0, .int .i64 0] 66) = V4 at *
            generalize V3.heap.size = g4 at *
            refine hK.out _ _ ?_ (fun hHeld => ?_)
            · exact cells22 (X1.out.below HT.out zx) (Y1.out.below HT.out zy)
            clear hK K
            refine wpAnyH_ready (rs := [6]) (by kernel_rfl) (by simp) ?_
            refine AllReadyH.cons (ops_getP _ _ _ rfl) (fun K hK => ?_) AllReadyH.nil
            obtain ⟨z0, z1, z2, z3, z4, z5, z6, z7⟩ := cells8 G4.out
            obtain ⟨f0, f1, f2, f3, f4, f5, f6, f7⟩ := frozen8 G4.out
            go_simp
            clear z0 z1 z2 z3 z4 z5 z6 z7 f0 f1 f2 f3 f4 f5 f6 f7
            rw [← set8_def V4 g4 (padI L)]
            have HTn := Lib.hid (set8_below (p := padI L) HT.out q4)
            clear HT
            have HT := HTn
            clear HTn
            have G5n := Lib.hid (set8_other (g := g4) (p := padI L) G5.out (by first | exact hne | exact hne.symm))
            clear G5
            have G5 := G5n
            clear G5n
            have G4n := Lib.hid (set8_box (p := padI L) G4.out)
            clear G4
            have G4 := G4n
            clear G4n
            generalize set8 V4 g4 (padI L) = V5 at *
            refine hK.out _ _ ?_ (fun hHeld => ?_)
            · exact cells22 (X1.out.below HT.out zx) (Y1.out.below HT.out zy)
            clear hK K
            refine wpAnyH_ready (rs := [7]) (by kernel_rfl) (by simp) ?_
            refine AllReadyH.cons (ops_getP _ _ _ rfl) (fun K hK => ?_) AllReadyH.nil
            obtain ⟨z0, z1, z2, z3, z4, z5, z6, z7⟩ := cells8 G5.out
            obtain ⟨f0, f1, f2, f3, f4, f5, f6, f7⟩ := frozen8 G5.out
            go_simp
            clear z0 z1 z2 z3 z4 z5 z6 z7 f0 f1 f2 f3 f4 f5 f6 f7
            rw [← set8_def V5 g5 (padI M)]
            have HTn := Lib.hid (set8_below (p := padI M) HT.out q5)
            clear HT
            have HT := HTn
            clear HTn
            have G4n := Lib.hid (set8_other (g := g5) (p := padI M) G4.out (by first | exact hne | exact hne.symm))
            clear G4
            have G4 := G4n
            clear G4n
            have G5n := Lib.hid (set8_box (p := padI M) G5.out)
            clear G5
            have G5 := G5n
            clear G5n
            generalize set8 V5 g5 (padI M) = V6 at *
            refine hK.out _ _ ?_ (fun hHeld => ?_)
            · exact cells22 (X1.out.below HT.out zx) (Y1.out.below HT.out zy)
            clear hK K
            refine wpAnyH_done (by kernel_rfl) ?_ _
            refine NoPanic.normal ?_
            go_wp2_with fail
            go_meet
            case rel => exact ⟨g4, g5, rfl, rfl, (by first | exact hne | exact hne.symm), q4, q5, G4.out, G5.out, HT.out⟩
          · go_simp
            have q4 : w1.heap.size ≤ V2.heap.size := HT.out.size
            have Gx := Lib.hid (Box.new V2 66 #[.int .i64 0, .int .i64 0, .int .i64 0, .int .i64 0, .int .i64 0, .int .i64 0, .int .i64 0, .int .i64 0])
            have hne : g5 ≠ V2.heap.size := Nat.ne_of_lt G5.out.lt
            have HTn := Lib.hid (HT.out.alloc HT.out.size (.cells #[.int .i64 0, .int .i64 0, .int .i64 0, .int .i64 0, .int .i64 0, .int .i64 0, .int .i64 0, .int .i64 0] 66))
            clear HT
            have HT := HTn
            clear HTn
            have G5n := Lib.hid (G5.out.alloc (.cells #[.int .i64 0, .int .i64 0, .int .i64 0, .int .i64 0, .int .i64 0, .int .i64 0, .int .i64 0, .int .i64 0] 66))
            clear G5
            have G5 := G5n
            clear G5n
            have G4 := Gx
            clear Gx
            generalize V2.alloc (.cells #[.int .i64 0, .int .i64 0, .int .i64 0, .int .i64 0, .int .i64 0, .int .i64 0, .int .i64 0, .int .i64 0] 66) = V3 at *
            generalize V2.heap.size = g4 at *
            refine hK.out _ _ ?_ (fun hHeld => ?_)
            · exact cells22 (X1.out.below HT.out zx) (Y1.out.below HT.out zy)
            clear hK K
            refine wpAnyH_ready (rs := [3]) (by kernel_rfl) (by simp) ?_
            refine AllReadyH.cons (ops_getP _ _ _ rfl) (fun K hK => ?_) AllReadyH.nil
            go_simp
            refine (pegsOf_calls D m d 3 M _ HM.out h8 (HJ1.out.below HT.out)).mono ?_
            rintro e V4 ⟨rfl, hb⟩
            have HTn := Lib.hid (HT.out.trans (hb.mono HT.out.size))
            clear HT
            have HT := HTn
            clear HTn
            have G4n := Lib.hid (G4.out.below hb G4.out.lt)
            clear G4
            have G4 := G4n
            clear G4n
            have G5n := Lib.hid (G5.out.below hb G5.out.lt)
            clear G5
            have G5 := G5n
            clear G5n
            clear hb
            try go_simp
            refine hK.out _ _ ?_ (fun hHeld => ?_)
            · exact cells22 (X1.out.below HT.out zx) (Y1.out.below HT.out zy)
            clear hK K
            refine wpAnyH_ready (rs := [6]) (by kernel_rfl) (by simp) ?_
            refine AllReadyH.cons (ops_getP _ _ _ rfl) (fun K hK => ?_) AllReadyH.nil
            obtain ⟨z0, z1, z2, z3, z4, z5, z6, z7⟩ := cells8 G4.out
            obtain ⟨f0, f1, f2, f3, f4, f5, f6, f7⟩ := frozen8 G4.out
            go_simp
            clear z0 z1 z2 z3 z4 z5 z6 z7 f0 f1 f2 f3 f4 f5 f6 f7
            rw [← set8_def V4 g4 (padI L)]
            have HTn := Lib.hid (set8_below (p := padI L) HT.out q4)
            clear HT
            have HT := HTn
            clear HTn
            have G5n := Lib.hid (set8_other (g := g4) (p := padI L) G5.out (by first | exact hne | exact hne.symm))
            clear G5
            have G5 := G5n
            clear G5n
            have G4n := Lib.hid (set8_box (p := padI L) G4.out)
            clear G4
            have G4 := G4n
            clear G4n
            generalize set8 V4 g4 (padI L) = V5 at *
            refine hK.out _ _ ?_ (fun hHeld => ?_)
            · exact cells22 (X1.out.below HT.out zx) (Y1.out.below HT.out zy)
            clear hK K
            refine wpAnyH_ready (rs := [7]) (by kernel_rfl) (by simp) ?_
            refine AllReadyH.cons (ops_getP _ _ _ rfl) (fun K hK => ?_) AllReadyH.nil
            obtain ⟨z0, z1, z2, z3, z4, z5, z6, z7⟩ := cells8 G5.out
            obtain ⟨f0, f1, f2, f3, f4, f5, f6, f7⟩ := frozen8 G5.out
            go_simp
            clear z0 z1 z2 z3 z4 z5 z6 z7 f0 f1 f2 f3 f4 f5 f6 f7
            rw [← set8_def V5 g5 (padI M)]
            have HTn := Lib.hid (set8_below (p := padI M) HT.out q5)
            clear HT
            have HT := HTn
            clear HTn
            have G4n := Lib.hid (set8_other (g := g5) (p := padI M) G4.out (by first | exact hne | exact hne.symm))
            clear G4
            have G4 := G4n
            clear G4n
            have G5n := Lib.hid (set8_box (p := padI M) G5.out)
            clear G5
            have G5 := G5n
            clear G5n
            generalize set8 V5 g5 (padI M) = V6 at *
            refine hK.out _ _ ?_ (fun hHeld => ?_)
            · exact cells22 (X1.out.below HT.out zx) (Y1.out.below HT.out zy)
            clear hK K
            refine wpAnyH_done (by kernel_rfl) ?_ _
            refine NoPanic.normal ?_
            go_wp2_with fail
            go_meet
            case rel => exact ⟨g4, g5, rfl, rfl, (by first | exact hne | exact hne.symm), q4, q5, G4.out, G5.out, HT.out⟩
      · go_simp
        have q4 : w1.heap.size ≤ V0.heap.size := HT.out.size
        have Gx := Lib.hid (Box.new V0 66 #[.int .i64 0, .int .i64 0, .int .i64 0, .int .i64 0, .int .i64 0, .int .i64 0, .int .i64 0, .int .i64 0])
        have HTn := Lib.hid (HT.out.alloc HT.out.size (.cells #[.int .i64 0, .int .i64 0, .int .i64 0, .int .i64 0, .int .i64 0, .int .i64 0, .int .i64 0, .int .i64 0] 66))
        clear HT
        have HT := HTn
        clear HTn
        have G4 := Gx
        clear Gx
        generalize V0.alloc (.cells #[.int .i64 0, .int .i64 0, .int .i64 0, .int .i64 0, .int .i64 0, .int .i64 0, .int .i64 0, .int .i64 0] 66) = V1 at *
        generalize V0.heap.size = g4 at *
        refine hK.out _ _ ?_ (fun hHeld => ?_)
        · exact cells22 (X1.out.below HT.out zx) (Y1.out.below HT.out zy)
        clear hK K
        refine wpAnyH_ready (rs := [1, 5]) (by kernel_rfl) (by simp) ?_
        refine AllReadyH.cons (ops_getP _ _ _ rfl) (fun K hK => ?_) (AllReadyH.cons (ops_getP _ _ _ rfl) (fun K hK => ?_) AllReadyH.nil)
        · go_simp
          refine (pegsOf_calls A m c 3 L _ HL.out h8 (HI1.out.below HT.out)).mono ?_
          rintro e V2 ⟨rfl, hb⟩
          have HTn := Lib.hid (HT.out.trans (hb.mono HT.out.size))
          clear HT
          have HT := HTn
          clear HTn
          have G4n := Lib.hid (G4.out.below hb G4.out.lt)
          clear G4
          have G4 := G4n
          clear G4n
          clear hb
          try go_simp
          refine hK.out _ _ ?_ (fun hHeld => ?_)
          · exact cells22 (X1.out.below HT.out zx) (Y1.out.below HT.out zy)
          clear hK K
          refine wpAnyH_ready (rs := [3, 5]) (by kernel_rfl) (by simp) ?_
          refine AllReadyH.cons (ops_getP _ _ _ rfl) (fun K hK => ?_) (AllReadyH.cons (ops_getP _ _ _ rfl) (fun K hK => ?_) AllReadyH.nil)
          · go_simp
            refine (pegsOf_calls D m d 3 M _ HM.out h8 (HJ1.out.below HT.out)).mono ?_
            rintro e V3 ⟨rfl, hb⟩
            have HTn := Lib.hid (HT.out.trans (hb.mono HT.out.size))
            clear HT
            have HT := HTn
            clear HTn
            have G4n := Lib.hid (G4.out.below hb G4.out.lt)
            clear G4
            have G4 := G4n
            clear G4n
            clear hb
            try go_simp
            refine hK.out _ _ ?_ (fun hHeld => ?_)
            · exact cells22 (X1.out.below HT.out zx) (Y1.out.below HT.out zy)
            clear hK K
            refine wpAnyH_ready (rs := [5]) (by kernel_rfl) (by simp) ?_
            refine AllReadyH.cons (ops_getP _ _ _ rfl) (fun K hK => ?_) AllReadyH.nil
            go_simp
            have q5 : w1.heap.size ≤ V3.heap.size := HT.out.size
            have Gx := Lib.hid (Box.new V3 66 #[.int .i64 0, .int .i64 0, .int .i64 0, .int .i64 0, .int .i64 0, .int .i64 0, .int .i64 0, .int .i64 0])
            have hne : g4 ≠ V3.heap.size := Nat.ne_of_lt G4.out.lt
            have HTn := Lib.hid (HT.out.alloc HT.out.size (.cells #[.int .i64 0, .int .i64 0, .int .i64 0, .int .i64 0, .int .i64 0, .int .i64 0, .int .i64 0, .int .i64 0] 66))
            clear HT
            have HT := HTn
            clear HTn
            have G4n := Lib.hid (G4.out.alloc (.cells #[.int .i64 0, .int .i64 0, .int .i64 0, .int .i64 0, .int .i64 0, .int .i64 0, .int .i64 0, .int .i64 0] 66))
            clear G4
            have G4 := G4n
            clear G4n
            have G5 := Gx
            clear Gx
            generalize V3.alloc (.cells #[.int .i64 0, .int .i64 0, .int .i64 0, .int .i64 0, .int .i64 0, .int .i64 0, .int .i64 0, .int .i64 0] 66) = V4 at *
            generalize V3.heap.size = g5 at *
            refine hK.out _ _ ?_ (fun hHeld => ?_)
            · exact cells22 (X1.out.below HT.out zx) (Y1.out.below HT.out zy)
            clear hK K
            refine wpAnyH_ready (rs := [6]) (by kernel_rfl) (by simp) ?_
            refine AllReadyH.cons (ops_getP _ _ _ rfl) (fun K hK => ?_) AllReadyH.nil
            obtain ⟨z0, z1, z2, z3, z4, z5, z6, z7⟩ := cells8 G4.out
            obtain ⟨f0, f1, f2, f3, f4, f5, f6, f7⟩ := frozen8 G4.out
            go_simp
            clear z0 z1 z2 z3 z4 z5 z6 z7 f0 f1 f2 f3 f4 f5 f6 f7
            rw [← set8_def V4 g4 (padI L)]
            have HTn := Lib.hid (set8_below (p := padI L) HT.out q4)
            clear HT
            have HT := HTn
            clear HTn
            have G5n := Lib.hid (set8_other (g := g4) (p := padI L) G5.out (by first | exact hne | exact hne.symm))
            clear G5
            have G5 := G5n
            clear G5n
            have G4n := Lib.hid (set8_box (p := padI L) G4.out)
            clear G4
            have G4 := G4n
            clear G4n
            generalize set8 V4 g4 (padI L) = V5 at *
            refine hK.out _ _ ?_ (fun hHeld => ?_)
            · exact cells22 (X1.out.below HT.out zx) (Y1.out.below HT.out zy)
            clear hK K
            refine wpAnyH_ready (rs := [7]) (by kernel_rfl) (by simp) ?_
            refine AllReadyH.cons (ops_getP _ _ _ rfl) (fun K hK => ?_) AllReadyH.nil
            obtain ⟨z0, z1, z2, z3, z4, z5, z6, z7⟩ := cells8 G5.out
            obtain ⟨f0, f1, f2, f3, f4, f5, f6, f7⟩ := frozen8 G5.out
            go_simp
            clear z0 z1 z2 z3 z4 z5 z6 z7 f0 f1 f2 f3 f4 f5 f6 f7
            rw [← set8_def V5 g5 (padI M)]
            have HTn := Lib.hid (set8_below (p := padI M) HT.out q5)
            clear HT
            have HT := HTn
            clear HTn
            have G4n := Lib.hid (set8_other (g := g5) (p := padI M) G4.out (by first | exact hne | exact hne.symm))
            clear G4
            have G4 := G4n
            clear G4n
            have G5n := Lib.hid (set8_box (p := padI M) G5.out)
            clear G5
            have G5 := G5n
            clear G5n
            generalize set8 V5 g5 (padI M) = V6 at *
            refine hK.out _ _ ?_ (fun hHeld => ?_)
            · exact cells22 (X1.out.below HT.out zx) (Y1.out.below HT.out zy)
            clear hK K
            refine wpAnyH_done (by kernel_rfl) ?_ _
            refine NoPanic.normal ?_
            go_wp2_with fail
            go_meet
            case rel => exact ⟨g4, g5, rfl, rfl, (by first | exact hne | exact hne.symm), q4, q5, G4.out, G5.out, HT.out⟩
          · go_simp
            have q5 : w1.heap.size ≤ V2.heap.size := HT.out.size
            have Gx := Lib.hid (Box.new V2 66 #[.int .i64 0, .int .i64 0, .int .i64 0, .int .i64 0, .int .i64 0, .int .i64 0, .int .i64 0, .int .i64 0])
            have hne : g4 ≠ V2.heap.size := Nat.ne_of_lt G4.out.lt
            have HTn := Lib.hid (HT.out.alloc HT.out.size (.cells #[.int .i64 0, .int .i64 0, .int .i64 0, .int .i64 0, .int .i64 0, .int .i64 0, .int .i64 0, .int .i64 0] 66))
            clear HT
            have HT := HTn
            clear HTn
            have G4n := Lib.hid (G4.out.alloc (.cells #[.int .i64 0, .int .i64 0, .int .i64 0, .int .i64 0, .int .i64 0, .int .i64 0, .int .i64 0, .int .i64 0] 66))
            clear G4
            have G4 := G4n
            clear G4n
            have G5 := Gx
            clear Gx
            generalize V2.alloc (.cells #[.int .i64 0, .int .i64 0, .int .i64 0, .int .i64 0, .int .i64 0, .int .i64 0, .int .i64 0, .int .i64 0] 66) = V3 at *
            generalize V2.heap.size = g5 at *
            refine hK.out _ _ ?_ (fun hHeld => ?_)
            · exact cells22 (X1.out.below HT.out zx) (Y1.out.below HT.out zy)
            clear hK K
            refine wpAnyH_ready (rs := [3]) (by kernel_rfl) (by simp) ?_
            refine AllReadyH.cons (ops_getP _ _ _ rfl) (fun K hK => ?_) AllReadyH.nil
            go_simp
            refine (pegsOf_calls D m d 3 M _ HM.out h8 (HJ1.out.below HT.out)).mono ?_
            rintro e V4 ⟨rfl, hb⟩
            have HTn := Lib.hid (HT.out.trans (hb.mono HT.out.size))
            clear HT
            have HT := HTn
            clear HTn
            have G4n := Lib.hid (G4.out.below hb G4.out.lt)
            clear G4
            have G4 := G4n
            clear G4n
            have G5n := Lib.hid (G5.out.below hb G5.out.lt)
            clear G5
            have G5 := G5n
            clear G5n
            clear hb
            try go_simp
            refine hK.out _ _ ?_ (fun hHeld => ?_)
            · exact cells22 (X1.out.below HT.out zx) (Y1.out.below HT.out zy)
            clear hK K
            refine wpAnyH_ready (rs := [6]) (by kernel_rfl) (by simp) ?_
            refine AllReadyH.cons (ops_getP _ _ _ rfl) (fun K hK => ?_) AllReadyH.nil
            obtain ⟨z0, z1, z2, z3, z4, z5, z6, z7⟩ := cells8 G4.out
            obtain ⟨f0, f1, f2, f3, f4, f5, f6, f7⟩ := frozen8 G4.out
            go_simp
            clear z0 z1 z2 z3 z4 z5 z6 z7 f0 f1 f2 f3 f4 f5 f6 f7
            rw [← set8_def V4 g4 (padI L)]
            have HTn := Lib.hid (set8_below (p := padI L) HT.out q4)
            clear HT
            have HT := HTn
            clear HTn
            have G5n := Lib.hid (set8_other (g := g4) (p := padI L) G5.out (by first | exact hne | exact hne.symm))
            clear G5
            have G5 := G5n
            clear G5n
            have G4n := Lib.hid (set8_box (p := padI L) G4.out)
            clear G4
            have G4 := G4n
            clear G4n
            generalize set8 V4 g4 (padI L) = V5 at *
            refine hK.out _ _ ?_ (fun hHeld => ?_)
            · exact cells22 (X1.out.below HT.out zx) (Y1.out.below HT.out zy)
            clear hK K
            refine wpAnyH_ready (rs := [7]) (by kernel_rfl) (by simp) ?_
            refine AllReadyH.cons (ops_getP _ _ _ rfl) (fun K hK => ?_) AllReadyH.nil
            obtain ⟨z0, z1, z2, z3, z4, z5, z6, z7⟩ := cells8 G5.out
            obtain ⟨f0, f1, f2, f3, f4, f5, f6, f7⟩ := frozen8 G5.out
            go_simp
            clear z0 z1 z2 z3 z4 z5 z6 z7 f0 f1 f2 f3 f4 f5 f6 f7
            rw [← set8_def V5 g5 (padI M)]
            have HTn := Lib.hid (set8_below (p := padI M) HT.out q5)
            clear HT
            have HT := HTn
            clear HTn
            have G4n := Lib.hid (set8_other (g := g5) (p := padI M) G4.out (by first | exact hne | exact hne.symm))
            clear G4
            have G4 := G4n
            clear G4n
            have G5n := Lib.hid (set8_box (p := padI M) G5.out)
            clear G5
            have G5 := G5n
            clear G5n
            generalize set8 V5 g5 (padI M) = V6 at *
            refine hK.out _ _ ?_ (fun hHeld => ?_)
            · exact cells22 (X1.out.below HT.out zx) (Y1.out.below HT.out zy)
            clear hK K
            refine wpAnyH_done (by kernel_rfl) ?_ _
            refine NoPanic.normal ?_
            go_wp2_with fail
            go_meet
            case rel => exact ⟨g4, g5, rfl, rfl, (by first | exact hne | exact hne.symm), q4, q5, G4.out, G5.out, HT.out⟩
        · go_simp
          have q5 : w1.heap.size ≤ V1.heap.size := HT.out.size
          have Gx := Lib.hid (Box.new V1 66 #[.int .i64 0, .int .i64 0, .int .i64 0, .int .i64 0, .int .i64 0, .int .i64 0, .int .i64 0, .int .i64 0])
          have hne : g4 ≠ V1.heap.size := Nat.ne_of_lt G4.out.lt
          have HTn := Lib.hid (HT.out.alloc HT.out.size (.cells #[.int .i64 0, .int .i64 0, .int .i64 0, .int .i64 0, .int .i64 0, .int .i64 0, .int .i64 0, .int .i64 0] 66))
          clear HT
          have HT := HTn
          clear HTn
          have G4n := Lib.hid (G4.out.alloc (.cells #[.int .i64 0, .int .i64 0, .int .i64 0, .int .i64 0, .int .i64 0, .int .i64 0, .int .i64 0, .int .i64 0] 66))
          clear G4
          have G4 := G4n
          clear G4n
          have G5 := Gx
          clear Gx
          generalize V1.alloc (.cells #[.int .i64 0, .int .i64 0, .int .i64 0, .int .i64 0, .int .i64 0, .int .i64 0, .int .i64 0, .int .i64 0] 66) = V2 at *
          generalize V1.heap.size = g5 at *
          refine hK.out _ _ ?_ (fun hHeld => ?_)
          · exact cells22 (X1.out.below HT.out zx) (Y1.out.below HT.out zy)
          clear hK K
          refine wpAnyH_ready (rs := [1]) (by kernel_rfl) (by simp) ?_
          refine AllReadyH.cons (ops_getP _ _ _ rfl) (fun K hK => ?_) AllReadyH.nil
          go_simp
          refine (pegsOf_calls A m c 3 L _ HL.out h8 (HI1.out.below HT.out)).mono ?_
          rintro e V3 ⟨rfl, hb⟩
          have HTn := Lib.hid (HT.out.trans (hb.mono HT.out.size))
          clear HT
          have HT := HTn
          clear HTn
          have G4n := Lib.hid (G4.out.below hb G4.out.lt)
          clear G4
          have G4 := G4n
          clear G4n
          have G5n := Lib.hid (G5.out.below hb G5.out.lt)
          clear G5
          have G5 := G5n
          clear G5n
          clear hb
          try go_simp
          refine hK.out _ _ ?_ (fun hHeld => ?_)
          · exact cells22 (X1.out.below HT.out zx) (Y1.out.below HT.out zy)
          clear hK K
          refine wpAnyH_ready (rs := [3]) (by kernel_rfl) (by simp) ?_
          refine AllReadyH.cons (ops_getP _ _ _ rfl) (fun K hK => ?_) AllReadyH.nil
          go_simp
          refine (pegsOf_calls D m d 3 M _ HM.out h8 (HJ1.out.below HT.out)).mono ?_
          rintro e V4 ⟨rfl, hb⟩
          have HTn := Lib.hid (HT.out.trans (hb.mono HT.out.size))
          clear HT
          have HT := HTn
          clear HTn
          have G4n := Lib.hid (G4.out.below hb G4.out.lt)
          clear G4
          have G4 := G4n
          clear G4n
          have G5n := Lib.hid (G5.out.below hb G5.out.lt)
          clear G5
          have G5 := G5n
          clear G5n
          clear hb
          try go_simp
          refine hK.out _ _ ?_ (fun hHeld => ?_)
          · exact cells22 (X1.out.below HT.out zx) (Y1.out.below HT.out zy)
          clear hK K
          refine wpAnyH_ready (rs := [6]) (by kernel_rfl) (by simp) ?_
          refine AllReadyH.cons (ops_getP _ _ _ rfl) (fun K hK => ?_) AllReadyH.nil
          obtain ⟨z0, z1, z2, z3, z4, z5, z6, z7⟩ := cells8 G4.out
          obtain ⟨f0, f1, f2, f3, f4, f5, f6, f7⟩ := frozen8 G4.out
          go_simp
          clear z0 z1 z2 z3 z4 z5 z6 z7 f0 f1 f2 f3 f4 f5 f6 f7
          rw [← set8_def V4 g4 (padI L)]
          have HTn := Lib.hid (set8_below (p := padI L) HT.out q4)
          clear HT
          have HT := HTn
          clear HTn
          have G5n := Lib.hid (set8_other (g := g4) (p := padI L) G5.out (by first | exact hne | exact hne.symm))
          clear G5
          have G5 := G5n
          clear G5n
          have G4n := Lib.hid (set8_box (p := padI L) G4.out)
          clear G4
          have G4 := G4n
          clear G4n
          generalize set8 V4 g4 (padI L) = V5 at *
          refine hK.out _ _ ?_ (fun hHeld => ?_)
          · exact cells22 (X1.out.below HT.out zx) (Y1.out.below HT.out zy)
          clear hK K
          refine wpAnyH_ready (rs := [7]) (by kernel_rfl) (by simp) ?_
          refine AllReadyH.cons (ops_getP _ _ _ rfl) (fun K hK => ?_) AllReadyH.nil
          obtain ⟨z0, z1, z2, z3, z4, z5, z6, z7⟩ := cells8 G5.out
          obtain ⟨f0, f1, f2, f3, f4, f5, f6, f7⟩ := frozen8 G5.out
          go_simp
          clear z0 z1 z2 z3 z4 z5 z6 z7 f0 f1 f2 f3 f4 f5 f6 f7
          rw [← set8_def V5 g5 (padI M)]
          have HTn := Lib.hid (set8_below (p := padI M) HT.out q5)
          clear HT
          have HT := HTn
          clear HTn
          have G4n := Lib.hid (set8_other (g := g5) (p := padI M) G4.out (by first | exact hne | exact hne.symm))
          clear G4
          have G4 := G4n
          clear G4n
          have G5n := Lib.hid (set8_box (p := padI M) G5.out)
          clear G5
          have G5 := G5n
          clear G5n
          generalize set8 V5 g5 (padI M) = V6 at *
          refine hK.out _ _ ?_ (fun hHeld => ?_)
          · exact cells22 (X1.out.below HT.out zx) (Y1.out.below HT.out zy)
          clear hK K
          refine wpAnyH_done (by kernel_rfl) ?_ _
          refine NoPanic.normal ?_
          go_wp2_with fail
          go_meet
          case rel => exact ⟨g4, g5, rfl, rfl, (by first | exact hne | exact hne.symm), q4, q5, G4.out, G5.out, HT.out⟩
      · go_simp
        have q5 : w1.heap.size ≤ V0.heap.size := HT.out.size
        have Gx := Lib.hid (Box.new V0 66 #[.int .i64 0, .int .i64 0, .int .i64 0, .int .i64 0, .int .i64 0, .int .i64 0, .int .i64 0, .int .i64 0])
        have HTn := Lib.hid (HT.out.alloc HT.out.size (.cells #[.int .i64 0, .int .i64 0, .int .i64 0, .int .i64 0, .int .i64 0, .int .i64 0, .int .i64 0, .int .i64 0] 66))
        clear HT
        have HT := HTn
        clear HTn
        have G5 := Gx
        clear Gx
        generalize V0.alloc (.cells #[.int .i64 0, .int .i64 0, .int .i64 0, .int .i64 0, .int .i64 0, .int .i64 0, .int .i64 0, .int .i64 0] 66) = V1 at *
        generalize V0.heap.size = g5 at *
        refine hK.out _ _ ?_ (fun hHeld => ?_)
        · exact cells22 (X1.out.below HT.out zx) (Y1.out.below HT.out zy)
        clear hK K
        refine wpAnyH_ready (rs := [1, 4]) (by kernel_rfl) (by simp) ?_
        refine AllReadyH.cons (ops_getP _ _ _ rfl) (fun K hK => ?_) (AllReadyH.cons (ops_getP _ _ _ rfl) (fun K hK => ?_) AllReadyH.nil)
        · go_simp
          refine (pegsOf_calls A m c 3 L _ HL.out h8 (HI1.out.below HT.out)).mono ?_
          rintro e V2 ⟨rfl, hb⟩
          have HTn := Lib.hid (HT.out.trans (hb.mono HT.out.size))
          clear HT
          have HT := HTn
          clear HTn
          have G5n := Lib.hid (G5.out.below hb G5.out.lt)
          clear G5
          have G5 := G5n
          clear G5n
          clear hb
          try go_simp
          refine hK.out _ _ ?_ (fun hHeld => ?_)
          · exact cells22 (X1.out.below HT.out zx) (Y1.out.below HT.out zy)
          clear hK K
          refine wpAnyH_ready (rs := [3, 4]) (by kernel_rfl) (by simp) ?_
          refine AllReadyH.cons (ops_getP _ _ _ rfl) (fun K hK => ?_) (AllReadyH.cons (ops_getP _ _ _ rfl) (fun K hK => ?_) AllReadyH.nil)
          · go_simp
            refine (pegsOf_calls D m d 3 M _ HM.out h8 (HJ1.out.below HT.out)).mono ?_
            rintro e V3 ⟨rfl, hb⟩
            have HTn := Lib.hid (HT.out.trans (hb.mono HT.out.size))
            clear HT
            have HT := HTn
            clear HTn
            have G5n := Lib.hid (G5.out.below hb G5.out.lt)
            clear G5
            have G5 := G5n
            clear G5n
            clear hb
            try go_simp
            refine hK.out _ _ ?_ (fun hHeld => ?_)
            · exact cells22 (X1.out.below HT.out zx) (Y1.out.below HT.out zy)
            clear hK K
            refine wpAnyH_ready (rs := [4]) (by kernel_rfl) (by simp) ?_
            refine AllReadyH.cons (ops_getP _ _ _ rfl) (fun K hK => ?_) AllReadyH.nil
            go_simp
            have q4 : w1.heap.size ≤ V3.heap.size := HT.out.size
            have Gx := Lib.hid (Box.new V3 66 #[.int .i64 0, .int .i64 0, .int .i64 0, .int .i64 0, .int .i64 0, .int .i64 0, .int .i64 0, .int .i64 0])
            have hne : g5 ≠ V3.heap.size := Nat.ne_of_lt G5.out.lt
            have HTn := Lib.hid (HT.out.alloc HT.out.size (.cells #[.int .i64 0, .int .i64 0, .int .i64 0, .int .i64 0, .int .i64 0, .int .i64 0, .int .i64 0, .int .i64 0] 66))
            clear HT
            have HT := HTn
            clear HTn
            have G5n := Lib.hid (G5.out.alloc (.cells #[.int .i64 0, .int .i64 0, .int .i64 0, .int .i64 0, .int .i64 0, .int .i64 0, .int .i64 0, .int .i64 0] 66))
            clear G5
            have G5 := G5n
            clear G5n
            have G4 := Gx
            clear Gx
            generalize V3.alloc (.cells #[.int .i64 0, .int .i64 0, .int .i64 0, .int .i64 0, .int .i64 0, .int .i64 0, .int .i64 0, .int .i64 0] 66) = V4 at *
            generalize V3.heap.size = g4 at *
            refine hK.out _ _ ?_ (fun hHeld => ?_)
            · exact cells22 (X1.out.below HT.out zx) (Y1.out.below HT.out zy)
            clear hK K
            refine wpAnyH_ready (rs := [6]) (by kernel_rfl) (by simp) ?_
            refine AllReadyH.cons (ops_getP _ _ _ rfl) (fun K hK => ?_) AllReadyH.nil
            obtain ⟨z0, z1, z2, z3, z4, z5, z6, z7⟩ := cells8 G4.out
            obtain ⟨f0, f1, f2, f3, f4, f5, f6, f7⟩ := frozen8 G4.out
            go_simp
            clear z0 z1 z2 z3 z4 z5 z6 z7 f0 f1 f2 f3 f4 f5 f6 f7
            rw [← set8_def V4 g4 (padI L)]
            have HTn := Lib.hid (set8_below (p := padI L) HT.out q4)
            clear HT
            have HT := HTn
            clear HTn
            have G5n := Lib.hid (set8_other (g := g4) (p := padI L) G5.out (by first | exact hne | exact hne.symm))
            clear G5
            have G5 := G5n
            clear G5n
            have G4n := Lib.hid (set8_box (p := padI L) G4.out)
            clear G4
            have G4 := G4n
            clear G4n
            generalize set8 V4 g4 (padI L) = V5 at *
            refine hK.out _ _ ?_ (fun hHeld => ?_)
            · exact cells22 (X1.out.below HT.out zx) (Y1.out.below HT.out zy)
            clear hK K
            refine wpAnyH_ready (rs := [7]) (by kernel_rfl) (by simp) ?_
            refine AllReadyH.cons (ops_getP _ _ _ rfl) (fun K hK => ?_) AllReadyH.nil
            obtain ⟨z0, z1, z2, z3, z4, z5, z6, z7⟩ := cells8 G5.out
            obtain ⟨f0, f1, f2, f3, f4, f5, f6, f7⟩ := frozen8 G5.out
            go_simp
            clear z0 z1 z2 z3 z4 z5 z6 z7 f0 f1 f2 f3 f4 f5 f6 f7
            rw [← set8_def V5 g5 (padI M)]
            have HTn := Lib.hid (set8_below (p := padI M) HT.out q5)
            clear HT
            have HT := HTn
            clear HTn
            have G4n := Lib.hid (set8_other (g := g5) (p := padI M) G4.out (by first | exact hne | exact hne.symm))
            clear G4
            have G4 := G4n
            clear G4n
            have G5n := Lib.hid (set8_box (p := padI M) G5.out)
            clear G5
            have G5 := G5n
            clear G5n
            generalize set8 V5 g5 (padI M) = V6 at *
            refine hK.out _ _ ?_ (fun hHeld => ?_)
            · exact cells22 (X1.out.below HT.out zx) (Y1.out.below HT.out zy)
            clear hK K
            refine wpAnyH_done (by kernel_rfl) ?_ _
            refine NoPanic.normal ?_
            go_wp2_with fail
            go_meet
            case rel => exact ⟨g4, g5, rfl, rfl, (by first | exact hne | exact hne.symm), q4, q5, G4.out, G5.out, HT.out⟩
          · go_simp
            have q4 : w1.heap.size ≤ V2.heap.size := HT.out.size
            have Gx := Lib.hid (Box.new V2 66 #[.int .i64 0, .int .i64 0, .int .i64 0, .int .i64 0, .int .i64 0, .int .i64 0, .int .i64 0, .int .i64 0])
            have hne : g5 ≠ V2.heap.size := Nat.ne_of_lt G5.out.lt
            have HTn := Lib.hid (HT.out.alloc HT.out.size (.cells #[.int .i64 0, .int .i64 0, .int .i64 0, .int .i64 0, .int .i64 0, .int .i64 0, .int .i64 0, .int .i64 0] 66))
            clear HT
            have HT := HTn
            clear HTn
            have G5n := Lib.hid (G5.out.alloc (.cells #[.int .i64 0, .int .i64 0, .int .i64 0, .int .i64 0, .int .i64 0, .int .i64 0, .int .i64 0, .int .i64 0] 66))
            clear G5
            have G5 := G5n
            clear G5n
            have G4 := Gx
            clear Gx
            generalize V2.alloc (.cells #[.int .i64 0, .int .i64 0, .int .i64 0, .int .i64 0, .int .i64 0, .int .i64 0, .int .i64 0, .int .i64 0] 66) = V3 at *
            generalize V2.heap.size = g4 at *
            refine hK.out _ _ ?_ (fun hHeld => ?_)
            · exact cells22 (X1.out.below HT.out zx) (Y1.out.below HT.out zy)
            clear hK K
            refine wpAnyH_ready (rs := [3]) (by kernel_rfl) (by simp) ?_
            refine AllReadyH.cons (ops_getP _ _ _ rfl) (fun K hK => ?_) AllReadyH.nil
            go_simp
            refine (pegsOf_calls D m d 3 M _ HM.out h8 (HJ1.out.below HT.out)).mono ?_
            rintro e V4 ⟨rfl, hb⟩
            have HTn := Lib.hid (HT.out.trans (hb.mono HT.out.size))
            clear HT
            have HT := HTn
            clear HTn
            have G4n := Lib.hid (G4.out.below hb G4.out.lt)
            clear G4
            have G4 := G4n
            clear G4n
            have G5n := Lib.hid (G5.out.below hb G5.out.lt)
            clear G5
            have G5 := G5n
            clear G5n
            clear hb
            try go_simp
            refine hK.out _ _ ?_ (fun hHeld => ?_)
            · exact cells22 (X1.out.below HT.out zx) (Y1.out.below HT.out zy)
            clear hK K
            refine wpAnyH_ready (rs := [6]) (by kernel_rfl) (by simp) ?_
            refine AllReadyH.cons (ops_getP _ _ _ rfl) (fun K hK => ?_) AllReadyH.nil
            obtain ⟨z0, z1, z2, z3, z4, z5, z6, z7⟩ := cells8 G4.out
            obtain ⟨f0, f1, f2, f3, f4, f5, f6, f7⟩ := frozen8 G4.out
            go_simp
            clear z0 z1 z2 z3 z4 z5 z6 z7 f0 f1 f2 f3 f4 f5 f6 f7
            rw [← set8_def V4 g4 (padI L)]
            have HTn := Lib.hid (set8_below (p := padI L) HT.out q4)
            clear HT
            have HT := HTn
            clear HTn
            have G5n := Lib.hid (set8_other (g := g4) (p := padI L) G5.out (by first | exact hne | exact hne.symm))
            clear G5
            have G5 := G5n
            clear G5n
            have G4n := Lib.hid (set8_box (p := padI L) G4.out)
            clear G4
            have G4 := G4n
            clear G4n
            generalize set8 V4 g4 (padI L) = V5 at *
            refine hK.out _ _ ?_ (fun hHeld => ?_)
            · exact cells22 (X1.out.below HT.out zx) (Y1.out.below HT.out zy)
            clear hK K
            refine wpAnyH_ready (rs := [7]) (by kernel_rfl) (by simp) ?_
            refine AllReadyH.cons (ops_getP _ _ _ rfl) (fun K hK => ?_) AllReadyH.nil
            obtain ⟨z0, z1, z2, z3, z4, z5, z6, z7⟩ := cells8 G5.out
            obtain ⟨f0, f1, f2, f3, f4, f5, f6, f7⟩ := frozen8 G5.out
            go_simp
            clear z0 z1 z2 z3 z4 z5 z6 z7 f0 f1 f2 f3 f4 f5 f6 f7
            rw [← set8_def V5 g5 (padI M)]
            have HTn := Lib.hid (set8_below (p := padI M) HT.out q5)
            clear HT
            have HT := HTn
            clear HTn
            have G4n := Lib.hid (set8_other (g := g5) (p := padI M) G4.out (by first | exact hne | exact hne.symm))
            clear G4
            have G4 := G4n
            clear G4n
            have G5n := Lib.hid (set8_box (p := padI M) G5.out)
            clear G5
            have G5 := G5n
            clear G5n
            generalize set8 V5 g5 (padI M) = V6 at *
            refine hK.out _ _ ?_ (fun hHeld => ?_)
            · exact cells22 (X1.out.below HT.out zx) (Y1.out.below HT.out zy)
            clear hK K
            refine wpAnyH_done (by kernel_rfl) ?_ _
            refine NoPanic.normal ?_
            go_wp2_with fail
            go_meet
            case rel => exact ⟨g4, g5, rfl, rfl, (by first | exact hne | exact hne.symm), q4, q5, G4.out, G5.out, HT.out⟩
        · go_simp
          have q4 : w1.heap.size ≤ V1.heap.size := HT.out.size
          have Gx := Lib.hid (Box.new V1 66 #[.int .i64 0, .int .i64 0, .int .i64 0, .int .i64 0, .int .i64 0, .int .i64 0, .int .i64 0, .int .i64 0])
          have hne : g5 ≠ V1.heap.size := Nat.ne_of_lt G5.out.lt
          have HTn := Lib.hid (HT.out.alloc HT.out.size (.cells #[.int .i64 0, .int .i64 0, .int .i64 0, .int .i64 0, .int .i64 0, .int .i64 0, .int .i64 0, .int .i64 0] 66))
          clear HT
          have HT := HTn
          clear HTn
          have G5n := Lib.hid (G5.out.alloc (.cells #[.int .i64 0, .int .i64 0, .int .i64 0, .int .i64 0, .int .i64 0, .int .i64 0, .int .i64 0, .int .i64 0] 66))
          clear G5
          have G5 := G5n
          clear G5n
          have G4 := Gx
          clear Gx
          generalize V1.alloc (.cells #[.int .i64 0, .int .i64 0, .int .i64 0, .int .i64 0, .int .i64 0, .int .i64 0, .int .i64 0, .int .i64 0] 66) = V2 at *
          generalize V1.heap.size = g4 at *
          refine hK.out _ _ ?_ (fun hHeld => ?_)
          · exact cells22 (X1.out.below HT.out zx) (Y1.out.below HT.out zy)
          clear hK K
          refine wpAnyH_ready (rs := [1]) (by kernel_rfl) (by simp) ?_
          refine AllReadyH.cons (ops_getP _ _ _ rfl) (fun K hK => ?_) AllReadyH.nil
          go_simp
          refine (pegsOf_calls A m c 3 L _ HL.out h8 (HI1.out.below HT.out)).mono ?_
          rintro e V3 ⟨rfl, hb⟩
          have HTn := Lib.hid (HT.out.trans (hb.mono HT.out.size))
          clear HT
          have HT := HTn
          clear HTn
          have G4n := Lib.hid (G4.out.below hb G4.out.lt)
          clear G4
          have G4 := G4n
          clear G4n
          have G5n := Lib.hid (G5.out.below hb G5.out.lt)
          clear G5
          have G5 := G5n
          clear G5n
          clear hb
          try go_simp
          refine hK.out _ _ ?_ (fun hHeld => ?_)
          · exact cells22 (X1.out.below HT.out zx) (Y1.out.below HT.out zy)
          clear hK K
          refine wpAnyH_ready (rs := [3]) (by kernel_rfl) (by simp) ?_
          refine AllReadyH.cons (ops_getP _ _ _ rfl) (fun K hK => ?_) AllReadyH.nil
          go_simp
          refine (pegsOf_calls D m d 3 M _ HM.out h8 (HJ1.out.below HT.out)).mono ?_
          rintro e V4 ⟨rfl, hb⟩
          have HTn := Lib.hid (HT.out.trans (hb.mono HT.out.size))
          clear HT
          have HT := HTn
          clear HTn
          have G4n := Lib.hid (G4.out.below hb G4.out.lt)
          clear G4
          have G4 := G4n
          clear G4n
          have G5n := Lib.hid (G5.out.below hb G5.out.lt)
          clear G5
          have G5 := G5n
          clear G5n
          clear hb
          try go_simp
          refine hK.out _ _ ?_ (fun hHeld => ?_)
          · exact cells22 (X1.out.below HT.out zx) (Y1.out.below HT.out zy)
          clear hK K
          refine wpAnyH_ready (rs := [6]) (by kernel_rfl) (by simp) ?_
          refine AllReadyH.cons (ops_getP _ _ _ rfl) (fun K hK => ?_) AllReadyH.nil
          obtain ⟨z0, z1, z2, z3, z4, z5, z6, z7⟩ := cells8 G4.out
          obtain ⟨f0, f1, f2, f3, f4, f5, f6, f7⟩ := frozen8 G4.out
          go_simp
          clear z0 z1 z2 z3 z4 z5 z6 z7 f0 f1 f2 f3 f4 f5 f6 f7
          rw [← set8_def V4 g4 (padI L)]
          have HTn := Lib.hid (set8_below (p := padI L) HT.out q4)
          clear HT
          have HT := HTn
          clear HTn
          have G5n := Lib.hid (set8_other (g := g4) (p := padI L) G5.out (by first | exact hne | exact hne.symm))
          clear G5
          have G5 := G5n
          clear G5n
          have G4n := Lib.hid (set8_box (p := padI L) G4.out)
          clear G4
          have G4 := G4n
          clear G4n
          generalize set8 V4 g4 (padI L) = V5 at *
          refine hK.out _ _ ?_ (fun hHeld => ?_)
          · exact cells22 (X1.out.below HT.out zx) (Y1.out.below HT.out zy)
          clear hK K
          refine wpAnyH_ready (rs := [7]) (by kernel_rfl) (by simp) ?_
          refine AllReadyH.cons (ops_getP _ _ _ rfl) (fun K hK => ?_) AllReadyH.nil
          obtain ⟨z0, z1, z2, z3, z4, z5, z6, z7⟩ := cells8 G5.out
          obtain ⟨f0, f1, f2, f3, f4, f5, f6, f7⟩ := frozen8 G5.out
          go_simp
          clear z0 z1 z2 z3 z4 z5 z6 z7 f0 f1 f2 f3 f4 f5 f6 f7
          rw [← set8_def V5 g5 (padI M)]
          have HTn := Lib.hid (set8_below (p := padI M) HT.out q5)
          clear HT
          have HT := HTn
          clear HTn
          have G4n := Lib.hid (set8_other (g := g5) (p := padI M) G4.out (by first | exact hne | exact hne.symm))
          clear G4
          have G4 := G4n
          clear G4n
          have G5n := Lib.hid (set8_box (p := padI M) G5.out)
          clear G5
          have G5 := G5n
          clear G5n
          generalize set8 V5 g5 (padI M) = V6 at *
          refine hK.out _ _ ?_ (fun hHeld => ?_)
          · exact cells22 (X1.out.below HT.out zx) (Y1.out.below HT.out zy)
          clear hK K
          refine wpAnyH_done (by kernel_rfl) ?_ _
          refine NoPanic.normal ?_
          go_wp2_with fail
          go_meet
          case rel => exact ⟨g4, g5, rfl, rfl, (by first | exact hne | exact hne.symm), q4, q5, G4.out, G5.out, HT.out⟩
    case rest =>
      obtain ⟨g, h, rfl, rfl, hne, hg, hh, hG, hH, hbc⟩ := hcut
      have G2 := Lib.hid hG
      have H2 := Lib.hid hH
      have X2 := Lib.hid (X1.out.below hbc zx)
      have R2 := Lib.hid (R1.out.below hbc R1.out.lt)
      have S2 := Lib.hid (S1.out.below hbc S1.out.lt)
      have HB2 := Lib.hid (HB1.out.trans (hbc.mono HB1.out.size))
      have HI2 := Lib.hid (HI1.out.below hbc)
      have hs2 := hbc.size
      clear hG hH hbc c0 c1 c2 c3 X1 Y1 R1 S1 HI1 HJ1 zx zy
      obtain ⟨c0, c1, _, _⟩ := X2.out.two
      go_wp2_with fail
      refine (movesToPeg_calls A m c a _).mono ?_
      rintro e w3 ⟨rfl, hw3⟩
      have bP := (Box.new wc 24 #[.slice A m c]).alloc (.cells #[.int .i64 a] 2)
      have bA := Box.new (wc.alloc (.cells #[.slice A m c] 24)) 2 #[.int .i64 a]
      simp only [World.size_alloc] at bA
      have hb3 : Below wc.heap.size wc ((wc.alloc (.cells #[.slice A m c] 24)).alloc (.cells #[.int .i64 a] 2)) := ((Below.refl _ _).alloc (Nat.le_refl _) _).alloc (by simp) _
      have hsz : ((wc.alloc (.cells #[.slice A m c] 24)).alloc (.cells #[.int .i64 a] 2)).heap.size = wc.heap.size + 2 := by simp
      rw [← hw3] at bP bA hb3 hsz
      have HI3 := Lib.hid (HI2.out.below hb3)
      have HB3 := Lib.hid (HB2.out.trans (hb3.mono HB2.out.size))
      have G3 := Lib.hid (G2.out.below hb3 G2.out.lt)
      have H3 := Lib.hid (H2.out.below hb3 H2.out.lt)
      have R3 := Lib.hid (R2.out.below hb3 R2.out.lt)
      have S3 := Lib.hid (S2.out.below hb3 S2.out.lt)
      have HSQ := Lib.hid (movesToPeg_privS 6 wc.heap.size (wc.heap.size + 1) (by omega) A m c L a HNA.out HL.out h8 HP.out ha _ bP bA HI3.out)
      have hsb := HB3.out.size
      have hgl := G2.out.lt
      have hhl := H2.out.lt
      clear hb3 c0 c1 bP bA hw3 G2 H2 X2 R2 S2 HB2 HI2 HI3
      go_wp2_with fail
      refine (wpIn_wide (n := 7)).1 ?_
      refine rangeFunc_privS (by omega) (gf := 53) (lb := #[.pointer (some ⟨wc.heap.size, 0, none⟩), .pointer (some ⟨wc.heap.size + 1, 0, none⟩)]) rfl (enters_of Try.func53 (by kernel_rfl) rfl) HSQ.out (fun _ => rfl) (fun b hb => by rcases hb with rfl | rfl <;> (rw [hsz]; omega))
        (OnIv g h (w.heap.size + 1 + 1) (w.heap.size + 1 + 1 + 1) wc.heap.size L M a m w.heap.size w) (OnX (onM M L (wayL L a) = true) (w.heap.size + 1 + 1) (w.heap.size + 1 + 1 + 1) w.heap.size w)
        (fun _ X Y row ⟨h1, h2, h3, h4⟩ hg hr => ⟨h1, box_own _ _ _ () X Y row h2 hg (fun r e => (hr r e).2), box_own _ _ _ () X Y row h3 hg (fun r e => (hr r e).2), ownFrom_below (β := Unit) (Nat.le_refl _) hsb () X Y row h4 hg hr⟩)
        (fun R _ X Y row ⟨Lc, h0, h1, h2, h3, h4, h5, h6⟩ hg hr => ⟨Lc, h0, h1, box_own _ _ _ () X Y row h2 hg (fun r e => (hr r e).2), box_own _ _ _ () X Y row h3 hg (fun r e => (hr r e).2), box_own _ _ _ () X Y row h4 hg (fun r e => (hr r e).2), box_own _ _ _ () X Y row h5 hg (fun r e => (hr r e).2), ownFrom_below (β := Unit) (Nat.le_refl _) hsb () X Y row h6 hg hr⟩)
        ?grow
        (fun R hR => ⟨L, ⟨rfl, HL.out, HP.out, rfl⟩, by omega, G3.out, H3.out, R3.out, S3.out, HB3.out⟩)
        (fun R pre x a' W => ∃ Bx, wc.heap.size < Bx ∧ Box W Bx 39 #[.int .i64 x.1, .int .i64 x.2.1, .int .i64 x.2.2] ∧ a' = { tmps := #[.agg #[.int .i64 3, .slice A m c], .int .i64 a, .agg #[.int .i64 3, .slice D m d], .pointer (some ⟨w.heap.size, 0, none⟩), undef, .pointer (some ⟨w.heap.size + 1, 0, none⟩), .pointer (some ⟨w.heap.size + 1 + 1, 0, none⟩), .pointer (some ⟨w.heap.size + 1 + 1 + 1, 0, none⟩), .int .i64 (owE 3 L a 3 M), .pointer (some ⟨g, 0, none⟩), .pointer (some ⟨h, 0, none⟩), .pointer (some ⟨Bx, 0, none⟩), .int .i64 a, .agg #[.int .i64 3, .slice A m c], .agg #[.int .i64 3, .slice D m d], .slice (some ⟨w.heap.size + 1 + 1 + 1 + 1, 0, none⟩) 2 2, .int .i64 (owE 3 L a 3 M), .int .i64 (owE 3 L a 3 M), .bool false, undef, u20, u21, u22, u23, .pointer (some ⟨w.heap.size, 1, none⟩), .slice A m c, .int .i64 a, .func (.func 53) #[] #[.pointer (some ⟨wc.heap.size, 0, none⟩), .pointer (some ⟨wc.heap.size + 1, 0, none⟩)], mvV x, undef, undef, undef, undef, undef, undef, undef, undef, undef, undef, undef], defers := [] })
        (fun R pre x a' _ X Y row hs hg hr => by obtain ⟨Bx, h1, h2, h3⟩ := hs; exact ⟨Bx, h1, box_own Bx 39 _ () X Y row h2 hg (fun r e => (hr r e).2), h3⟩)
        ?assign ?body ?done ?stop
      case grow =>
        rintro R pre A B ⟨Lc, h0, h1, h2, h3, h4, h5, h6⟩ hg
        have q6 : w.heap.size ≤ R := by omega
        exact ⟨Lc, h0, h1, h2.grown hg (by simp; omega), h3.grown hg (by simp; omega), h4.grown hg (by simp; omega), h5.grown hg (by simp; omega), h6.grown hg h6.size (fun k hk => by injection hk with hk; omega)⟩
      case assign =>
        rintro l R pre x W K hR ⟨cs, hcs⟩ hpx ⟨Lc, h0, h1, h2, h3, h4, h5, h6⟩ hK
        have hRl : R < W.heap.size := (Array.getElem?_eq_some_iff.1 hcs).1
        have hle := h6.size
        obtain ⟨x1, x2, x3⟩ := x
        dsimp only [mvEnc, mvV] at hK ⊢
        gi_wp2
        exact hK _ _ ((KeepsOthers.alloc _ _).from _) (keepB_below ((Below.refl W.heap.size W).alloc (Nat.le_refl _) _) (fun b hb => by
          rcases hb with (rfl | rfl) | rfl
          · omega
          · omega
          · exact hRl)) ⟨Lc, h0, h1, h2.alloc _, h3.alloc _, h4.alloc _, h5.alloc _, h6.alloc hle _⟩ ⟨W.heap.size, by omega, Box.new W 39 _, rfl⟩
      case body =>
        rintro l R pre x a' W hR ⟨cs, hcs⟩ hpx ⟨Lc, ⟨hW, hLc, hPc, hON⟩, hRb, hG, hH, hr6, hs7, hB⟩ ⟨Bx, hBx, bX, rfl⟩
        obtain ⟨hf, hx⟩ := way_next hW hPc ha hpx
        have HG := Lib.hid hG
        have HH := Lib.hid hH
        have HR6 := Lib.hid hr6
        have HS7 := Lib.hid hs7
        have HB := Lib.hid hB
        have HLc := Lib.hid hLc
        obtain ⟨y0, y1, y2, y3, y4, y5, y6, y7⟩ := cells8 hG
        obtain ⟨z0, z1, z2, z3, z4, z5, z6, z7⟩ := cells8 hH
        obtain ⟨r0, rf⟩ := hr6.one
        obtain ⟨s0, sf⟩ := hs7.one
        obtain ⟨k0, k1, k2⟩ := bX.three
        by_cases heq : Lc = M
        · have hq := fun V : World => eq8_yes (padI Lc) (padI M) (fun i _ => wfOf (pad_ok hPc i)) (fun i _ => wfOf (pad_ok HPM.out i)) (fun i _ => by rw [heq]) V
          have HON := Lib.hid (show onM M L (wayL L a) = true by rw [hON, heq]; exact on_eq M _)
          clear hG hH hr6 hs7 hB bX hON heq hx hf hpx
          gi_wp2
          exact ⟨((KeepsOthers.setCell _ _ _).trans (KeepsOthers.setCell _ _ _)).from _, HON.out, (HR6.out.set 0 _).other (by simp) _, (HS7.out.other (by simp) _).set 0 _, (HB.out.setCell (by simp; omega) _).setCell (by simp; omega) _⟩
        · obtain ⟨k, hk8, hkn⟩ := pad_diff hLc HM.out h8 heq
          have hq := fun V : World => eq8_no (padI Lc) (padI M) (fun i _ => wfOf (pad_ok hPc i)) (fun i _ => wfOf (pad_ok HPM.out i)) hk8 hkn V
          have HON' := Lib.hid (hON.trans (on_more hPc ha hf heq))
          have HW' := Lib.hid (show wayL L a = (pre ++ [mvW Lc a]) ++ wayL (stepW Lc a) a by rw [hW, wayL_more hPc ha hf]; simp)
          have HLs := Lib.hid (show (stepW Lc a).length = m by rw [stepW_len]; exact hLc)
          have HPs := Lib.hid (stepW_pegs Lc a hPc ha)
          subst hx
          obtain ⟨j, hj⟩ : ∃ j, fdW Lc a = j := ⟨_, rfl⟩
          rw [hj, hLc] at hf
          obtain ⟨Gv, hGv⟩ : ∃ Gv, (goalsL Lc a)[j]?.getD 0 = Gv := ⟨_, rfl⟩
          have hmv : mvW Lc a = ((j : Int), Lc[j]?.getD 0, Gv) := by unfold mvW; rw [hj, hGv]
          have HST := Lib.hid (show stepW Lc a = Lc.set j Gv by unfold stepW; rw [hj, hGv])
          have HMV := Lib.hid hmv
          rw [hmv] at k0 k1 k2
          dsimp only at k0 k1 k2
          have hj8 : j < 8 := by omega
          have hj0 : (0 : Int) ≤ (j : Int) := by omega
          have hj1 : (j : Int) < 8 := by omega
          have hcj := cell8_at hG hj8
          have hfj := hG.frozen j
          have NE6 : w.heap.size + 1 + 1 ≠ g := by omega
          have NE7 : w.heap.size + 1 + 1 + 1 ≠ g := by omega
          have HJL := Lib.hid (show j < Lc.length by rw [hLc]; exact hf)
          clear hG hH hr6 hs7 hB bX hON heq hpx hW hPc hkn hj hmv hGv
          gi_wp2
          refine ⟨(KeepsOthers.setCell _ _ _).from _, ?_, stepW Lc a, ⟨HW'.out, HLs.out, HPs.out, HON'.out⟩, hRb, ?_, HH.out.other (by show h ≠ g; exact fun e => hne e.symm) _, HR6.out.other (by exact NE6) _, HS7.out.other (by exact NE7) _, HB.out.setCell (by show w.heap.size ≤ g; omega) _⟩
          · intro b hb
            refine heap_setCell_other _ _ _ _ ?_
            rcases hb with (rfl | rfl) | rfl
            · show wc.heap.size ≠ g; omega
            · show wc.heap.size + 1 ≠ g; omega
            · show b ≠ g; omega
          · rw [HST.out]
            have := HG.out.set j (.int .i64 Gv)
            rw [arr_set hj8 HJL.out] at this
            exact this
      case done =>
        rintro D R W hD hR ⟨Lc, ⟨hW, hLc, hPc, hON⟩, hRb, hG, hH, hr6, hs7, hB⟩ hK
        have hend : fdW Lc a = Lc.length := by
          have h1 := fdW_le Lc a
          by_cases hf : fdW Lc a < Lc.length
          · have h2 := congrArg List.length hW
            rw [wayL_more hPc ha hf] at h2
            simp at h2
          · omega
        have HR6 := Lib.hid hr6
        have HS7 := Lib.hid hs7
        have HB := Lib.hid hB
        have HK := Lib.hid hK
        obtain ⟨y0, y1, y2, y3, y4, y5, y6, y7⟩ := cells8 hG
        obtain ⟨z0, z1, z2, z3, z4, z5, z6, z7⟩ := cells8 hH
        obtain ⟨r0, rf⟩ := hr6.one
        obtain ⟨s0, sf⟩ := hs7.one
        by_cases heq : Lc = M
        · have hq := fun V : World => eq8_yes (padI Lc) (padI M) (fun i _ => wfOf (pad_ok hPc i)) (fun i _ => wfOf (pad_ok HPM.out i)) (fun i _ => by rw [heq]) V
          have HON := Lib.hid (show onM M L (wayL L a) = true by rw [hON, heq]; exact on_eq M _)
          clear hG hH hr6 hs7 hB hON heq hend hW hK hPc
          go_wp2
          have R6 := Lib.hid ((HR6.out.set 0 (.bool true)).other (a := ⟨w.heap.size + 1 + 1 + 1, 0, none⟩) (by simp) (.int .i64 0))
          have S7 := Lib.hid ((HS7.out.other (a := ⟨w.heap.size + 1 + 1, 0, none⟩) (by simp) (.bool true)).set 0 (.int .i64 0))
          have HBV := Lib.hid ((HB.out.setCell (show w.heap.size ≤ (⟨w.heap.size + 1 + 1, 0, none⟩ : Addr).block by simp; omega) (.bool true)).setCell (show w.heap.size ≤ (⟨w.heap.size + 1 + 1 + 1, 0, none⟩ : Addr).block by simp; omega) (.int .i64 0))
          have hK' : ((W.setCell ⟨w.heap.size + 1 + 1, 0, none⟩ (.bool true)).setCell ⟨w.heap.size + 1 + 1 + 1, 0, none⟩ (.int .i64 0)).heap[D]? = some (.deferred (some [])) := by
            rw [heap_setCell_other _ _ _ _ (show D ≠ w.heap.size + 1 + 1 + 1 by omega), heap_setCell_other _ _ _ _ (show D ≠ w.heap.size + 1 + 1 by omega)]
            exact HK.out
          generalize (W.setCell ⟨w.heap.size + 1 + 1, 0, none⟩ (.bool true)).setCell ⟨w.heap.size + 1 + 1 + 1, 0, none⟩ (.int .i64 0) = V at *
          refine ⟨by simp, .inl ⟨_, _, rfl, run_takeDeferred hK', ?_⟩⟩
          obtain ⟨e0, _⟩ := Box.one (show Box (V.putObj D (.deferred none)) (w.heap.size + 1 + 1) 4 #[.bool true] from (World.putObj_heap_other (by omega)).trans R6.out)
          obtain ⟨e1, _⟩ := Box.one (show Box (V.putObj D (.deferred none)) (w.heap.size + 1 + 1 + 1) 2 #[.int .i64 0] from (World.putObj_heap_other (by omega)).trans S7.out)
          refine ⟨.tuple #[.bool true, .int .i64 0], (by simp [results, Try.results19, go_sem, e0, e1]), ?_⟩
          rw [HON.out, HZ.out]
          exact ⟨rfl, HBV.out.trans (belowK_b (w := w) (Nat.le_refl _) V D _ _ (by omega) hK' rfl rfl)⟩
        · obtain ⟨k, hk8, hkn⟩ := pad_diff hLc HM.out h8 heq
          have hq := fun V : World => eq8_no (padI Lc) (padI M) (fun i _ => wfOf (pad_ok hPc i)) (fun i _ => wfOf (pad_ok HPM.out i)) hk8 hkn V
          have HON := Lib.hid (show onM M L (wayL L a) = false by rw [hON]; exact on_end hend heq)
          clear hG hH hr6 hs7 hB hON heq hend hW hK hPc hkn
          go_wp2
          have R6 := Lib.hid ((HR6.out.set 0 (.bool false)).other (a := ⟨w.heap.size + 1 + 1 + 1, 0, none⟩) (by simp) (.int .i64 0))
          have S7 := Lib.hid ((HS7.out.other (a := ⟨w.heap.size + 1 + 1, 0, none⟩) (by simp) (.bool false)).set 0 (.int .i64 0))
          have HBV := Lib.hid ((HB.out.setCell (show w.heap.size ≤ (⟨w.heap.size + 1 + 1, 0, none⟩ : Addr).block by simp; omega) (.bool false)).setCell (show w.heap.size ≤ (⟨w.heap.size + 1 + 1 + 1, 0, none⟩ : Addr).block by simp; omega) (.int .i64 0))
          have hK' : ((W.setCell ⟨w.heap.size + 1 + 1, 0, none⟩ (.bool false)).setCell ⟨w.heap.size + 1 + 1 + 1, 0, none⟩ (.int .i64 0)).heap[D]? = some (.deferred (some [])) := by
            rw [heap_setCell_other _ _ _ _ (show D ≠ w.heap.size + 1 + 1 + 1 by omega), heap_setCell_other _ _ _ _ (show D ≠ w.heap.size + 1 + 1 by omega)]
            exact HK.out
          generalize (W.setCell ⟨w.heap.size + 1 + 1, 0, none⟩ (.bool false)).setCell ⟨w.heap.size + 1 + 1 + 1, 0, none⟩ (.int .i64 0) = V at *
          refine ⟨by simp, .inl ⟨_, _, rfl, run_takeDeferred hK', ?_⟩⟩
          obtain ⟨e0, _⟩ := Box.one (show Box (V.putObj D (.deferred none)) (w.heap.size + 1 + 1) 4 #[.bool false] from (World.putObj_heap_other (by omega)).trans R6.out)
          obtain ⟨e1, _⟩ := Box.one (show Box (V.putObj D (.deferred none)) (w.heap.size + 1 + 1 + 1) 2 #[.int .i64 0] from (World.putObj_heap_other (by omega)).trans S7.out)
          refine ⟨.tuple #[.bool false, .int .i64 0], (by simp [results, Try.results19, go_sem, e0, e1]), ?_⟩
          rw [HON.out, HZ.out]
          exact ⟨rfl, HBV.out.trans (belowK_b (w := w) (Nat.le_refl _) V D _ _ (by omega) hK' rfl rfl)⟩
      case stop =>
        rintro D W hD ⟨hq, hr6, hs7, hB⟩ hK'
        have HON := Lib.hid hq
        have R6 := Lib.hid hr6
        have S7 := Lib.hid hs7
        have HBV := Lib.hid hB
        clear hq hr6 hs7 hB
        gi_wp2
        refine ⟨by simp, .inl ⟨_, _, rfl, run_takeDeferred hK', ?_⟩⟩
        obtain ⟨e0, _⟩ := Box.one (show Box (W.putObj D (.deferred none)) (w.heap.size + 1 + 1) 4 #[.bool true] from (World.putObj_heap_other (by omega)).trans R6.out)
        obtain ⟨e1, _⟩ := Box.one (show Box (W.putObj D (.deferred none)) (w.heap.size + 1 + 1 + 1) 2 #[.int .i64 0] from (World.putObj_heap_other (by omega)).trans S7.out)
        refine ⟨.tuple #[.bool true, .int .i64 0], (by simp [results, Try.results19, go_sem, e0, e1]), ?_⟩
        rw [HON.out, HZ.out]
        exact ⟨rfl, HBV.out.trans (belowK_b (w := w) (Nat.le_refl _) W D _ _ (by omega) hK' rfl rfl)⟩
  · have e2 := ow_not hz
    rw [e2]
    have hz' : (owE p L a q M != 0) = true := by simpa using hz
    clear hz e2
    go_enter Try.func19, Try.ntmps19
    go_wp2_with fail
    rw [← HW0.out]
    refine (codeOfPeg_two (w.heap.size + 1 + 1 + 1 + 1) A n c p L D m d q M a W0 Z0.out HL.out hn HI0.out HM.out hm HJ0.out).mono ?_
    rintro e w1 ⟨rfl, hb1⟩
    have R1 := Lib.hid (R0.out.below hb1 R0.out.lt)
    have S1 := Lib.hid (S0.out.below hb1 S0.out.lt)
    have HB1 := Lib.hid (HB0.out.trans (hb1.mono HB0.out.size))
    clear hb1
    obtain ⟨r0, rf⟩ := R1.out.one
    obtain ⟨s0, sf⟩ := S1.out.one
    obtain ⟨e0, _⟩ := Box.one (show Box _ (w.heap.size + 1 + 1) 4 #[.bool false] from (R1.out.set 0 (.bool false)).other (a := ⟨w.heap.size + 1 + 1 + 1, 0, none⟩) (by simp) (.int .i64 (owE p L a q M)))
    obtain ⟨e1, _⟩ := Box.one (show Box _ (w.heap.size + 1 + 1 + 1) 2 #[.int .i64 (owE p L a q M)] from (S1.out.other (a := ⟨w.heap.size + 1 + 1, 0, none⟩) (by simp) (.bool false)).set 0 (.int .i64 (owE p L a q M)))
    go_wp2
    refine bodyPost_ret (v := .tuple #[.bool false, .int .i64 (owE p L a q M)]) (by simp [results, Try.results19, go_sem, e0, e1]) rfl ⟨rfl, ?_⟩
    exact (HB1.out.setCell (by simp; omega) _).setCell (by simp; omega) _

end Go.Proofs.Ytnbjnlgdolhlmaa
