/- Contracts: the least moves by rules, by the program. -/
import Derived.Test.YtbcgoboeeigcgaaRuLs
import Derived.Test.YtbcgoboeeigcgaaRuTabs
import Derived.Test.YtbcgoboeeigcgaaGoals
namespace Go.Proofs.Ytbcgoboeeigcgaa
open Go.RowKit
set_option linter.unusedVariables false

theorem boxL_three {w : World} {b t : Nat} {u v x : Value} (h : Box w b t #[u, v, x]) : w.cell? ⟨b, 0, none⟩ = some u ∧ w.cell? ⟨b, 1, none⟩ = some v ∧ w.cell? ⟨b, 2, none⟩ = some x := h.three
/-- A run of least moves: its box R, its tables in block g, its list. -/
structure LRun (w : World) (r : Nat → Int) (R g K B : Nat) (A : Option Addr) (q d : Nat) (M : List Mv) : Prop where
  box : Box w R 56 #[.iface 27 (.agg (z9 r)), .slice (some ⟨g, 0, none⟩) K K, .slice A q d]
  own : OwnM B w A q d M
  lt : R < B ∧ g < B ∧ g ≠ R
  sz : B ≤ w.heap.size
  row : w.rowIs g 45 (K * 9) (upT (alR r) K)
theorem LRun.below {w w' : World} {r : Nat → Int} {R g K B q d : Nat} {A : Option Addr} {M : List Mv} (h : LRun w r R g K B A q d M) (hb : Below w.heap.size w w') : LRun w' r R g K B A q d M :=
  ⟨h.box.below hb h.box.lt, OwnG.below h.own hb, h.lt, Nat.le_trans h.sz hb.size, h.row.of_block (hb.block _ h.row.lt)⟩

set_option maxHeartbeats 1000000 in
theorem lmove_calls (r : Nat → Int) (R g K B : Nat) (A : Option Addr) (q d : Nat) (M : List Mv) (n i j : Int) (w : World) (hL : LRun w r R g K B A q d M) (hq : q ≤ 20000) :
    Calls Try.prog 47 #[.pointer (some ⟨R, 0, none⟩), .int .i64 n, .int .i64 i, .int .i64 j] w fun e w' => e = .returned (.tuple #[]) ∧ ∃ A' d', LRun w' r R g K B A' (q + 1) d' (M ++ [(n, i, j)]) ∧ Below R w w' := by
  obtain ⟨hx, hO, ⟨hRB, hgB, hgR⟩, hsz, hrow⟩ := hL
  obtain ⟨i0, hi, hz0, hz1, hz2⟩ := info_parts Try.infoM
  have HX := Lib.hid hx
  have HO := Lib.hid hO
  have HR := Lib.hid hrow
  have hlt := hx.lt
  obtain ⟨x0, x1, x2⟩ := hx.three
  clear hx hO hrow x0 x1
  go_enter Try.func47, Try.ntmps47
  go_wp2_with (at_builtin; refine wpList_append_own _ rfl _ _ 32 rfl B 60 i0 (.agg #[.int .i64 0, .int .i64 0, .int .i64 0]) 3 24 Try.underlying32 hi hz0 hz1 hz2 rfl (by decide) _ _ _ rfl ((HO.out).alloc _) ⟨w.heap.size, 0, none⟩ 1 1 [.int .i64 n, .int .i64 i, .int .i64 j] rfl rfl (World.news_of_block (cs := #[.int .i64 n, .int .i64 i, .int .i64 j]) (t := 60) (fr := (0, 0)) (heap_alloc_new w _)) (by simp [Value.oneCell']) (by unfold maxLen; omega) (by omega) (by simp; omega) ?_; intro v' w4 hown' hgrow _; obtain ⟨A4, c4, rfl⟩ := ownG_shape hown'; have O4 := Lib.hid (show OwnM B w4 A4 (q + 1) c4 (M ++ [(n, i, j)]) from by unfold OwnM; rw [mvCells_snoc]; exact hown'); have X4 := Lib.hid (HO.out.grown_box hgrow HX.out (by decide)); have B4 := Lib.hid (HO.out.grown_below hgrow (Nat.le_refl _) hsz); have cx := X4.out.three.2.2; have fx := X4.out.frozen 2; clear hown' hgrow)
  go_end0
  refine ⟨rfl, A4, c4, ⟨X4.out.set 2 _, O4.out.setBoxed X4.out (by decide) _ _, ⟨hRB, hgB, hgR⟩, ?_, ?_⟩, (B4.out.mono (Nat.le_of_lt hRB)).setCell (Nat.le_refl _) _⟩
  · have := B4.out.size
    simp
    omega
  · exact (HR.out.of_block (B4.out.block g hgB)).setOther hgR _

theorem keep11 {B b g n : Nat} {W W' : World} {u0 u1 u2 u3 u4 u5 u6 u7 u8 u9 u10 : Value} (hb : Below B W W') (hB : b < B) (hg : g < B) (h : W.cell? ⟨b, 0, none⟩ = some u0 ∧ W.cell? ⟨b, 1, none⟩ = some u1 ∧ W.cell? ⟨g, n * 9, none⟩ = some u2 ∧ W.cell? ⟨g, n * 9 + 1, none⟩ = some u3 ∧ W.cell? ⟨g, n * 9 + 2, none⟩ = some u4 ∧ W.cell? ⟨g, n * 9 + 3, none⟩ = some u5 ∧ W.cell? ⟨g, n * 9 + 4, none⟩ = some u6 ∧ W.cell? ⟨g, n * 9 + 5, none⟩ = some u7 ∧ W.cell? ⟨g, n * 9 + 6, none⟩ = some u8 ∧ W.cell? ⟨g, n * 9 + 7, none⟩ = some u9 ∧ W.cell? ⟨g, n * 9 + 8, none⟩ = some u10) : W'.cell? ⟨b, 0, none⟩ = some u0 ∧ W'.cell? ⟨b, 1, none⟩ = some u1 ∧ W'.cell? ⟨g, n * 9, none⟩ = some u2 ∧ W'.cell? ⟨g, n * 9 + 1, none⟩ = some u3 ∧ W'.cell? ⟨g, n * 9 + 2, none⟩ = some u4 ∧ W'.cell? ⟨g, n * 9 + 3, none⟩ = some u5 ∧ W'.cell? ⟨g, n * 9 + 4, none⟩ = some u6 ∧ W'.cell? ⟨g, n * 9 + 5, none⟩ = some u7 ∧ W'.cell? ⟨g, n * 9 + 6, none⟩ = some u8 ∧ W'.cell? ⟨g, n * 9 + 7, none⟩ = some u9 ∧ W'.cell? ⟨g, n * 9 + 8, none⟩ = some u10 :=
  ⟨(hb.cell (p := ⟨b, 0, none⟩) hB).trans h.1, (hb.cell (p := ⟨b, 1, none⟩) hB).trans h.2.1, (hb.cell (p := ⟨g, n * 9, none⟩) hg).trans h.2.2.1, (hb.cell (p := ⟨g, n * 9 + 1, none⟩) hg).trans h.2.2.2.1, (hb.cell (p := ⟨g, n * 9 + 2, none⟩) hg).trans h.2.2.2.2.1, (hb.cell (p := ⟨g, n * 9 + 3, none⟩) hg).trans h.2.2.2.2.2.1, (hb.cell (p := ⟨g, n * 9 + 4, none⟩) hg).trans h.2.2.2.2.2.2.1, (hb.cell (p := ⟨g, n * 9 + 5, none⟩) hg).trans h.2.2.2.2.2.2.2.1, (hb.cell (p := ⟨g, n * 9 + 6, none⟩) hg).trans h.2.2.2.2.2.2.2.2.1, (hb.cell (p := ⟨g, n * 9 + 7, none⟩) hg).trans h.2.2.2.2.2.2.2.2.2.1, (hb.cell (p := ⟨g, n * 9 + 8, none⟩) hg).trans h.2.2.2.2.2.2.2.2.2.2⟩

set_option maxRecDepth 100000 in
set_option maxHeartbeats 4000000 in
theorem lead_calls (r : Nat → Int) (R g K B : Nat) (hT : ∀ m, m ≤ 8 → ∀ k, 0 ≤ tbl (alR r) m k ∧ tbl (alR r) m k ≤ 1000000) :
    ∀ n, n ≤ 8 → n ≤ K → ∀ (i j : Nat), i < 3 → j < 3 → i ≠ j → ∀ (w : World) (A : Option Addr) (d : Nat) (M : List Mv) (q : Nat), LRun w r R g K B A q d M → q + (leL (alR r) n i j).length ≤ 20000 →
    Calls Try.prog 29 #[.pointer (some ⟨R, 0, none⟩), .int .i64 n, .int .i64 i, .int .i64 j] w fun e w' => e = .returned (.tuple #[]) ∧ ∃ A' d', LRun w' r R g K B A' (q + (leL (alR r) n i j).length) d' (M ++ leL (alR r) n i j) ∧ Below R w w' := by
  intro n
  induction n with
  | zero =>
    intro _ _ i j _ _ _ w A d M q hL _
    have HL := Lib.hid hL
    clear hL
    go_enter Try.func29, Try.ntmps29
    go_wp2
    first | go_end0 | ((try simp only [Exit.inBlock, Exit.then]); refine bodyPost_ret (results_none rfl _ _ _) rfl ?_)
    exact ⟨rfl, A, d, by simpa [leL] using HL.out, Below.refl _ _⟩
  | succ n ih =>
    intro hn hnK i j hi3 hj3 hne w A d M q hL hq
    obtain ⟨k, hk⟩ : ∃ k : Nat, i + j + k = 3 := ⟨3 - i - j, by omega⟩
    have hki : (3 : Int) - i - j = (k : Int) := by omega
    have HL0 := Lib.hid hL
    have HIH := Lib.hid ih
    have HTn := Lib.hid (hT n (by omega))
    have hRw := hL.box.lt
    have hgw := hL.row.lt
    clear hL ih hT
    have c0 := (HL0.out.row.cell (i := n * 9) (by omega)).trans (congrArg some (upT_at (alR r) (m := K) (j := 0) (by omega) (by omega)))
    have c1 := (HL0.out.row.cell (i := n * 9 + 1) (by omega)).trans (congrArg some (upT_at (alR r) (m := K) (j := 1) (by omega) (by omega)))
    have c2 := (HL0.out.row.cell (i := n * 9 + 2) (by omega)).trans (congrArg some (upT_at (alR r) (m := K) (j := 2) (by omega) (by omega)))
    have c3 := (HL0.out.row.cell (i := n * 9 + 3) (by omega)).trans (congrArg some (upT_at (alR r) (m := K) (j := 3) (by omega) (by omega)))
    have c4 := (HL0.out.row.cell (i := n * 9 + 4) (by omega)).trans (congrArg some (upT_at (alR r) (m := K) (j := 4) (by omega) (by omega)))
    have c5 := (HL0.out.row.cell (i := n * 9 + 5) (by omega)).trans (congrArg some (upT_at (alR r) (m := K) (j := 5) (by omega) (by omega)))
    have c6 := (HL0.out.row.cell (i := n * 9 + 6) (by omega)).trans (congrArg some (upT_at (alR r) (m := K) (j := 6) (by omega) (by omega)))
    have c7 := (HL0.out.row.cell (i := n * 9 + 7) (by omega)).trans (congrArg some (upT_at (alR r) (m := K) (j := 7) (by omega) (by omega)))
    have c8 := (HL0.out.row.cell (i := n * 9 + 8) (by omega)).trans (congrArg some (upT_at (alR r) (m := K) (j := 8) (by omega) (by omega)))
    obtain ⟨x0, x1, _⟩ := HL0.out.box.three
    unfold z9 at x0
    have hnK' : (n : Int) < (K : Int) := by omega
    have hn0 : (0 : Int) ≤ (n : Int) := by omega
    obtain ⟨o, ho⟩ : ∃ o, wOne (alR r) (tbl (alR r) n) i j = o := ⟨_, rfl⟩
    obtain ⟨t, ht⟩ : ∃ t, wTwo (alR r) (tbl (alR r) n) i j = t := ⟨_, rfl⟩
    have HBO := Lib.hid ho
    have HBT := Lib.hid ht
    clear ho ht
    go_enter Try.func29, Try.ntmps29
    go_wp2_with fail
    refine (thirdPeg_calls i j _ (by omega) (by omega)).mono ?_
    rintro e w' ⟨rfl, rfl⟩
    go_wp2_with fail
    go_region_held3 (fun w' => w'.cell? ⟨R, 0, none⟩ = some (.iface 27 (.agg #[.int .i64 (r 0), .int .i64 (r 1), .int .i64 (r 2), .int .i64 (r 3), .int .i64 (r 4), .int .i64 (r 5), .int .i64 (r 6), .int .i64 (r 7), .int .i64 (r 8)])) ∧ w'.cell? ⟨R, 1, none⟩ = some (.slice (some ⟨g, 0, none⟩) K K) ∧ w'.cell? ⟨g, n * 9, none⟩ = some (.int .i64 (tbl (alR r) n 0)) ∧ w'.cell? ⟨g, n * 9 + 1, none⟩ = some (.int .i64 (tbl (alR r) n 1)) ∧ w'.cell? ⟨g, n * 9 + 2, none⟩ = some (.int .i64 (tbl (alR r) n 2)) ∧ w'.cell? ⟨g, n * 9 + 3, none⟩ = some (.int .i64 (tbl (alR r) n 3)) ∧ w'.cell? ⟨g, n * 9 + 4, none⟩ = some (.int .i64 (tbl (alR r) n 4)) ∧ w'.cell? ⟨g, n * 9 + 5, none⟩ = some (.int .i64 (tbl (alR r) n 5)) ∧ w'.cell? ⟨g, n * 9 + 6, none⟩ = some (.int .i64 (tbl (alR r) n 6)) ∧ w'.cell? ⟨g, n * 9 + 7, none⟩ = some (.int .i64 (tbl (alR r) n 7)) ∧ w'.cell? ⟨g, n * 9 + 8, none⟩ = some (.int .i64 (tbl (alR r) n 8)))
      (first | exact ⟨x0, x1, c0, c1, c2, c3, c4, c5, c6, c7, c8⟩ | exact C1.out | go_keep)
      ((go_at_call 46; refine (wayNumbers_calls r (tbl (alR r) n) i j (by omega) (by omega) HTn.out _ (by omega)).mono ?_; rw [HBO.out, HBT.out]; rintro e w1 ⟨rfl, hb1⟩; have hb1' : Below w.heap.size w w1 := (by first | exact undrewN (undrew hb1) | exact undrew hb1 | exact undrewN hb1 | exact hb1); have C1 := Lib.hid (keep11 hb1' hRw hgw ⟨x0, x1, c0, c1, c2, c3, c4, c5, c6, c7, c8⟩)))
    have HL1 := Lib.hid (HL0.out.below hb1')
    have HBR := Lib.hid (hb1'.mono (show R ≤ w.heap.size by omega))
    obtain ⟨U1, hU1⟩ : ∃ L, leL (alR r) n i k = L := ⟨_, rfl⟩
    obtain ⟨U2, hU2⟩ : ∃ L, leL (alR r) n k j = L := ⟨_, rfl⟩
    obtain ⟨U3, hU3⟩ : ∃ L, leL (alR r) n i j = L := ⟨_, rfl⟩
    obtain ⟨U4, hU4⟩ : ∃ L, leL (alR r) n j i = L := ⟨_, rfl⟩
    have EU1 := Lib.hid hU1
    have EU2 := Lib.hid hU2
    have EU3 := Lib.hid hU3
    have EU4 := Lib.hid hU4
    clear hb1 hb1' C1 HL0 x0 x1 c0 c1 c2 c3 c4 c5 c6 c7 c8 hU1 hU2 hU3 hU4
    by_cases hle : o ≤ t
    · have HV := Lib.hid (show leL (alR r) (n + 1) i j = U1 ++ [((n : Int), (i : Int), (j : Int))] ++ U2 by rw [leL_one (by rw [HBO.out, HBT.out]; exact hle) hk, EU1.out, EU2.out])
      have hql : q + (U1.length + 1 + U2.length) ≤ 20000 := by rw [HV.out] at hq; simp only [List.length_append, List.length_cons, List.length_nil] at hq; omega
      clear hq
      have L1 := HL1
      have BB1 := Lib.hid (Below.refl R w1)
      go_wp2_with fail
      refine (HIH.out (by omega) (by omega) i k (by omega) (by omega) (by omega) _ _ _ M q L1.out (by rw [EU1.out]; omega)).mono ?_
      rw [EU1.out]
      rintro e w2 ⟨rfl, A2, d2, hL, hb⟩
      have L2 := Lib.hid hL
      have BB2 := Lib.hid (BB1.out.trans hb)
      clear hL hb L1 BB1
      go_wp2_with fail
      refine (lmove_calls r R g K B _ (q + U1.length) _ (M ++ U1) n i j _ L2.out (by omega)).mono ?_
      rintro e w3 ⟨rfl, A3, d3, hL, hb⟩
      have L3 := Lib.hid hL
      have BB3 := Lib.hid (BB2.out.trans hb)
      clear hL hb L2 BB2
      go_wp2_with fail
      refine (HIH.out (by omega) (by omega) k j (by omega) (by omega) (by omega) _ _ _ ((M ++ U1) ++ [((n : Int), (i : Int), (j : Int))]) ((q + U1.length) + 1) L3.out (by rw [EU2.out]; omega)).mono ?_
      rw [EU2.out]
      rintro e w4 ⟨rfl, A4, d4, hL, hb⟩
      have L4 := Lib.hid hL
      have BB4 := Lib.hid (BB3.out.trans hb)
      clear hL hb L3 BB3
      go_wp2
      first | go_end0 | ((try simp only [Exit.inBlock, Exit.then]); refine bodyPost_ret (results_none rfl _ _ _) rfl ?_)
      have hlen : (((q + U1.length) + 1) + U2.length) = q + (leL (alR r) (n + 1) i j).length := by rw [HV.out]; simp only [List.length_append, List.length_cons, List.length_nil]; omega
      have happ : (((M ++ U1) ++ [((n : Int), (i : Int), (j : Int))]) ++ U2) = M ++ leL (alR r) (n + 1) i j := by rw [HV.out]; simp only [List.append_assoc]
      have hfin := L4.out
      rw [hlen, happ] at hfin
      exact ⟨rfl, _, _, hfin, HBR.out.trans BB4.out⟩
    · have HV := Lib.hid (show leL (alR r) (n + 1) i j = U3 ++ [((n : Int), (i : Int), (k : Int))] ++ U4 ++ [((n : Int), (k : Int), (j : Int))] ++ U3 by rw [leL_two (by rw [HBO.out, HBT.out]; exact hle) hk, EU3.out, EU4.out])
      have hql : q + (U3.length + 1 + U4.length + 1 + U3.length) ≤ 20000 := by rw [HV.out] at hq; simp only [List.length_append, List.length_cons, List.length_nil] at hq; omega
      clear hq
      have L1 := HL1
      have BB1 := Lib.hid (Below.refl R w1)
      go_wp2_with fail
      refine (HIH.out (by omega) (by omega) i j (by omega) (by omega) (by omega) _ _ _ M q L1.out (by rw [EU3.out]; omega)).mono ?_
      rw [EU3.out]
      rintro e w2 ⟨rfl, A2, d2, hL, hb⟩
      have L2 := Lib.hid hL
      have BB2 := Lib.hid (BB1.out.trans hb)
      clear hL hb L1 BB1
      go_wp2_with fail
      refine (lmove_calls r R g K B _ (q + U3.length) _ (M ++ U3) n i k _ L2.out (by omega)).mono ?_
      rintro e w3 ⟨rfl, A3, d3, hL, hb⟩
      have L3 := Lib.hid hL
      have BB3 := Lib.hid (BB2.out.trans hb)
      clear hL hb L2 BB2
      go_wp2_with fail
      refine (HIH.out (by omega) (by omega) j i (by omega) (by omega) (by omega) _ _ _ ((M ++ U3) ++ [((n : Int), (i : Int), (k : Int))]) ((q + U3.length) + 1) L3.out (by rw [EU4.out]; omega)).mono ?_
      rw [EU4.out]
      rintro e w4 ⟨rfl, A4, d4, hL, hb⟩
      have L4 := Lib.hid hL
      have BB4 := Lib.hid (BB3.out.trans hb)
      clear hL hb L3 BB3
      go_wp2_with fail
      refine (lmove_calls r R g K B _ (((q + U3.length) + 1) + U4.length) _ (((M ++ U3) ++ [((n : Int), (i : Int), (k : Int))]) ++ U4) n k j _ L4.out (by omega)).mono ?_
      rintro e w5 ⟨rfl, A5, d5, hL, hb⟩
      have L5 := Lib.hid hL
      have BB5 := Lib.hid (BB4.out.trans hb)
      clear hL hb L4 BB4
      go_wp2_with fail
      refine (HIH.out (by omega) (by omega) i j (by omega) (by omega) (by omega) _ _ _ ((((M ++ U3) ++ [((n : Int), (i : Int), (k : Int))]) ++ U4) ++ [((n : Int), (k : Int), (j : Int))]) ((((q + U3.length) + 1) + U4.length) + 1) L5.out (by rw [EU3.out]; omega)).mono ?_
      rw [EU3.out]
      rintro e w6 ⟨rfl, A6, d6, hL, hb⟩
      have L6 := Lib.hid hL
      have BB6 := Lib.hid (BB5.out.trans hb)
      clear hL hb L5 BB5
      go_wp2
      first | go_end0 | ((try simp only [Exit.inBlock, Exit.then]); refine bodyPost_ret (results_none rfl _ _ _) rfl ?_)
      have hlen : (((((q + U3.length) + 1) + U4.length) + 1) + U3.length) = q + (leL (alR r) (n + 1) i j).length := by rw [HV.out]; simp only [List.length_append, List.length_cons, List.length_nil]; omega
      have happ : (((((M ++ U3) ++ [((n : Int), (i : Int), (k : Int))]) ++ U4) ++ [((n : Int), (k : Int), (j : Int))]) ++ U3) = M ++ leL (alR r) (n + 1) i j := by rw [HV.out]; simp only [List.append_assoc]
      have hfin := L6.out
      rw [hlen, happ] at hfin
      exact ⟨rfl, _, _, hfin, HBR.out.trans BB6.out⟩

end Go.Proofs.Ytbcgoboeeigcgaa
