/- Contracts: the least moves by rules, as a plain function, and by the specification's model. -/
import Derived.Test.YtbcgoboeeigcgaaRuTabS
import Derived.Test.YtbcgoboeeigcgaaRuWay
import Derived.Test.YtbcgoboeeigcgaaMvS
import Derived.Deep.RegionHeld3
namespace Go.Proofs.Ytbcgoboeeigcgaa
open Go.RowKit
set_option linter.unusedVariables false

/-- The least moves of n discs from i to j. -/
def leL (a : Int → Int → Bool) : Nat → Nat → Nat → List Mv
  | 0, _, _ => []
  | n + 1, i, j =>
    if wOne a (tbl a n) i j ≤ wTwo a (tbl a n) i j then leL a n i (3 - i - j) ++ [((n : Int), (i : Int), (j : Int))] ++ leL a n (3 - i - j) j
    else leL a n i j ++ [((n : Int), (i : Int), ((3 - i - j : Nat) : Int))] ++ leL a n j i ++ [((n : Int), ((3 - i - j : Nat) : Int), (j : Int))] ++ leL a n i j
theorem leL_len (a : Int → Int → Bool) : ∀ n i j, (leL a n i j).length + 1 ≤ 3 ^ n
  | 0, _, _ => by simp [leL]
  | n + 1, i, j => by
    have h1 := leL_len a n i (3 - i - j)
    have h2 := leL_len a n (3 - i - j) j
    have h3 := leL_len a n i j
    have h4 := leL_len a n j i
    rw [leL, Nat.pow_succ]
    split <;> simp only [List.length_append, List.length_cons, List.length_nil] <;> omega
theorem leL_big (a : Int → Int → Bool) {n : Nat} (hn : n ≤ 8) (i j : Nat) : (leL a n i j).length ≤ 6560 := by
  have h := leL_len a n i j
  have h2 : 3 ^ n ≤ 3 ^ 8 := Nat.pow_le_pow_right (by omega) hn
  have h3 : (3 : Nat) ^ 8 = 6561 := by decide
  omega
theorem leL_one {a : Int → Int → Bool} {n i j k : Nat} (h : wOne a (tbl a n) i j ≤ wTwo a (tbl a n) i j) (hk : i + j + k = 3) : leL a (n + 1) i j = leL a n i k ++ [((n : Int), (i : Int), (j : Int))] ++ leL a n k j := by
  rw [leL, if_pos h, show 3 - i - j = k by omega]
theorem leL_two {a : Int → Int → Bool} {n i j k : Nat} (h : ¬ wOne a (tbl a n) i j ≤ wTwo a (tbl a n) i j) (hk : i + j + k = 3) : leL a (n + 1) i j = leL a n i j ++ [((n : Int), (i : Int), (k : Int))] ++ leL a n j i ++ [((n : Int), (k : Int), (j : Int))] ++ leL a n i j := by
  rw [leL, if_neg h, show 3 - i - j = k by omega]
/-- The specification's test is the program's. -/
theorem one_two {a : Int → Int → Bool} {c : Nat → Int} {i j : Int} (ha : a i j = true ∨ (a i (3 - i - j) && a (3 - i - j) j) = true) (hc : ∀ k, 0 ≤ c k ∧ c k ≤ 1000000) : (0 ≤ bOne a c i j ∧ (bTwo a c i j < 0 ∨ bOne a c i j ≤ bTwo a c i j)) ↔ wOne a c i j ≤ wTwo a c i j := by
  have c1 := hc (ixP i (3 - i - j))
  have c2 := hc (ixP (3 - i - j) j)
  have c3 := hc (ixP i j)
  have c4 := hc (ixP j i)
  unfold bOne bTwo wOne wTwo
  by_cases h1 : a i j = true
  · by_cases h2 : (a i (3 - i - j) && a (3 - i - j) j) = true
    · simp only [if_pos h1, if_pos h2]; omega
    · simp only [if_pos h1, if_neg h2]; omega
  · by_cases h2 : (a i (3 - i - j) && a (3 - i - j) j) = true
    · simp only [if_neg h1, if_pos h2]; omega
    · rcases ha with h | h
      · exact absurd h h1
      · exact absurd h h2
theorem ownM_news {B g n c : Nat} {w : World} {M : List Mv} (h : OwnM B w (some ⟨g, 0, none⟩) n c M) : ∀ j u, (mvCells M)[j]? = some u → w.cell? ((⟨g, 0, none⟩ : Addr).add j) = some u := by
  intro j u hu
  have hlt := (List.getElem?_eq_some_iff.1 hu).1
  have hl := OwnG.len h
  obtain ⟨g', e, _, _, hc⟩ := OwnG.cell h j (by omega)
  cases e
  have e2 : (⟨g, 0, none⟩ : Addr).add j = ⟨g, j, none⟩ := by
    unfold Addr.add
    split
    · next h0 => rw [h0]
    · simp
  rw [e2, hc, hu]
theorem mvCells_one (M : List Mv) : ∀ u ∈ mvCells M, u.oneCell' = true := by
  intro u hu
  unfold mvCells at hu
  obtain ⟨x, _, rfl⟩ := List.mem_map.1 hu
  rfl
theorem mvCells_app (M M' : List Mv) : mvCells (M ++ M') = mvCells M ++ mvCells M' := by unfold mvCells mvF; rw [List.flatMap_append, List.map_append]
theorem ownM_some {B n c : Nat} {w : World} {A : Option Addr} {M : List Mv} (h : OwnM B w A n c M) (hn : 1 ≤ n) : ∃ g, A = some ⟨g, 0, none⟩ := by
  rcases OwnG.form h with ⟨_, h0, _⟩ | ⟨g, hA, _⟩
  · omega
  · exact ⟨g, hA⟩
theorem ownM_grown {B B0 n c : Nat} {w w1 : World} {A : Option Addr} {M : List Mv} (h : OwnM B w A n c M) (hg : w.grownBy w1 (Value.slice A n c).ownBlock) (h1 : B0 ≤ B) (h2 : B0 ≤ w.heap.size) : Below B0 w w1 := by
  refine (Below.refl B0 w).grown hg h2 (fun k hk => ?_)
  rcases OwnG.form h with ⟨rfl, rfl, rfl⟩ | ⟨g, rfl, hB, _⟩
  · simp [Value.ownBlock] at hk
  · simp only [Value.ownBlock, Option.some.injEq] at hk
    omega
theorem keep10 {B b g n : Nat} {W W' : World} {u0 u1 u2 u3 u4 u5 u6 u7 u8 u9 : Value} (hb : Below B W W') (hB : b < B) (hg : g < B) (h : W.cell? ⟨b, 0, none⟩ = some u0 ∧ W.cell? ⟨b, 1, none⟩ = some u1 ∧ W.cell? ⟨b, 2, none⟩ = some u2 ∧ W.cell? ⟨b, 3, none⟩ = some u3 ∧ W.cell? ⟨b, 4, none⟩ = some u4 ∧ W.cell? ⟨b, 5, none⟩ = some u5 ∧ W.cell? ⟨b, 6, none⟩ = some u6 ∧ W.cell? ⟨b, 7, none⟩ = some u7 ∧ W.cell? ⟨b, 8, none⟩ = some u8 ∧ W.cell? ⟨g, n, none⟩ = some u9) : W'.cell? ⟨b, 0, none⟩ = some u0 ∧ W'.cell? ⟨b, 1, none⟩ = some u1 ∧ W'.cell? ⟨b, 2, none⟩ = some u2 ∧ W'.cell? ⟨b, 3, none⟩ = some u3 ∧ W'.cell? ⟨b, 4, none⟩ = some u4 ∧ W'.cell? ⟨b, 5, none⟩ = some u5 ∧ W'.cell? ⟨b, 6, none⟩ = some u6 ∧ W'.cell? ⟨b, 7, none⟩ = some u7 ∧ W'.cell? ⟨b, 8, none⟩ = some u8 ∧ W'.cell? ⟨g, n, none⟩ = some u9 :=
  ⟨(hb.cell (p := ⟨b, 0, none⟩) hB).trans h.1, (hb.cell (p := ⟨b, 1, none⟩) hB).trans h.2.1, (hb.cell (p := ⟨b, 2, none⟩) hB).trans h.2.2.1, (hb.cell (p := ⟨b, 3, none⟩) hB).trans h.2.2.2.1, (hb.cell (p := ⟨b, 4, none⟩) hB).trans h.2.2.2.2.1, (hb.cell (p := ⟨b, 5, none⟩) hB).trans h.2.2.2.2.2.1, (hb.cell (p := ⟨b, 6, none⟩) hB).trans h.2.2.2.2.2.2.1, (hb.cell (p := ⟨b, 7, none⟩) hB).trans h.2.2.2.2.2.2.2.1, (hb.cell (p := ⟨b, 8, none⟩) hB).trans h.2.2.2.2.2.2.2.2.1, (hb.cell (p := ⟨g, n, none⟩) hg).trans h.2.2.2.2.2.2.2.2.2⟩
/-- The specification's tables can be read. -/
def TabsR (w : World) (g K : Nat) (a : Int → Int → Bool) : Prop := g < w.heap.size ∧ ∀ d, d < K → ∃ v, w.cell? { block := g, off := d } = some v ∧ TabB w v (tbl a d)
theorem TabsR.below {w w' : World} {g K : Nat} {a : Int → Int → Bool} (h : TabsR w g K a) (hb : Below w.heap.size w w') : TabsR w' g K a :=
  ⟨Nat.lt_of_lt_of_le h.1 hb.size, fun d hd => by
    obtain ⟨v, h1, h2⟩ := h.2 d hd
    exact ⟨v, (hb.cell (p := { block := g, off := d }) h.1).trans h1, h2.below hb⟩⟩

theorem tabsR_own {w : World} {B g c n : Nat} {vals : List Value} {a : Int → Int → Bool} (hO : OwnG 24 1 B w (some ⟨g, 0, none⟩) (n + 1) c vals) (hT : ∀ d, d < n + 1 → ∃ v, vals[d]? = some v ∧ TabB w v (tbl a d)) (hg : g < w.heap.size) : TabsR w g (n + 1) a :=
  ⟨hg, fun d hd => by
    obtain ⟨v, h1, h2⟩ := hT d hd
    obtain ⟨g', e, _, _, hc⟩ := hO.cell d (by omega)
    cases e
    exact ⟨v, hc.trans h1, h2⟩⟩

set_option maxRecDepth 100000 in
set_option maxHeartbeats 1000000 in
theorem l07Least_zero (r : Nat → Int) (g K cK : Nat) (i j : Nat) (w : World) :
    Calls Try.prog 28 #[.agg (z9 r), .slice (some ⟨g, 0, none⟩) K cK, .int .i64 0, .int .i64 i, .int .i64 j] w fun e w' => ∃ g' c, e = .returned (.slice (some ⟨g', 0, none⟩) 0 c) ∧ OwnM w.heap.size w' (some ⟨g', 0, none⟩) 0 c [] ∧ Below w.heap.size w w' := by
  unfold z9
  go_enter Try.func28, Try.ntmps28
  go_wp2
  go_ret
  refine ⟨_, _, rfl, ?_, ((Below.refl _ _).alloc (Nat.le_refl _) _).alloc (by simp) _⟩
  have := Box.new (w.alloc (.cells (z9 r) 27)) 60 #[]
  rw [World.size_alloc] at this
  exact OwnG.emptyAt this (by omega)

set_option maxRecDepth 100000 in
set_option maxHeartbeats 4000000 in
theorem l07Least_calls (r : Nat → Int) (g K cK : Nat) (hcK : K ≤ cK) (hstr : ∀ i j : Int, 0 ≤ i ∧ i < 3 → 0 ≤ j ∧ j < 3 → i ≠ j → alR r i j = true ∨ (alR r i (3 - i - j) && alR r (3 - i - j) j) = true) (hT : ∀ m, m ≤ 8 → ∀ k, 0 ≤ tbl (alR r) m k ∧ tbl (alR r) m k ≤ 1000000) :
    ∀ n, n ≤ 8 → n ≤ K → ∀ (i j : Nat), i < 3 → j < 3 → i ≠ j → ∀ w, TabsR w g K (alR r) →
    Calls Try.prog 28 #[.agg (z9 r), .slice (some ⟨g, 0, none⟩) K cK, .int .i64 n, .int .i64 i, .int .i64 j] w fun e w' => ∃ g' c, e = .returned (.slice (some ⟨g', 0, none⟩) (leL (alR r) n i j).length c) ∧ OwnM w.heap.size w' (some ⟨g', 0, none⟩) (leL (alR r) n i j).length c (leL (alR r) n i j) ∧ Below w.heap.size w w' := by
  intro n
  induction n with
  | zero => intro _ _ i j _ _ _ w _; exact l07Least_zero r g K cK i j w
  | succ n ih =>
    intro hn hnK i j hi3 hj3 hne w hR
    obtain ⟨k, hk⟩ : ∃ k : Nat, i + j + k = 3 := ⟨3 - i - j, by omega⟩
    obtain ⟨i0, hi, hz0, hz1, hz2⟩ := info_parts Try.infoM
    have hki : (3 : Int) - i - j = (k : Int) := by omega
    have HX := Lib.hid (Box.new w 27 (z9 r))
    have HB0 := Lib.hid ((Below.refl w.heap.size w).alloc (Nat.le_refl _) (.cells (z9 r) 27))
    have HR0 := Lib.hid (hR.below HB0.out)
    have ot := one_two (hstr i j (by omega) (by omega) (by omega)) (hT n (by omega))
    have HIH := Lib.hid ih
    have HTn := Lib.hid (hT n (by omega))
    clear hR ih hT hstr
    obtain ⟨W, hW⟩ : ∃ W, w.alloc (.cells (z9 r) 27) = W := ⟨_, rfl⟩
    rw [hW] at HX HB0 HR0
    have HW := Lib.hid (show w.alloc (.cells #[.int .i64 (r 0), .int .i64 (r 1), .int .i64 (r 2), .int .i64 (r 3), .int .i64 (r 4), .int .i64 (r 5), .int .i64 (r 6), .int .i64 (r 7), .int .i64 (r 8)] 27) = W from hW)
    clear hW
    obtain ⟨v, hcv, htv⟩ := HR0.out.2 n (by omega)
    obtain ⟨gt, c8, rfl, htI⟩ := htv.tabI
    have HTI := Lib.hid htI
    clear htv htI
    obtain ⟨x0, x1, x2, x3, x4, x5, x6, x7, x8⟩ := HX.out.nine
    have hn1 : ((n : Int) + 1) - 1 = (n : Int) := by omega
    have hnK' : (n : Int) < (K : Int) := by omega
    unfold z9
    go_enter Try.func28, Try.ntmps28
    go_wp2_with fail
    rw [HW.out]
    have hwn : IntKind.i64.wrap (n : Int) = n := IntWalk.i64_in _ (by omega)
    obtain ⟨o, ho⟩ : ∃ o, bOne (alR r) (tbl (alR r) n) i j = o := ⟨_, rfl⟩
    obtain ⟨t, ht⟩ : ∃ t, bTwo (alR r) (tbl (alR r) n) i j = t := ⟨_, rfl⟩
    rw [ho, ht] at ot
    have HBO := Lib.hid ho
    have HBT := Lib.hid ht
    clear ho ht
    go_region_held3 (fun w' => w'.cell? ⟨w.heap.size, 0, none⟩ = some (.int .i64 (r 0)) ∧ w'.cell? ⟨w.heap.size, 1, none⟩ = some (.int .i64 (r 1)) ∧ w'.cell? ⟨w.heap.size, 2, none⟩ = some (.int .i64 (r 2)) ∧ w'.cell? ⟨w.heap.size, 3, none⟩ = some (.int .i64 (r 3)) ∧ w'.cell? ⟨w.heap.size, 4, none⟩ = some (.int .i64 (r 4)) ∧ w'.cell? ⟨w.heap.size, 5, none⟩ = some (.int .i64 (r 5)) ∧ w'.cell? ⟨w.heap.size, 6, none⟩ = some (.int .i64 (r 6)) ∧ w'.cell? ⟨w.heap.size, 7, none⟩ = some (.int .i64 (r 7)) ∧ w'.cell? ⟨w.heap.size, 8, none⟩ = some (.int .i64 (r 8)) ∧ w'.cell? ⟨g, n, none⟩ = some (.slice (some ⟨gt, 0, none⟩) 3 c8))
      (first | exact ⟨x0, x1, x2, x3, x4, x5, x6, x7, x8, hcv⟩ | exact C1.out | go_keep)
      ((go_at_call 39; refine (l07Both_calls r (tbl (alR r) n) (some ⟨gt, 0, none⟩) c8 i j hi3 hj3 hne _ ?_ HTn.out).mono ?_; (exact HTI.out); rw [HBO.out, HBT.out]; rintro e w1 ⟨rfl, hb1⟩; have hb1' : Below W.heap.size W w1 := (by first | exact undrewN (undrew hb1) | exact undrew hb1 | exact undrewN hb1 | exact hb1); have C1 := Lib.hid (keep10 hb1' HX.out.lt HR0.out.1 ⟨x0, x1, x2, x3, x4, x5, x6, x7, x8, hcv⟩)))
    have X1 := Lib.hid (HX.out.below hb1' HX.out.lt)
    have HR1 := Lib.hid (HR0.out.below hb1')
    have HB1 := Lib.hid (HB0.out.trans (hb1'.mono HB0.out.size))
    obtain ⟨L1, hL1⟩ : ∃ L, leL (alR r) n i k = L := ⟨_, rfl⟩
    obtain ⟨L2, hL2⟩ : ∃ L, leL (alR r) n k j = L := ⟨_, rfl⟩
    obtain ⟨L3, hL3⟩ : ∃ L, leL (alR r) n i j = L := ⟨_, rfl⟩
    obtain ⟨L4, hL4⟩ : ∃ L, leL (alR r) n j i = L := ⟨_, rfl⟩
    have b1 := leL_big (alR r) (n := n) (by omega) i k
    have b2 := leL_big (alR r) (n := n) (by omega) k j
    have b3 := leL_big (alR r) (n := n) (by omega) i j
    have b4 := leL_big (alR r) (n := n) (by omega) j i
    rw [hL1] at b1
    rw [hL2] at b2
    rw [hL3] at b3
    rw [hL4] at b4
    have EL1 := Lib.hid hL1
    have EL2 := Lib.hid hL2
    have EL3 := Lib.hid hL3
    have EL4 := Lib.hid hL4
    clear hwn hb1 hb1' C1 HX HR0 HB0 x0 x1 x2 x3 x4 x5 x6 x7 x8 hcv HTI hL1 hL2 hL3 hL4
    by_cases hle : wOne (alR r) (tbl (alR r) n) i j ≤ wTwo (alR r) (tbl (alR r) n) i j
    · obtain ⟨ho0, hot⟩ := ot.2 hle
      have HV := Lib.hid (show leL (alR r) (n + 1) i j = L1 ++ [((n : Int), (i : Int), (j : Int))] ++ L2 by rw [leL_one hle hk, EL1.out, EL2.out])
      clear ot hle
      by_cases ht0 : t < 0
      · clear hot
        have hx0 := X1.out
        obtain ⟨x0, x1, x2, x3, x4, x5, x6, x7, x8⟩ := hx0.nine
        go_wp2_with fail
        refine (HIH.out (by omega) (by omega) i k (by omega) (by omega) (by omega) _ (HR1.out)).mono ?_
        rw [EL1.out]
        rintro e w2 ⟨g1, c1, rfl, hO, hb⟩
        have O1 := Lib.hid hO
        have BB1 := Lib.hid hb
        have sz1 := hb.size
        clear hO hb x0 x1 x2 x3 x4 x5 x6 x7 x8 hx0
        go_wp2_with (at_builtin; refine wpList_append_own _ rfl _ _ 32 rfl w1.heap.size 60 i0 (.agg #[.int .i64 0, .int .i64 0, .int .i64 0]) 3 24 Try.underlying32 hi hz0 hz1 hz2 rfl (by decide) _ _ _ rfl ((O1.out).alloc _) ⟨w2.heap.size, 0, none⟩ 1 1 [.int .i64 n, .int .i64 i, .int .i64 j] rfl rfl (World.news_of_block (cs := #[.int .i64 n, .int .i64 i, .int .i64 j]) (t := 60) (fr := (0, 0)) (heap_alloc_new w2 _)) (by simp [Value.oneCell']) (by unfold maxLen; omega) (by omega) (by simp; omega) ?_; intro v' u2 hown' hgrow _; obtain ⟨A2, d2, rfl⟩ := ownG_shape hown'; have O2 := Lib.hid (show OwnM w1.heap.size u2 A2 (L1.length + 1) d2 (L1 ++ [((n : Int), (i : Int), (j : Int))]) from by unfold OwnM; rw [mvCells_snoc]; exact hown'); have BB2 := Lib.hid (BB1.out.trans (OwnG.grown_below O1.out hgrow (Nat.le_refl _) sz1)); have sz2 := BB2.out.size; have hx2 := X1.out.below BB2.out X1.out.lt; obtain ⟨x0, x1, x2, x3, x4, x5, x6, x7, x8⟩ := hx2.nine; clear hown' hgrow)
        go_wp2_with fail
        refine (HIH.out (by omega) (by omega) k j (by omega) (by omega) (by omega) _ (HR1.out.below BB2.out)).mono ?_
        rw [EL2.out]
        rintro e w4 ⟨g3, c3, rfl, hO, hb⟩
        have N3 := Lib.hid hO
        have P3 := Lib.hid (O2.out.below hb)
        have CC3 := Lib.hid (BB2.out.trans (hb.mono sz2))
        have tz3 := CC3.out.size
        clear hO hb x0 x1 x2 x3 x4 x5 x6 x7 x8 hx2 O2 BB2
        go_wp2_with (at_builtin; refine wpList_append_own _ rfl _ _ 32 rfl w1.heap.size 60 i0 (.agg #[.int .i64 0, .int .i64 0, .int .i64 0]) 3 24 Try.underlying32 hi hz0 hz1 hz2 rfl (by decide) _ _ _ rfl P3.out ⟨g3, 0, none⟩ L2.length c3 (mvCells L2) rfl (mvCells_len _) (ownM_news N3.out) (mvCells_one _) (by unfold maxLen; omega) (by omega) (by omega) ?_; intro v' u4 hown' hgrow _; obtain ⟨A4, d4, rfl⟩ := ownG_shape hown'; have O4 := Lib.hid (show OwnM w1.heap.size u4 A4 ((L1.length + 1) + L2.length) d4 ((L1 ++ [((n : Int), (i : Int), (j : Int))]) ++ L2) from by unfold OwnM; rw [mvCells_app]; exact hown'); have BB4 := Lib.hid (CC3.out.trans (ownM_grown P3.out hgrow (Nat.le_refl _) tz3)); have sz4 := BB4.out.size; clear hown' hgrow)
        go_ret
        obtain ⟨gf, hgf⟩ := ownM_some O4.out (by omega)
        rw [hgf] at O4 ⊢
        rw [HV.out, show ((L1 ++ [((n : Int), (i : Int), (j : Int))]) ++ L2).length = ((L1.length + 1) + L2.length) by simp only [List.length_append, List.length_cons, List.length_nil]]
        exact ⟨gf, _, rfl, O4.out.mono HB1.out.size, HB1.out.trans (BB4.out.mono HB1.out.size)⟩
      · have hot' : o ≤ t := by omega
        clear hot
        have hx0 := X1.out
        obtain ⟨x0, x1, x2, x3, x4, x5, x6, x7, x8⟩ := hx0.nine
        go_wp2_with fail
        refine (HIH.out (by omega) (by omega) i k (by omega) (by omega) (by omega) _ (HR1.out)).mono ?_
        rw [EL1.out]
        rintro e w2 ⟨g1, c1, rfl, hO, hb⟩
        have O1 := Lib.hid hO
        have BB1 := Lib.hid hb
        have sz1 := hb.size
        clear hO hb x0 x1 x2 x3 x4 x5 x6 x7 x8 hx0
        go_wp2_with (at_builtin; refine wpList_append_own _ rfl _ _ 32 rfl w1.heap.size 60 i0 (.agg #[.int .i64 0, .int .i64 0, .int .i64 0]) 3 24 Try.underlying32 hi hz0 hz1 hz2 rfl (by decide) _ _ _ rfl ((O1.out).alloc _) ⟨w2.heap.size, 0, none⟩ 1 1 [.int .i64 n, .int .i64 i, .int .i64 j] rfl rfl (World.news_of_block (cs := #[.int .i64 n, .int .i64 i, .int .i64 j]) (t := 60) (fr := (0, 0)) (heap_alloc_new w2 _)) (by simp [Value.oneCell']) (by unfold maxLen; omega) (by omega) (by simp; omega) ?_; intro v' u2 hown' hgrow _; obtain ⟨A2, d2, rfl⟩ := ownG_shape hown'; have O2 := Lib.hid (show OwnM w1.heap.size u2 A2 (L1.length + 1) d2 (L1 ++ [((n : Int), (i : Int), (j : Int))]) from by unfold OwnM; rw [mvCells_snoc]; exact hown'); have BB2 := Lib.hid (BB1.out.trans (OwnG.grown_below O1.out hgrow (Nat.le_refl _) sz1)); have sz2 := BB2.out.size; have hx2 := X1.out.below BB2.out X1.out.lt; obtain ⟨x0, x1, x2, x3, x4, x5, x6, x7, x8⟩ := hx2.nine; clear hown' hgrow)
        go_wp2_with fail
        refine (HIH.out (by omega) (by omega) k j (by omega) (by omega) (by omega) _ (HR1.out.below BB2.out)).mono ?_
        rw [EL2.out]
        rintro e w4 ⟨g3, c3, rfl, hO, hb⟩
        have N3 := Lib.hid hO
        have P3 := Lib.hid (O2.out.below hb)
        have CC3 := Lib.hid (BB2.out.trans (hb.mono sz2))
        have tz3 := CC3.out.size
        clear hO hb x0 x1 x2 x3 x4 x5 x6 x7 x8 hx2 O2 BB2
        go_wp2_with (at_builtin; refine wpList_append_own _ rfl _ _ 32 rfl w1.heap.size 60 i0 (.agg #[.int .i64 0, .int .i64 0, .int .i64 0]) 3 24 Try.underlying32 hi hz0 hz1 hz2 rfl (by decide) _ _ _ rfl P3.out ⟨g3, 0, none⟩ L2.length c3 (mvCells L2) rfl (mvCells_len _) (ownM_news N3.out) (mvCells_one _) (by unfold maxLen; omega) (by omega) (by omega) ?_; intro v' u4 hown' hgrow _; obtain ⟨A4, d4, rfl⟩ := ownG_shape hown'; have O4 := Lib.hid (show OwnM w1.heap.size u4 A4 ((L1.length + 1) + L2.length) d4 ((L1 ++ [((n : Int), (i : Int), (j : Int))]) ++ L2) from by unfold OwnM; rw [mvCells_app]; exact hown'); have BB4 := Lib.hid (CC3.out.trans (ownM_grown P3.out hgrow (Nat.le_refl _) tz3)); have sz4 := BB4.out.size; clear hown' hgrow)
        go_ret
        obtain ⟨gf, hgf⟩ := ownM_some O4.out (by omega)
        rw [hgf] at O4 ⊢
        rw [HV.out, show ((L1 ++ [((n : Int), (i : Int), (j : Int))]) ++ L2).length = ((L1.length + 1) + L2.length) by simp only [List.length_append, List.length_cons, List.length_nil]]
        exact ⟨gf, _, rfl, O4.out.mono HB1.out.size, HB1.out.trans (BB4.out.mono HB1.out.size)⟩
    · have hno : ¬ (0 ≤ o ∧ (t < 0 ∨ o ≤ t)) := fun h => hle (ot.1 h)
      have HV := Lib.hid (show leL (alR r) (n + 1) i j = L3 ++ [((n : Int), (i : Int), (k : Int))] ++ L4 ++ [((n : Int), (k : Int), (j : Int))] ++ L3 by rw [leL_two hle hk, EL3.out, EL4.out])
      clear ot hle
      by_cases ho0 : 0 ≤ o
      · have ht0 : ¬ t < 0 := by omega
        have hot' : ¬ o ≤ t := by omega
        clear hno
        have hx0 := X1.out
        obtain ⟨x0, x1, x2, x3, x4, x5, x6, x7, x8⟩ := hx0.nine
        go_wp2_with fail
        refine (HIH.out (by omega) (by omega) i j (by omega) (by omega) (by omega) _ (HR1.out)).mono ?_
        rw [EL3.out]
        rintro e w2 ⟨g1, c1, rfl, hO, hb⟩
        have O1 := Lib.hid hO
        have BB1 := Lib.hid hb
        have sz1 := hb.size
        clear hO hb x0 x1 x2 x3 x4 x5 x6 x7 x8 hx0
        go_wp2_with (at_builtin; refine wpList_append_own _ rfl _ _ 32 rfl w1.heap.size 60 i0 (.agg #[.int .i64 0, .int .i64 0, .int .i64 0]) 3 24 Try.underlying32 hi hz0 hz1 hz2 rfl (by decide) _ _ _ rfl ((O1.out).alloc _) ⟨w2.heap.size, 0, none⟩ 1 1 [.int .i64 n, .int .i64 i, .int .i64 k] rfl rfl (World.news_of_block (cs := #[.int .i64 n, .int .i64 i, .int .i64 k]) (t := 60) (fr := (0, 0)) (heap_alloc_new w2 _)) (by simp [Value.oneCell']) (by unfold maxLen; omega) (by omega) (by simp; omega) ?_; intro v' u2 hown' hgrow _; obtain ⟨A2, d2, rfl⟩ := ownG_shape hown'; have O2 := Lib.hid (show OwnM w1.heap.size u2 A2 (L3.length + 1) d2 (L3 ++ [((n : Int), (i : Int), (k : Int))]) from by unfold OwnM; rw [mvCells_snoc]; exact hown'); have BB2 := Lib.hid (BB1.out.trans (OwnG.grown_below O1.out hgrow (Nat.le_refl _) sz1)); have sz2 := BB2.out.size; have hx2 := X1.out.below BB2.out X1.out.lt; obtain ⟨x0, x1, x2, x3, x4, x5, x6, x7, x8⟩ := hx2.nine; clear hown' hgrow)
        go_wp2_with fail
        refine (HIH.out (by omega) (by omega) j i (by omega) (by omega) (by omega) _ (HR1.out.below BB2.out)).mono ?_
        rw [EL4.out]
        rintro e w4 ⟨g3, c3, rfl, hO, hb⟩
        have N3 := Lib.hid hO
        have P3 := Lib.hid (O2.out.below hb)
        have CC3 := Lib.hid (BB2.out.trans (hb.mono sz2))
        have tz3 := CC3.out.size
        clear hO hb x0 x1 x2 x3 x4 x5 x6 x7 x8 hx2 O2 BB2
        go_wp2_with (first | (at_builtin; refine wpList_append_own _ rfl _ _ 32 rfl w1.heap.size 60 i0 (.agg #[.int .i64 0, .int .i64 0, .int .i64 0]) 3 24 Try.underlying32 hi hz0 hz1 hz2 rfl (by decide) _ _ _ rfl P3.out ⟨g3, 0, none⟩ L4.length c3 (mvCells L4) rfl (mvCells_len _) (ownM_news N3.out) (mvCells_one _) (by unfold maxLen; omega) (by omega) (by omega) ?_; intro v' u4 hown' hgrow _; obtain ⟨A4, d4, rfl⟩ := ownG_shape hown'; have O4 := Lib.hid (show OwnM w1.heap.size u4 A4 ((L3.length + 1) + L4.length) d4 ((L3 ++ [((n : Int), (i : Int), (k : Int))]) ++ L4) from by unfold OwnM; rw [mvCells_app]; exact hown'); have BB4 := Lib.hid (CC3.out.trans (ownM_grown P3.out hgrow (Nat.le_refl _) tz3)); have sz4 := BB4.out.size; clear hown' hgrow) | (at_builtin; refine wpList_append_own _ rfl _ _ 32 rfl w1.heap.size 60 i0 (.agg #[.int .i64 0, .int .i64 0, .int .i64 0]) 3 24 Try.underlying32 hi hz0 hz1 hz2 rfl (by decide) _ _ _ rfl ((O4.out).alloc _) ⟨u4.heap.size, 0, none⟩ 1 1 [.int .i64 n, .int .i64 k, .int .i64 j] rfl rfl (World.news_of_block (cs := #[.int .i64 n, .int .i64 k, .int .i64 j]) (t := 60) (fr := (0, 0)) (heap_alloc_new u4 _)) (by simp [Value.oneCell']) (by unfold maxLen; omega) (by omega) (by simp; omega) ?_; intro v' u5 hown' hgrow _; obtain ⟨A5, d5, rfl⟩ := ownG_shape hown'; have O5 := Lib.hid (show OwnM w1.heap.size u5 A5 (((L3.length + 1) + L4.length) + 1) d5 (((L3 ++ [((n : Int), (i : Int), (k : Int))]) ++ L4) ++ [((n : Int), (k : Int), (j : Int))]) from by unfold OwnM; rw [mvCells_snoc]; exact hown'); have BB5 := Lib.hid (BB4.out.trans (OwnG.grown_below O4.out hgrow (Nat.le_refl _) sz4)); have sz5 := BB5.out.size; have hx5 := X1.out.below BB5.out X1.out.lt; obtain ⟨x0, x1, x2, x3, x4, x5, x6, x7, x8⟩ := hx5.nine; clear hown' hgrow))
        go_wp2_with fail
        refine (HIH.out (by omega) (by omega) i j (by omega) (by omega) (by omega) _ (HR1.out.below BB5.out)).mono ?_
        rw [EL3.out]
        rintro e w7 ⟨g6, c6, rfl, hO, hb⟩
        have N6 := Lib.hid hO
        have P6 := Lib.hid (O5.out.below hb)
        have CC6 := Lib.hid (BB5.out.trans (hb.mono sz5))
        have tz6 := CC6.out.size
        clear hO hb x0 x1 x2 x3 x4 x5 x6 x7 x8 hx5 O5 BB5
        go_wp2_with (at_builtin; refine wpList_append_own _ rfl _ _ 32 rfl w1.heap.size 60 i0 (.agg #[.int .i64 0, .int .i64 0, .int .i64 0]) 3 24 Try.underlying32 hi hz0 hz1 hz2 rfl (by decide) _ _ _ rfl P6.out ⟨g6, 0, none⟩ L3.length c6 (mvCells L3) rfl (mvCells_len _) (ownM_news N6.out) (mvCells_one _) (by unfold maxLen; omega) (by omega) (by omega) ?_; intro v' u7 hown' hgrow _; obtain ⟨A7, d7, rfl⟩ := ownG_shape hown'; have O7 := Lib.hid (show OwnM w1.heap.size u7 A7 ((((L3.length + 1) + L4.length) + 1) + L3.length) d7 ((((L3 ++ [((n : Int), (i : Int), (k : Int))]) ++ L4) ++ [((n : Int), (k : Int), (j : Int))]) ++ L3) from by unfold OwnM; rw [mvCells_app]; exact hown'); have BB7 := Lib.hid (CC6.out.trans (ownM_grown P6.out hgrow (Nat.le_refl _) tz6)); have sz7 := BB7.out.size; clear hown' hgrow)
        go_ret
        obtain ⟨gf, hgf⟩ := ownM_some O7.out (by omega)
        rw [hgf] at O7 ⊢
        rw [HV.out, show ((((L3 ++ [((n : Int), (i : Int), (k : Int))]) ++ L4) ++ [((n : Int), (k : Int), (j : Int))]) ++ L3).length = ((((L3.length + 1) + L4.length) + 1) + L3.length) by simp only [List.length_append, List.length_cons, List.length_nil]]
        exact ⟨gf, _, rfl, O7.out.mono HB1.out.size, HB1.out.trans (BB7.out.mono HB1.out.size)⟩
      · clear hno
        have hx0 := X1.out
        obtain ⟨x0, x1, x2, x3, x4, x5, x6, x7, x8⟩ := hx0.nine
        go_wp2_with fail
        refine (HIH.out (by omega) (by omega) i j (by omega) (by omega) (by omega) _ (HR1.out)).mono ?_
        rw [EL3.out]
        rintro e w2 ⟨g1, c1, rfl, hO, hb⟩
        have O1 := Lib.hid hO
        have BB1 := Lib.hid hb
        have sz1 := hb.size
        clear hO hb x0 x1 x2 x3 x4 x5 x6 x7 x8 hx0
        go_wp2_with (at_builtin; refine wpList_append_own _ rfl _ _ 32 rfl w1.heap.size 60 i0 (.agg #[.int .i64 0, .int .i64 0, .int .i64 0]) 3 24 Try.underlying32 hi hz0 hz1 hz2 rfl (by decide) _ _ _ rfl ((O1.out).alloc _) ⟨w2.heap.size, 0, none⟩ 1 1 [.int .i64 n, .int .i64 i, .int .i64 k] rfl rfl (World.news_of_block (cs := #[.int .i64 n, .int .i64 i, .int .i64 k]) (t := 60) (fr := (0, 0)) (heap_alloc_new w2 _)) (by simp [Value.oneCell']) (by unfold maxLen; omega) (by omega) (by simp; omega) ?_; intro v' u2 hown' hgrow _; obtain ⟨A2, d2, rfl⟩ := ownG_shape hown'; have O2 := Lib.hid (show OwnM w1.heap.size u2 A2 (L3.length + 1) d2 (L3 ++ [((n : Int), (i : Int), (k : Int))]) from by unfold OwnM; rw [mvCells_snoc]; exact hown'); have BB2 := Lib.hid (BB1.out.trans (OwnG.grown_below O1.out hgrow (Nat.le_refl _) sz1)); have sz2 := BB2.out.size; have hx2 := X1.out.below BB2.out X1.out.lt; obtain ⟨x0, x1, x2, x3, x4, x5, x6, x7, x8⟩ := hx2.nine; clear hown' hgrow)
        go_wp2_with fail
        refine (HIH.out (by omega) (by omega) j i (by omega) (by omega) (by omega) _ (HR1.out.below BB2.out)).mono ?_
        rw [EL4.out]
        rintro e w4 ⟨g3, c3, rfl, hO, hb⟩
        have N3 := Lib.hid hO
        have P3 := Lib.hid (O2.out.below hb)
        have CC3 := Lib.hid (BB2.out.trans (hb.mono sz2))
        have tz3 := CC3.out.size
        clear hO hb x0 x1 x2 x3 x4 x5 x6 x7 x8 hx2 O2 BB2
        go_wp2_with (first | (at_builtin; refine wpList_append_own _ rfl _ _ 32 rfl w1.heap.size 60 i0 (.agg #[.int .i64 0, .int .i64 0, .int .i64 0]) 3 24 Try.underlying32 hi hz0 hz1 hz2 rfl (by decide) _ _ _ rfl P3.out ⟨g3, 0, none⟩ L4.length c3 (mvCells L4) rfl (mvCells_len _) (ownM_news N3.out) (mvCells_one _) (by unfold maxLen; omega) (by omega) (by omega) ?_; intro v' u4 hown' hgrow _; obtain ⟨A4, d4, rfl⟩ := ownG_shape hown'; have O4 := Lib.hid (show OwnM w1.heap.size u4 A4 ((L3.length + 1) + L4.length) d4 ((L3 ++ [((n : Int), (i : Int), (k : Int))]) ++ L4) from by unfold OwnM; rw [mvCells_app]; exact hown'); have BB4 := Lib.hid (CC3.out.trans (ownM_grown P3.out hgrow (Nat.le_refl _) tz3)); have sz4 := BB4.out.size; clear hown' hgrow) | (at_builtin; refine wpList_append_own _ rfl _ _ 32 rfl w1.heap.size 60 i0 (.agg #[.int .i64 0, .int .i64 0, .int .i64 0]) 3 24 Try.underlying32 hi hz0 hz1 hz2 rfl (by decide) _ _ _ rfl ((O4.out).alloc _) ⟨u4.heap.size, 0, none⟩ 1 1 [.int .i64 n, .int .i64 k, .int .i64 j] rfl rfl (World.news_of_block (cs := #[.int .i64 n, .int .i64 k, .int .i64 j]) (t := 60) (fr := (0, 0)) (heap_alloc_new u4 _)) (by simp [Value.oneCell']) (by unfold maxLen; omega) (by omega) (by simp; omega) ?_; intro v' u5 hown' hgrow _; obtain ⟨A5, d5, rfl⟩ := ownG_shape hown'; have O5 := Lib.hid (show OwnM w1.heap.size u5 A5 (((L3.length + 1) + L4.length) + 1) d5 (((L3 ++ [((n : Int), (i : Int), (k : Int))]) ++ L4) ++ [((n : Int), (k : Int), (j : Int))]) from by unfold OwnM; rw [mvCells_snoc]; exact hown'); have BB5 := Lib.hid (BB4.out.trans (OwnG.grown_below O4.out hgrow (Nat.le_refl _) sz4)); have sz5 := BB5.out.size; have hx5 := X1.out.below BB5.out X1.out.lt; obtain ⟨x0, x1, x2, x3, x4, x5, x6, x7, x8⟩ := hx5.nine; clear hown' hgrow))
        go_wp2_with fail
        refine (HIH.out (by omega) (by omega) i j (by omega) (by omega) (by omega) _ (HR1.out.below BB5.out)).mono ?_
        rw [EL3.out]
        rintro e w7 ⟨g6, c6, rfl, hO, hb⟩
        have N6 := Lib.hid hO
        have P6 := Lib.hid (O5.out.below hb)
        have CC6 := Lib.hid (BB5.out.trans (hb.mono sz5))
        have tz6 := CC6.out.size
        clear hO hb x0 x1 x2 x3 x4 x5 x6 x7 x8 hx5 O5 BB5
        go_wp2_with (at_builtin; refine wpList_append_own _ rfl _ _ 32 rfl w1.heap.size 60 i0 (.agg #[.int .i64 0, .int .i64 0, .int .i64 0]) 3 24 Try.underlying32 hi hz0 hz1 hz2 rfl (by decide) _ _ _ rfl P6.out ⟨g6, 0, none⟩ L3.length c6 (mvCells L3) rfl (mvCells_len _) (ownM_news N6.out) (mvCells_one _) (by unfold maxLen; omega) (by omega) (by omega) ?_; intro v' u7 hown' hgrow _; obtain ⟨A7, d7, rfl⟩ := ownG_shape hown'; have O7 := Lib.hid (show OwnM w1.heap.size u7 A7 ((((L3.length + 1) + L4.length) + 1) + L3.length) d7 ((((L3 ++ [((n : Int), (i : Int), (k : Int))]) ++ L4) ++ [((n : Int), (k : Int), (j : Int))]) ++ L3) from by unfold OwnM; rw [mvCells_app]; exact hown'); have BB7 := Lib.hid (CC6.out.trans (ownM_grown P6.out hgrow (Nat.le_refl _) tz6)); have sz7 := BB7.out.size; clear hown' hgrow)
        go_ret
        obtain ⟨gf, hgf⟩ := ownM_some O7.out (by omega)
        rw [hgf] at O7 ⊢
        rw [HV.out, show ((((L3 ++ [((n : Int), (i : Int), (k : Int))]) ++ L4) ++ [((n : Int), (k : Int), (j : Int))]) ++ L3).length = ((((L3.length + 1) + L4.length) + 1) + L3.length) by simp only [List.length_append, List.length_cons, List.length_nil]]
        exact ⟨gf, _, rfl, O7.out.mono HB1.out.size, HB1.out.trans (BB7.out.mono HB1.out.size)⟩


end Go.Proofs.Ytbcgoboeeigcgaa
