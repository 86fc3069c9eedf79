/- 'AfterHeapMove' of the program answers at every argument as the specification's model, leaves its arguments as they were, and its answer is its own memory. The package variable errNoHeap is as its own initialiser lays it (a tied card). Conditions: none. -/
import Derived.Test.YtpiglaolofddfaaDoorOpen
import Derived.Test.YtpiglaolofddfaaDoorOpenMove
import Derived.Test.YtpiglaolofddfaaDoorToMove
import Derived.Test.YtpiglaolofddfaaDoorHpK
import Derived.Test.YtpiglaolofddfaaDoorHpAI
import Derived.Test.YtpiglaolofddfaaDoorHpAS2
import Derived.Test.YtpiglaolofddfaaDoorHpN
import Derived.Deep.RegionHeld3
import Derived.Test.YtpiglaolofddfaaDoorHpDoor
import Derived.Test.YtpiglaolofddfaaDoorOpenHeap
import Derived.Test.YtpiglaolofddfaaDoorCards
import Derived.Test.YtpiglaolofddfaaDoorTie
import Derived.SevenTiedAt
import Derived.LaidMore
import Derived.Stop.Joined
namespace Go.Proofs.YtpiglaolofddfaaDoor.fnExactAfterHeapMove
open Go.ChangeShapes Go.WideShapes Go.ChangeAt Go.RowKit Go.Joins
open Go.ChangeMaps (open_string)
set_option linter.unusedVariables false

theorem szI_no {n : Nat} (h : ¬ n ≤ 1048576) : szI n 1048576 = -1 := by unfold szI; omega
theorem szI_yes {n : Nat} (h : n ≤ 1048576) : 0 ≤ szI n 1048576 := by unfold szI; omega
/-- What a call of the function leaves: a box with the answer, its lists in new memory, all else as it was. -/
def MadeH (W0 : World) (LS : List (List Int)) (E : Int) (t t' : Value) (wc : World) : Prop :=
  ∃ g A n c rs, t = .pointer (some ⟨g, 0, none⟩) ∧ t' = .int .i64 E ∧ Box wc g 29 #[.slice A n c] ∧ OwnSS W0.heap.size wc A n c rs ∧ LLof rs = LS ∧ Below W0.heap.size W0 wc ∧ W0.heap.size ≤ g
theorem ops_getP {α : Type} (l : List α) (i : Nat) (o : α) (h : l[i]? = some o) : l.toArray[i]? = some o := by rw [List.getElem?_toArray]; exact h
theorem cells13 {w : World} {b t b' t' : Nat} {u v0 v1 v2 : Value} (h : Box w b t #[u]) (h' : Box w b' t' #[v0, v1, v2]) :
    w.cell? ⟨b, 0, none⟩ = some u ∧ w.cell? ⟨b', 0, none⟩ = some v0 ∧ w.cell? ⟨b', 1, none⟩ = some v1 ∧ w.cell? ⟨b', 2, none⟩ = some v2 := ⟨h.one.1, h'.three.1, h'.three.2.1, h'.three.2.2⟩
theorem OwnSS.of_blocks {B n c : Nat} {w w' : World} {A : Option Addr} {rs : List Rw} (h : OwnSS B w A n c rs) (hb : ∀ g, B ≤ g → g < w.heap.size → w'.heap[g]? = w.heap[g]?) : OwnSS B w' A n c rs :=
  ⟨OwnG.of_block h.1 (fun g e => hb g (OwnG.blk h.1 g e).1 (OwnG.blk h.1 g e).2), fun r hr => OwnG.of_block (h.2.1 r hr) (fun g e => hb g (OwnG.blk (h.2.1 r hr) g e).1 (OwnG.blk (h.2.1 r hr) g e).2), h.2.2⟩
theorem ahL_small (LL : List (List Int)) (m : Mv) : ((ahL LL m).map List.length).sum + (ahL LL m).length ≤ 1048576 := by
  unfold ahL
  split
  next h =>
    have hb : heapB LL = true := by
      unfold ahE at h
      split at h
      · assumption
      · omega
    obtain ⟨h3, h4, _⟩ := heapB_facts hb
    match LL, h3 with
    | [a, b, c], _ =>
      have hc : a.length + (b.length + (c.length + 0)) ≤ 4 := h4
      have key : ∀ k, k < 3 → (dnR [a, b, c] m.2.1.toNat m.2.2.toNat m.1 k).length ≤ 5 := by
        intro k hk
        have hl : ([a, b, c][k]?.getD []).length ≤ 4 := by
          match k, hk with
          | 0, _ => show a.length ≤ 4; omega
          | 1, _ => show b.length ≤ 4; omega
          | 2, _ => show c.length ≤ 4; omega
        have hd : ([a, b, c][k]?.getD []).dropLast.length ≤ 4 := by rw [List.length_dropLast]; omega
        unfold dnR
        rw [List.length_append]
        split <;> split <;> simp only [List.length_singleton, List.length_nil] <;> omega
      have k0 := key 0 (by omega)
      have k1 := key 1 (by omega)
      have k2 := key 2 (by omega)
      have e : dnL [a, b, c] m.2.1.toNat m.2.2.toNat m.1 = [dnR [a, b, c] m.2.1.toNat m.2.2.toNat m.1 0, dnR [a, b, c] m.2.1.toNat m.2.2.toNat m.1 1, dnR [a, b, c] m.2.1.toNat m.2.2.toNat m.1 2] := rfl
      rw [e]
      simp only [List.map_cons, List.map_nil, List.sum_cons, List.sum_nil, List.length_cons, List.length_nil]
      omega
  · simp

set_option maxRecDepth 100000 in
set_option maxHeartbeats 40000000 in
theorem core (A : Option Addr) (n c : Nat) (rs : List Rw) (x y z : Int) (LL LS : List (List Int)) (E : Int) (ea : Addr) (w : World) (hLL : LLof rs = LL) (hsm : (LS.map List.length).sum + LS.length ≤ 1048576) (hA : ArgSS w A n rs) (hn : n + totN rs ≤ 1048576) (hS : Sent w ea)
    (hspec : ∀ (A : Option Addr) (n c : Nat) (rs : List Rw) (W : World), rs.length = n → LLof rs = LL → totN rs ≤ 1048576 → IntsSS W A rs → (∀ r ∈ rs, r.A ≠ none) → n ≤ 1048576 → Calls Tryd.prog 14 #[.agg #[.slice A n c], .agg #[.int .i64 x, .int .i64 y, .int .i64 z]] W (RetHeap W LS E))
    (himpl : ∀ (A : Option Addr) (n c : Nat) (rs : List Rw) (W : World), rs.length = n → LLof rs = LL → totN rs ≤ 1048576 → IntsSS W A rs → Sent W ea → n ≤ 1048576 → Calls Tryd.prog 16 #[.agg #[.slice A n c], .agg #[.int .i64 x, .int .i64 y, .int .i64 z]] W (RetHeap W LS E)) :
    Calls Tryd.prog 4 #[.agg #[.slice A n c], .agg #[.int .i64 x, .int .i64 y, .int .i64 z]] w fun e w' => e = .returned (.bool true) ∧ Below w.heap.size w w' := by
  have hI := hA.2.2.2
  have HL := Lib.hid hA.1
  have hn1 : n ≤ 1048576 := by omega
  have HS := Lib.hid hspec
  have HP := Lib.hid himpl
  have Htot := Lib.hid (And.intro (cnt_tot hI) (show totN rs ≤ 1048576 by omega))
  have Hb : Hid (∀ r ∈ rs, r.n ≤ 1048576) := rows_small (by omega)
  have HLL := Lib.hid hLL
  have h0 := szI_yes hn
  obtain ⟨W0, hW0⟩ : ∃ W0, W0 = (w.alloc (.cells #[.slice A n c] 24)).alloc (.cells #[.int .i64 x, .int .i64 y, .int .i64 z] 37) := ⟨_, rfl⟩
  have hb0 : Below w.heap.size w W0 := by rw [hW0]; exact ((Below.refl _ w).alloc (Nat.le_refl _) _).alloc (by simp) _
  have x0 : Box W0 w.heap.size 24 #[.slice A n c] := by rw [hW0]; exact (Box.new w _ _).alloc _
  have m0 : Box W0 (w.heap.size + 1) 37 #[.int .i64 x, .int .i64 y, .int .i64 z] := by
    have h := Box.new (w.alloc (.cells #[.slice A n c] 24)) 37 #[.int .i64 x, .int .i64 y, .int .i64 z]
    rw [World.size_alloc] at h
    rw [hW0]; exact h
  have X0 := Lib.hid x0
  have M0 := Lib.hid m0
  have HB0 := Lib.hid hb0
  have HWN := Lib.hid hW0
  clear x0 m0 hb0 hW0
  clear hspec himpl hLL
  go_enter Tryd.func4, Tryd.ntmps4
  go_wp2_with fail
  rw [← HWN.out]
  refine (szHeap_calls A n c rs 1048576 _ (hA.below HB0.out) (by omega) (by omega)).mono ?_
  rintro e w1 ⟨rfl, hb⟩
  have X1 := Lib.hid (X0.out.below hb X0.out.lt)
  have M1 := Lib.hid (M0.out.below hb M0.out.lt)
  have HB1 := Lib.hid (HB0.out.trans ((hb).mono HB0.out.size))
  clear X0 M0 HB0
  clear hb HWN
  have HIb := Lib.hid (hI.below HB1.out)
  have zd := X1.out.lt
  have zb := M1.out.lt
  obtain ⟨_, _, _, _⟩ := cells13 X1.out M1.out
  go_upto_region 5 with (fail)
  go_cut [6, 7] (fun t1 t2 wc => MadeH w1 LS E t1 t2 wc)
  case first =>
    refine wp_region_noPanic ?_
    refine wp_region_held_drew (S := (fun w' => w'.cell? ⟨w.heap.size, 0, none⟩ = some (.slice A n c) ∧ w'.cell? ⟨w.heap.size + 1, 0, none⟩ = some (.int .i64 x) ∧ w'.cell? ⟨w.heap.size + 1, 1, none⟩ = some (.int .i64 y) ∧ w'.cell? ⟨w.heap.size + 1, 2, none⟩ = some (.int .i64 z))) (by kernel_rfl) (cells13 X1.out M1.out) (fun hHeld => ?_)
    have HT := Lib.hid (show Below w1.heap.size w1 w1.drew from (Below.refl _ _).drew)
    generalize w1.drew = V0 at *
    refine wpAnyH_take (i := 0) (v := ?_) (ops_getP _ _ _ rfl) (by kernel_rfl) (by kernel_rfl) (by kernel_rfl) (fun _ _ _ h => h) (Or.inl ⟨by rfl, ?_⟩) (by assumption) ?_
    rotate_left
    · intro w5 hSw
      (try dsimp only at hSw)
      go_simp
      all_goals (with_reducible rfl)
    try simp only [Act.put, List.setIfInBounds_toArray, List.set_cons_zero, List.set_cons_succ]
    refine wpAnyH_take (i := 2) (v := ?_) (ops_getP _ _ _ rfl) (by kernel_rfl) (by kernel_rfl) (by kernel_rfl) (fun _ _ _ h => h) (Or.inl ⟨by rfl, ?_⟩) (by assumption) ?_
    rotate_left
    · intro w5 hSw
      (try dsimp only at hSw)
      go_simp
      all_goals (with_reducible rfl)
    try simp only [Act.put, List.setIfInBounds_toArray, List.set_cons_zero, List.set_cons_succ]
    refine wpAnyH_ready (rs := [1, 8]) (by kernel_rfl) (by simp) ?_
    refine AllReadyH.cons (ops_getP _ _ _ rfl) (fun K hK => ?_) (AllReadyH.cons (ops_getP _ _ _ rfl) (fun K hK => ?_) AllReadyH.nil)
    · go_simp
      refine (toHeap_callsN A n c rs _ HL.out hn1 Hb.out (HIb.out.below HT.out)).mono ?_
      rintro e V1 ⟨g2, r2, rfl, hg2, hr2, hl2, hN2, hb⟩
      have HTn := Lib.hid (HT.out.trans ((hb).mono HT.out.size))
      clear HT
      have HT := HTn
      clear HTn
      have J := Lib.hid hr2
      have T2 := Lib.hid hl2
      have N2 := Lib.hid hN2
      clear hr2 hg2 hl2 hN2
      clear hb
      try go_simp
      refine hK.out _ _ ?_ (fun hHeld => ?_)
      · exact (cells13 (X1.out.below HT.out zd) (M1.out.below HT.out zb))
      clear hK K
      refine wpAnyH_ready (rs := [3, 8]) (by kernel_rfl) (by simp) ?_
      refine AllReadyH.cons (ops_getP _ _ _ rfl) (fun K hK => ?_) (AllReadyH.cons (ops_getP _ _ _ rfl) (fun K hK => ?_) AllReadyH.nil)
      · go_simp
        refine (toMove_calls x y z _).mono ?_
        rintro e V2 ⟨rfl, hb⟩
        have HTn := Lib.hid (HT.out.trans ((hb).mono HT.out.size))
        clear HT
        have HT := HTn
        clear HTn
        have Jn := Lib.hid (OwnSS.below J.out (hb))
        clear J
        have J := Jn
        clear Jn
        clear hb
        try go_simp
        refine hK.out _ _ ?_ (fun hHeld => ?_)
        · exact (cells13 (X1.out.below HT.out zd) (M1.out.below HT.out zb))
        clear hK K
        refine wpAnyH_ready (rs := [4, 8]) (by kernel_rfl) (by simp) ?_
        refine AllReadyH.cons (ops_getP _ _ _ rfl) (fun K hK => ?_) (AllReadyH.cons (ops_getP _ _ _ rfl) (fun K hK => ?_) AllReadyH.nil)
        · go_simp
          refine (HS.out (some ⟨g2, 0, none⟩) n n r2 _ J.out.len (T2.out.trans HLL.out) (tot_eq T2.out J.out Htot.out) J.out.ints N2.out hn1).mono ?_
          rintro e V3 ⟨AO, nO, cO, rsO, rfl, hO, hLO, hb⟩
          have O := Lib.hid (OwnSS.mono hO HT.out.size)
          have HLO := Lib.hid hLO
          have HTn := Lib.hid (HT.out.trans ((hb).mono HT.out.size))
          clear HT
          have HT := HTn
          clear HTn
          clear hO hLO hb
          try go_simp
          refine hK.out _ _ ?_ (fun hHeld => ?_)
          · exact (cells13 (X1.out.below HT.out zd) (M1.out.below HT.out zb))
          clear hK K
          refine wpAnyH_take (i := 5) (v := ?_) (ops_getP _ _ _ rfl) (by kernel_rfl) (by kernel_rfl) (by kernel_rfl) (fun _ _ _ h => h) (Or.inl ⟨by rfl, ?_⟩) (by assumption) ?_
          rotate_left
          · intro w5 hSw
            (try dsimp only at hSw)
            go_simp
            all_goals (with_reducible rfl)
          try simp only [Act.put, List.setIfInBounds_toArray, List.set_cons_zero, List.set_cons_succ]
          refine wpAnyH_take (i := 6) (v := ?_) (ops_getP _ _ _ rfl) (by kernel_rfl) (by kernel_rfl) (by kernel_rfl) (fun _ _ _ h => h) (Or.inl ⟨by rfl, ?_⟩) (by assumption) ?_
          rotate_left
          · intro w5 hSw
            (try dsimp only at hSw)
            go_simp
            all_goals (with_reducible rfl)
          try simp only [Act.put, List.setIfInBounds_toArray, List.set_cons_zero, List.set_cons_succ]
          refine wpAnyH_take (i := 7) (v := ?_) (ops_getP _ _ _ rfl) (by kernel_rfl) (by kernel_rfl) (by kernel_rfl) (fun _ _ _ h => h) (Or.inl ⟨by rfl, ?_⟩) (by assumption) ?_
          rotate_left
          · intro w5 hSw
            (try dsimp only at hSw)
            go_simp
            all_goals (with_reducible rfl)
          try simp only [Act.put, List.setIfInBounds_toArray, List.set_cons_zero, List.set_cons_succ]
          refine wpAnyH_ready (rs := [8]) (by kernel_rfl) (by simp) ?_
          refine AllReadyH.cons (ops_getP _ _ _ rfl) (fun K hK => ?_) AllReadyH.nil
          go_simp
          have qB : w1.heap.size ≤ V3.heap.size := HT.out.size
          have Gx := Lib.hid (Box.new V3 29 #[.slice none 0 0])
          have hb : Below V3.heap.size V3 (V3.alloc (.cells #[.slice none 0 0] 29)) := (Below.refl _ _).alloc (Nat.le_refl _) _
          have HTn := Lib.hid (HT.out.trans ((hb).mono HT.out.size))
          clear HT
          have HT := HTn
          clear HTn
          have On := Lib.hid (OwnSS.below O.out (hb))
          clear O
          have O := On
          clear On
          have G := Gx
          clear Gx hb
          generalize V3.alloc (.cells #[.slice none 0 0] 29) = V4 at *
          generalize V3.heap.size = gB at *
          refine hK.out _ _ ?_ (fun hHeld => ?_)
          · exact (cells13 (X1.out.below HT.out zd) (M1.out.below HT.out zb))
          clear hK K
          refine wpAnyH_ready (rs := [9]) (by kernel_rfl) (by simp) ?_
          refine AllReadyH.cons (ops_getP _ _ _ rfl) (fun K hK => ?_) AllReadyH.nil
          obtain ⟨z0, zf0⟩ := G.out.one
          go_simp
          clear z0 zf0
          have HTn : Hid (Below w1.heap.size w1 (World.setCell V4 ⟨gB, 0, none⟩ (.slice AO nO cO))) := HT.out.setCell (show w1.heap.size ≤ (⟨gB, 0, none⟩ : Addr).block from qB) (.slice AO nO cO)
          have On : Hid (OwnSS w1.heap.size (World.setCell V4 ⟨gB, 0, none⟩ (.slice AO nO cO)) AO nO cO rsO) := OwnSS.setBoxed O.out G.out (by decide) (by decide) 0 (.slice AO nO cO)
          have Gn : Hid (Box (World.setCell V4 ⟨gB, 0, none⟩ (.slice AO nO cO)) gB 29 #[.slice AO nO cO]) := G.out.set 0 (.slice AO nO cO)
          clear HT O G
          have HT := HTn
          have O := On
          have G := Gn
          clear HTn On Gn
          generalize (World.setCell V4 ⟨gB, 0, none⟩ (.slice AO nO cO)) = V5 at *
          refine hK.out _ _ ?_ (fun hHeld => ?_)
          · exact (cells13 (X1.out.below HT.out zd) (M1.out.below HT.out zb))
          clear hK K
          refine wpAnyH_take (i := 10) (v := ?_) (ops_getP _ _ _ rfl) (by kernel_rfl) (by kernel_rfl) (by kernel_rfl) (fun _ _ _ h => h) (Or.inl ⟨by rfl, ?_⟩) (by assumption) ?_
          rotate_left
          · intro w5 hSw
            (try dsimp only at hSw)
            go_simp
            all_goals (with_reducible rfl)
          try simp only [Act.put, List.setIfInBounds_toArray, List.set_cons_zero, List.set_cons_succ]
          refine wpAnyH_done (by kernel_rfl) ?_ _
          refine NoPanic.normal ?_
          go_wp2_with fail
          go_meet
          case rel => exact ⟨gB, AO, nO, cO, rsO, rfl, rfl, G.out, O.out, HLO.out, HT.out, qB⟩
        · go_simp
          have qB : w1.heap.size ≤ V2.heap.size := HT.out.size
          have Gx := Lib.hid (Box.new V2 29 #[.slice none 0 0])
          have hb : Below V2.heap.size V2 (V2.alloc (.cells #[.slice none 0 0] 29)) := (Below.refl _ _).alloc (Nat.le_refl _) _
          have HTn := Lib.hid (HT.out.trans ((hb).mono HT.out.size))
          clear HT
          have HT := HTn
          clear HTn
          have Jn := Lib.hid (OwnSS.below J.out (hb))
          clear J
          have J := Jn
          clear Jn
          have G := Gx
          clear Gx hb
          generalize V2.alloc (.cells #[.slice none 0 0] 29) = V3 at *
          generalize V2.heap.size = gB at *
          refine hK.out _ _ ?_ (fun hHeld => ?_)
          · exact (cells13 (X1.out.below HT.out zd) (M1.out.below HT.out zb))
          clear hK K
          refine wpAnyH_ready (rs := [4]) (by kernel_rfl) (by simp) ?_
          refine AllReadyH.cons (ops_getP _ _ _ rfl) (fun K hK => ?_) AllReadyH.nil
          go_simp
          refine (HS.out (some ⟨g2, 0, none⟩) n n r2 _ J.out.len (T2.out.trans HLL.out) (tot_eq T2.out J.out Htot.out) J.out.ints N2.out hn1).mono ?_
          rintro e V4 ⟨AO, nO, cO, rsO, rfl, hO, hLO, hb⟩
          have O := Lib.hid (OwnSS.mono hO HT.out.size)
          have HLO := Lib.hid hLO
          have HTn := Lib.hid (HT.out.trans ((hb).mono HT.out.size))
          clear HT
          have HT := HTn
          clear HTn
          have Gn := Lib.hid (G.out.below (hb) G.out.lt)
          clear G
          have G := Gn
          clear Gn
          clear hO hLO hb
          try go_simp
          refine hK.out _ _ ?_ (fun hHeld => ?_)
          · exact (cells13 (X1.out.below HT.out zd) (M1.out.below HT.out zb))
          clear hK K
          refine wpAnyH_take (i := 5) (v := ?_) (ops_getP _ _ _ rfl) (by kernel_rfl) (by kernel_rfl) (by kernel_rfl) (fun _ _ _ h => h) (Or.inl ⟨by rfl, ?_⟩) (by assumption) ?_
          rotate_left
          · intro w5 hSw
            (try dsimp only at hSw)
            go_simp
            all_goals (with_reducible rfl)
          try simp only [Act.put, List.setIfInBounds_toArray, List.set_cons_zero, List.set_cons_succ]
          refine wpAnyH_take (i := 6) (v := ?_) (ops_getP _ _ _ rfl) (by kernel_rfl) (by kernel_rfl) (by kernel_rfl) (fun _ _ _ h => h) (Or.inl ⟨by rfl, ?_⟩) (by assumption) ?_
          rotate_left
          · intro w5 hSw
            (try dsimp only at hSw)
            go_simp
            all_goals (with_reducible rfl)
          try simp only [Act.put, List.setIfInBounds_toArray, List.set_cons_zero, List.set_cons_succ]
          refine wpAnyH_take (i := 7) (v := ?_) (ops_getP _ _ _ rfl) (by kernel_rfl) (by kernel_rfl) (by kernel_rfl) (fun _ _ _ h => h) (Or.inl ⟨by rfl, ?_⟩) (by assumption) ?_
          rotate_left
          · intro w5 hSw
            (try dsimp only at hSw)
            go_simp
            all_goals (with_reducible rfl)
          try simp only [Act.put, List.setIfInBounds_toArray, List.set_cons_zero, List.set_cons_succ]
          refine wpAnyH_ready (rs := [9]) (by kernel_rfl) (by simp) ?_
          refine AllReadyH.cons (ops_getP _ _ _ rfl) (fun K hK => ?_) AllReadyH.nil
          obtain ⟨z0, zf0⟩ := G.out.one
          go_simp
          clear z0 zf0
          have HTn : Hid (Below w1.heap.size w1 (World.setCell V4 ⟨gB, 0, none⟩ (.slice AO nO cO))) := HT.out.setCell (show w1.heap.size ≤ (⟨gB, 0, none⟩ : Addr).block from qB) (.slice AO nO cO)
          have On : Hid (OwnSS w1.heap.size (World.setCell V4 ⟨gB, 0, none⟩ (.slice AO nO cO)) AO nO cO rsO) := OwnSS.setBoxed O.out G.out (by decide) (by decide) 0 (.slice AO nO cO)
          have Gn : Hid (Box (World.setCell V4 ⟨gB, 0, none⟩ (.slice AO nO cO)) gB 29 #[.slice AO nO cO]) := G.out.set 0 (.slice AO nO cO)
          clear HT O G
          have HT := HTn
          have O := On
          have G := Gn
          clear HTn On Gn
          generalize (World.setCell V4 ⟨gB, 0, none⟩ (.slice AO nO cO)) = V5 at *
          refine hK.out _ _ ?_ (fun hHeld => ?_)
          · exact (cells13 (X1.out.below HT.out zd) (M1.out.below HT.out zb))
          clear hK K
          refine wpAnyH_take (i := 10) (v := ?_) (ops_getP _ _ _ rfl) (by kernel_rfl) (by kernel_rfl) (by kernel_rfl) (fun _ _ _ h => h) (Or.inl ⟨by rfl, ?_⟩) (by assumption) ?_
          rotate_left
          · intro w5 hSw
            (try dsimp only at hSw)
            go_simp
            all_goals (with_reducible rfl)
          try simp only [Act.put, List.setIfInBounds_toArray, List.set_cons_zero, List.set_cons_succ]
          refine wpAnyH_done (by kernel_rfl) ?_ _
          refine NoPanic.normal ?_
          go_wp2_with fail
          go_meet
          case rel => exact ⟨gB, AO, nO, cO, rsO, rfl, rfl, G.out, O.out, HLO.out, HT.out, qB⟩
      · go_simp
        have qB : w1.heap.size ≤ V1.heap.size := HT.out.size
        have Gx := Lib.hid (Box.new V1 29 #[.slice none 0 0])
        have hb : Below V1.heap.size V1 (V1.alloc (.cells #[.slice none 0 0] 29)) := (Below.refl _ _).alloc (Nat.le_refl _) _
        have HTn := Lib.hid (HT.out.trans ((hb).mono HT.out.size))
        clear HT
        have HT := HTn
        clear HTn
        have Jn := Lib.hid (OwnSS.below J.out (hb))
        clear J
        have J := Jn
        clear Jn
        have G := Gx
        clear Gx hb
        generalize V1.alloc (.cells #[.slice none 0 0] 29) = V2 at *
        generalize V1.heap.size = gB at *
        refine hK.out _ _ ?_ (fun hHeld => ?_)
        · exact (cells13 (X1.out.below HT.out zd) (M1.out.below HT.out zb))
        clear hK K
        refine wpAnyH_ready (rs := [3]) (by kernel_rfl) (by simp) ?_
        refine AllReadyH.cons (ops_getP _ _ _ rfl) (fun K hK => ?_) AllReadyH.nil
        go_simp
        refine (toMove_calls x y z _).mono ?_
        rintro e V3 ⟨rfl, hb⟩
        have HTn := Lib.hid (HT.out.trans ((hb).mono HT.out.size))
        clear HT
        have HT := HTn
        clear HTn
        have Jn := Lib.hid (OwnSS.below J.out (hb))
        clear J
        have J := Jn
        clear Jn
        have Gn := Lib.hid (G.out.below (hb) G.out.lt)
        clear G
        have G := Gn
        clear Gn
        clear hb
        try go_simp
        refine hK.out _ _ ?_ (fun hHeld => ?_)
        · exact (cells13 (X1.out.below HT.out zd) (M1.out.below HT.out zb))
        clear hK K
        refine wpAnyH_ready (rs := [4]) (by kernel_rfl) (by simp) ?_
        refine AllReadyH.cons (ops_getP _ _ _ rfl) (fun K hK => ?_) AllReadyH.nil
        go_simp
        refine (HS.out (some ⟨g2, 0, none⟩) n n r2 _ J.out.len (T2.out.trans HLL.out) (tot_eq T2.out J.out Htot.out) J.out.ints N2.out hn1).mono ?_
        rintro e V4 ⟨AO, nO, cO, rsO, rfl, hO, hLO, hb⟩
        have O := Lib.hid (OwnSS.mono hO HT.out.size)
        have HLO := Lib.hid hLO
        have HTn := Lib.hid (HT.out.trans ((hb).mono HT.out.size))
        clear HT
        have HT := HTn
        clear HTn
        have Gn := Lib.hid (G.out.below (hb) G.out.lt)
        clear G
        have G := Gn
        clear Gn
        clear hO hLO hb
        try go_simp
        refine hK.out _ _ ?_ (fun hHeld => ?_)
        · exact (cells13 (X1.out.below HT.out zd) (M1.out.below HT.out zb))
        clear hK K
        refine wpAnyH_take (i := 5) (v := ?_) (ops_getP _ _ _ rfl) (by kernel_rfl) (by kernel_rfl) (by kernel_rfl) (fun _ _ _ h => h) (Or.inl ⟨by rfl, ?_⟩) (by assumption) ?_
        rotate_left
        · intro w5 hSw
          (try dsimp only at hSw)
          go_simp
          all_goals (with_reducible rfl)
        try simp only [Act.put, List.setIfInBounds_toArray, List.set_cons_zero, List.set_cons_succ]
        refine wpAnyH_take (i := 6) (v := ?_) (ops_getP _ _ _ rfl) (by kernel_rfl) (by kernel_rfl) (by kernel_rfl) (fun _ _ _ h => h) (Or.inl ⟨by rfl, ?_⟩) (by assumption) ?_
        rotate_left
        · intro w5 hSw
          (try dsimp only at hSw)
          go_simp
          all_goals (with_reducible rfl)
        try simp only [Act.put, List.setIfInBounds_toArray, List.set_cons_zero, List.set_cons_succ]
        refine wpAnyH_take (i := 7) (v := ?_) (ops_getP _ _ _ rfl) (by kernel_rfl) (by kernel_rfl) (by kernel_rfl) (fun _ _ _ h => h) (Or.inl ⟨by rfl, ?_⟩) (by assumption) ?_
        rotate_left
        · intro w5 hSw
          (try dsimp only at hSw)
          go_simp
          all_goals (with_reducible rfl)
        try simp only [Act.put, List.setIfInBounds_toArray, List.set_cons_zero, List.set_cons_succ]
        refine wpAnyH_ready (rs := [9]) (by kernel_rfl) (by simp) ?_
        refine AllReadyH.cons (ops_getP _ _ _ rfl) (fun K hK => ?_) AllReadyH.nil
        obtain ⟨z0, zf0⟩ := G.out.one
        go_simp
        clear z0 zf0
        have HTn : Hid (Below w1.heap.size w1 (World.setCell V4 ⟨gB, 0, none⟩ (.slice AO nO cO))) := HT.out.setCell (show w1.heap.size ≤ (⟨gB, 0, none⟩ : Addr).block from qB) (.slice AO nO cO)
        have On : Hid (OwnSS w1.heap.size (World.setCell V4 ⟨gB, 0, none⟩ (.slice AO nO cO)) AO nO cO rsO) := OwnSS.setBoxed O.out G.out (by decide) (by decide) 0 (.slice AO nO cO)
        have Gn : Hid (Box (World.setCell V4 ⟨gB, 0, none⟩ (.slice AO nO cO)) gB 29 #[.slice AO nO cO]) := G.out.set 0 (.slice AO nO cO)
        clear HT O G
        have HT := HTn
        have O := On
        have G := Gn
        clear HTn On Gn
        generalize (World.setCell V4 ⟨gB, 0, none⟩ (.slice AO nO cO)) = V5 at *
        refine hK.out _ _ ?_ (fun hHeld => ?_)
        · exact (cells13 (X1.out.below HT.out zd) (M1.out.below HT.out zb))
        clear hK K
        refine wpAnyH_take (i := 10) (v := ?_) (ops_getP _ _ _ rfl) (by kernel_rfl) (by kernel_rfl) (by kernel_rfl) (fun _ _ _ h => h) (Or.inl ⟨by rfl, ?_⟩) (by assumption) ?_
        rotate_left
        · intro w5 hSw
          (try dsimp only at hSw)
          go_simp
          all_goals (with_reducible rfl)
        try simp only [Act.put, List.setIfInBounds_toArray, List.set_cons_zero, List.set_cons_succ]
        refine wpAnyH_done (by kernel_rfl) ?_ _
        refine NoPanic.normal ?_
        go_wp2_with fail
        go_meet
        case rel => exact ⟨gB, AO, nO, cO, rsO, rfl, rfl, G.out, O.out, HLO.out, HT.out, qB⟩
    · go_simp
      have qB : w1.heap.size ≤ V0.heap.size := HT.out.size
      have Gx := Lib.hid (Box.new V0 29 #[.slice none 0 0])
      have hb : Below V0.heap.size V0 (V0.alloc (.cells #[.slice none 0 0] 29)) := (Below.refl _ _).alloc (Nat.le_refl _) _
      have HTn := Lib.hid (HT.out.trans ((hb).mono HT.out.size))
      clear HT
      have HT := HTn
      clear HTn
      have G := Gx
      clear Gx hb
      generalize V0.alloc (.cells #[.slice none 0 0] 29) = V1 at *
      generalize V0.heap.size = gB at *
      refine hK.out _ _ ?_ (fun hHeld => ?_)
      · exact (cells13 (X1.out.below HT.out zd) (M1.out.below HT.out zb))
      clear hK K
      refine wpAnyH_ready (rs := [1]) (by kernel_rfl) (by simp) ?_
      refine AllReadyH.cons (ops_getP _ _ _ rfl) (fun K hK => ?_) AllReadyH.nil
      go_simp
      refine (toHeap_callsN A n c rs _ HL.out hn1 Hb.out (HIb.out.below HT.out)).mono ?_
      rintro e V2 ⟨g2, r2, rfl, hg2, hr2, hl2, hN2, hb⟩
      have HTn := Lib.hid (HT.out.trans ((hb).mono HT.out.size))
      clear HT
      have HT := HTn
      clear HTn
      have Gn := Lib.hid (G.out.below (hb) G.out.lt)
      clear G
      have G := Gn
      clear Gn
      have J := Lib.hid hr2
      have T2 := Lib.hid hl2
      have N2 := Lib.hid hN2
      clear hr2 hg2 hl2 hN2
      clear hb
      try go_simp
      refine hK.out _ _ ?_ (fun hHeld => ?_)
      · exact (cells13 (X1.out.below HT.out zd) (M1.out.below HT.out zb))
      clear hK K
      refine wpAnyH_ready (rs := [3]) (by kernel_rfl) (by simp) ?_
      refine AllReadyH.cons (ops_getP _ _ _ rfl) (fun K hK => ?_) AllReadyH.nil
      go_simp
      refine (toMove_calls x y z _).mono ?_
      rintro e V3 ⟨rfl, hb⟩
      have HTn := Lib.hid (HT.out.trans ((hb).mono HT.out.size))
      clear HT
      have HT := HTn
      clear HTn
      have Jn := Lib.hid (OwnSS.below J.out (hb))
      clear J
      have J := Jn
      clear Jn
      have Gn := Lib.hid (G.out.below (hb) G.out.lt)
      clear G
      have G := Gn
      clear Gn
      clear hb
      try go_simp
      refine hK.out _ _ ?_ (fun hHeld => ?_)
      · exact (cells13 (X1.out.below HT.out zd) (M1.out.below HT.out zb))
      clear hK K
      refine wpAnyH_ready (rs := [4]) (by kernel_rfl) (by simp) ?_
      refine AllReadyH.cons (ops_getP _ _ _ rfl) (fun K hK => ?_) AllReadyH.nil
      go_simp
      refine (HS.out (some ⟨g2, 0, none⟩) n n r2 _ J.out.len (T2.out.trans HLL.out) (tot_eq T2.out J.out Htot.out) J.out.ints N2.out hn1).mono ?_
      rintro e V4 ⟨AO, nO, cO, rsO, rfl, hO, hLO, hb⟩
      have O := Lib.hid (OwnSS.mono hO HT.out.size)
      have HLO := Lib.hid hLO
      have HTn := Lib.hid (HT.out.trans ((hb).mono HT.out.size))
      clear HT
      have HT := HTn
      clear HTn
      have Gn := Lib.hid (G.out.below (hb) G.out.lt)
      clear G
      have G := Gn
      clear Gn
      clear hO hLO hb
      try go_simp
      refine hK.out _ _ ?_ (fun hHeld => ?_)
      · exact (cells13 (X1.out.below HT.out zd) (M1.out.below HT.out zb))
      clear hK K
      refine wpAnyH_take (i := 5) (v := ?_) (ops_getP _ _ _ rfl) (by kernel_rfl) (by kernel_rfl) (by kernel_rfl) (fun _ _ _ h => h) (Or.inl ⟨by rfl, ?_⟩) (by assumption) ?_
      rotate_left
      · intro w5 hSw
        (try dsimp only at hSw)
        go_simp
        all_goals (with_reducible rfl)
      try simp only [Act.put, List.setIfInBounds_toArray, List.set_cons_zero, List.set_cons_succ]
      refine wpAnyH_take (i := 6) (v := ?_) (ops_getP _ _ _ rfl) (by kernel_rfl) (by kernel_rfl) (by kernel_rfl) (fun _ _ _ h => h) (Or.inl ⟨by rfl, ?_⟩) (by assumption) ?_
      rotate_left
      · intro w5 hSw
        (try dsimp only at hSw)
        go_simp
        all_goals (with_reducible rfl)
      try simp only [Act.put, List.setIfInBounds_toArray, List.set_cons_zero, List.set_cons_succ]
      refine wpAnyH_take (i := 7) (v := ?_) (ops_getP _ _ _ rfl) (by kernel_rfl) (by kernel_rfl) (by kernel_rfl) (fun _ _ _ h => h) (Or.inl ⟨by rfl, ?_⟩) (by assumption) ?_
      rotate_left
      · intro w5 hSw
        (try dsimp only at hSw)
        go_simp
        all_goals (with_reducible rfl)
      try simp only [Act.put, List.setIfInBounds_toArray, List.set_cons_zero, List.set_cons_succ]
      refine wpAnyH_ready (rs := [9]) (by kernel_rfl) (by simp) ?_
      refine AllReadyH.cons (ops_getP _ _ _ rfl) (fun K hK => ?_) AllReadyH.nil
      obtain ⟨z0, zf0⟩ := G.out.one
      go_simp
      clear z0 zf0
      have HTn : Hid (Below w1.heap.size w1 (World.setCell V4 ⟨gB, 0, none⟩ (.slice AO nO cO))) := HT.out.setCell (show w1.heap.size ≤ (⟨gB, 0, none⟩ : Addr).block from qB) (.slice AO nO cO)
      have On : Hid (OwnSS w1.heap.size (World.setCell V4 ⟨gB, 0, none⟩ (.slice AO nO cO)) AO nO cO rsO) := OwnSS.setBoxed O.out G.out (by decide) (by decide) 0 (.slice AO nO cO)
      have Gn : Hid (Box (World.setCell V4 ⟨gB, 0, none⟩ (.slice AO nO cO)) gB 29 #[.slice AO nO cO]) := G.out.set 0 (.slice AO nO cO)
      clear HT O G
      have HT := HTn
      have O := On
      have G := Gn
      clear HTn On Gn
      generalize (World.setCell V4 ⟨gB, 0, none⟩ (.slice AO nO cO)) = V5 at *
      refine hK.out _ _ ?_ (fun hHeld => ?_)
      · exact (cells13 (X1.out.below HT.out zd) (M1.out.below HT.out zb))
      clear hK K
      refine wpAnyH_take (i := 10) (v := ?_) (ops_getP _ _ _ rfl) (by kernel_rfl) (by kernel_rfl) (by kernel_rfl) (fun _ _ _ h => h) (Or.inl ⟨by rfl, ?_⟩) (by assumption) ?_
      rotate_left
      · intro w5 hSw
        (try dsimp only at hSw)
        go_simp
        all_goals (with_reducible rfl)
      try simp only [Act.put, List.setIfInBounds_toArray, List.set_cons_zero, List.set_cons_succ]
      refine wpAnyH_done (by kernel_rfl) ?_ _
      refine NoPanic.normal ?_
      go_wp2_with fail
      go_meet
      case rel => exact ⟨gB, AO, nO, cO, rsO, rfl, rfl, G.out, O.out, HLO.out, HT.out, qB⟩
  case rest =>
    obtain ⟨W4, hW4⟩ : ∃ x, x = wc := ⟨wc, rfl⟩
    subst hW4
    obtain ⟨gR, A0, n0, c0, rs0, rfl, rfl, hR, hO, hL0, hb, hgR⟩ := hcut
    have X2 := Lib.hid (X1.out.below hb X1.out.lt)
    have M2 := Lib.hid (M1.out.below hb M1.out.lt)
    have HB2 := Lib.hid (HB1.out.trans ((hb).mono HB1.out.size))
    clear X1 M1 HB1
    have hl0 := hO.len
    have ht0 := totN_LL hO
    rw [hL0] at ht0
    have hn0 : n0 ≤ 1048576 := by rw [← hl0, ← LL_len rs0, hL0]; omega
    have hq0 : totN rs0 ≤ 1048576 := by rw [ht0]; omega
    have hr0 : Hid (∀ r ∈ rs0, r.n ≤ 1048576) := rows_small hq0
    have Hl0 := Lib.hid hl0
    have HL0 := Lib.hid hL0
    clear hl0 ht0
    have R0 := Lib.hid hR
    have OI := Lib.hid hO.ints
    clear hR hO hL0 hb HIb zd zb
    have HO0 := Lib.hid (Below.refl W4.heap.size W4)
    have HRb := R0.out.lt
    have HXb := X2.out.lt
    have HMb := M2.out.lt
    have HBb := HB2.out.size
    have hIx := Lib.hid (hI.below HB2.out)
    obtain ⟨xy0, _⟩ := X2.out.one
    go_wp2_with fail
    refine (toHeap_calls A n c rs _ HL.out hn1 Hb.out hIx.out).mono ?_
    rintro e w5 ⟨g5, r5, rfl, hg5, hO, hLL, hb⟩
    clear xy0 hIx
    have X3 := Lib.hid (X2.out.below hb X2.out.lt)
    have M3 := Lib.hid (M2.out.below hb M2.out.lt)
    have R1 := Lib.hid (R0.out.below hb R0.out.lt)
    have HB3 := Lib.hid (HB2.out.trans ((hb).mono HB2.out.size))
    clear X2 M2 R0 HB2
    have HO1 := Lib.hid (HO0.out.trans ((hb).mono HO0.out.size))
    clear HO0
    have V0 := Lib.hid hO
    have T5 := Lib.hid hLL
    have HVo := Lib.hid hO.old
    have hW45 := hb.size
    clear hb hO hLL hg5
    have hVs : ∃ C, w5.heap.size = C := ⟨_, rfl⟩
    obtain ⟨C, hC⟩ := hVs
    rw [hC] at HVo
    have HCe := Lib.hid hC
    have hCs : C ≤ (w5.alloc (.cells #[.slice (some ⟨g5, 0, none⟩) n n] 29)).heap.size ∧ W4.heap.size ≤ (w5.alloc (.cells #[.slice (some ⟨g5, 0, none⟩) n n] 29)).heap.size := by rw [World.size_alloc]; omega
    clear hC
    have hX := Box.new w5 29 #[.slice (some ⟨g5, 0, none⟩) n n]
    have hba : Below w5.heap.size w5 (w5.alloc (.cells #[.slice (some ⟨g5, 0, none⟩) n n] 29)) := (Below.refl _ w5).alloc (Nat.le_refl _) (.cells #[.slice (some ⟨g5, 0, none⟩) n n] 29)
    have X4 := Lib.hid (X3.out.below hba X3.out.lt)
    have M4 := Lib.hid (M3.out.below hba M3.out.lt)
    have R2 := Lib.hid (R1.out.below hba R1.out.lt)
    have V1 := Lib.hid (V0.out.below hba)
    have HB4 := Lib.hid (HB3.out.trans ((hba).mono HB3.out.size))
    clear X3 M3 R1 V0 HB3
    have HO2 := Lib.hid (HO1.out.trans ((hba).mono HO1.out.size))
    clear HO1
    have U0 := Lib.hid hX
    clear hX hba
    have SB := Lib.hid (hS.below HB4.out)
    have VI := Lib.hid V1.out.ints
    have VL := Lib.hid V1.out.len
    have htV := Lib.hid (tot_eq T5.out V1.out Htot.out)
    have zd := U0.out.lt
    have zb := M4.out.lt
    obtain ⟨_, _, _, _⟩ := cells13 U0.out M4.out
    go_upto_region 7 with (fail)
    generalize hW5 : w5.alloc (.cells #[.slice (some ⟨g5, 0, none⟩) n n] 29) = W5 at *
    clear hW5
    generalize w5.heap.size = gU at *
    go_cut [9, 10] (fun t1 t2 wc => MadeH W5 LS E t1 t2 wc)
    case first =>
      refine wp_region_noPanic ?_
      refine wp_region_held_drew (S := (fun w' => w'.cell? ⟨gU, 0, none⟩ = some (.slice (some ⟨g5, 0, none⟩) n n) ∧ w'.cell? ⟨w.heap.size + 1, 0, none⟩ = some (.int .i64 x) ∧ w'.cell? ⟨w.heap.size + 1, 1, none⟩ = some (.int .i64 y) ∧ w'.cell? ⟨w.heap.size + 1, 2, none⟩ = some (.int .i64 z))) (by kernel_rfl) (cells13 U0.out M4.out) (fun hHeld => ?_)
      have HT := Lib.hid (show Below W5.heap.size W5 W5.drew from (Below.refl _ _).drew)
      generalize W5.drew = V0 at *
      refine wpAnyH_take (i := 0) (v := ?_) (ops_getP _ _ _ rfl) (by kernel_rfl) (by kernel_rfl) (by kernel_rfl) (fun _ _ _ h => h) (Or.inl ⟨by rfl, ?_⟩) (by assumption) ?_
      rotate_left
      · intro w5 hSw
        (try dsimp only at hSw)
        go_simp
        all_goals (with_reducible rfl)
      try simp only [Act.put, List.setIfInBounds_toArray, List.set_cons_zero, List.set_cons_succ]
      refine wpAnyH_take (i := 1) (v := ?_) (ops_getP _ _ _ rfl) (by kernel_rfl) (by kernel_rfl) (by kernel_rfl) (fun _ _ _ h => h) (Or.inl ⟨by rfl, ?_⟩) (by assumption) ?_
      rotate_left
      · intro w5 hSw
        (try dsimp only at hSw)
        go_simp
        all_goals (with_reducible rfl)
      try simp only [Act.put, List.setIfInBounds_toArray, List.set_cons_zero, List.set_cons_succ]
      refine wpAnyH_ready (rs := [2, 7]) (by kernel_rfl) (by simp) ?_
      refine AllReadyH.cons (ops_getP _ _ _ rfl) (fun K hK => ?_) (AllReadyH.cons (ops_getP _ _ _ rfl) (fun K hK => ?_) AllReadyH.nil)
      · go_simp
        refine (toMove_calls x y z _).mono ?_
        rintro e V1 ⟨rfl, hb⟩
        have HTn := Lib.hid (HT.out.trans ((hb).mono HT.out.size))
        clear HT
        have HT := HTn
        clear HTn
        clear hb
        try go_simp
        refine hK.out _ _ ?_ (fun hHeld => ?_)
        · exact (cells13 (U0.out.below HT.out zd) (M4.out.below HT.out zb))
        clear hK K
        refine wpAnyH_ready (rs := [3, 7]) (by kernel_rfl) (by simp) ?_
        refine AllReadyH.cons (ops_getP _ _ _ rfl) (fun K hK => ?_) (AllReadyH.cons (ops_getP _ _ _ rfl) (fun K hK => ?_) AllReadyH.nil)
        · go_simp
          refine (HP.out (some ⟨g5, 0, none⟩) n n r5 _ VL.out (T5.out.trans HLL.out) htV.out (VI.out.below HT.out) (SB.out.below HT.out) hn1).mono ?_
          rintro e V2 ⟨AO, nO, cO, rsO, rfl, hO, hLO, hb⟩
          have O := Lib.hid (OwnSS.mono hO HT.out.size)
          have HLO := Lib.hid hLO
          have HTn := Lib.hid (HT.out.trans ((hb).mono HT.out.size))
          clear HT
          have HT := HTn
          clear HTn
          clear hO hLO hb
          try go_simp
          refine hK.out _ _ ?_ (fun hHeld => ?_)
          · exact (cells13 (U0.out.below HT.out zd) (M4.out.below HT.out zb))
          clear hK K
          refine wpAnyH_take (i := 4) (v := ?_) (ops_getP _ _ _ rfl) (by kernel_rfl) (by kernel_rfl) (by kernel_rfl) (fun _ _ _ h => h) (Or.inl ⟨by rfl, ?_⟩) (by assumption) ?_
          rotate_left
          · intro w5 hSw
            (try dsimp only at hSw)
            go_simp
            all_goals (with_reducible rfl)
          try simp only [Act.put, List.setIfInBounds_toArray, List.set_cons_zero, List.set_cons_succ]
          refine wpAnyH_take (i := 5) (v := ?_) (ops_getP _ _ _ rfl) (by kernel_rfl) (by kernel_rfl) (by kernel_rfl) (fun _ _ _ h => h) (Or.inl ⟨by rfl, ?_⟩) (by assumption) ?_
          rotate_left
          · intro w5 hSw
            (try dsimp only at hSw)
            go_simp
            all_goals (with_reducible rfl)
          try simp only [Act.put, List.setIfInBounds_toArray, List.set_cons_zero, List.set_cons_succ]
          refine wpAnyH_take (i := 6) (v := ?_) (ops_getP _ _ _ rfl) (by kernel_rfl) (by kernel_rfl) (by kernel_rfl) (fun _ _ _ h => h) (Or.inl ⟨by rfl, ?_⟩) (by assumption) ?_
          rotate_left
          · intro w5 hSw
            (try dsimp only at hSw)
            go_simp
            all_goals (with_reducible rfl)
          try simp only [Act.put, List.setIfInBounds_toArray, List.set_cons_zero, List.set_cons_succ]
          refine wpAnyH_ready (rs := [7]) (by kernel_rfl) (by simp) ?_
          refine AllReadyH.cons (ops_getP _ _ _ rfl) (fun K hK => ?_) AllReadyH.nil
          go_simp
          have qB : W5.heap.size ≤ V2.heap.size := HT.out.size
          have Gx := Lib.hid (Box.new V2 29 #[.slice none 0 0])
          have hb : Below V2.heap.size V2 (V2.alloc (.cells #[.slice none 0 0] 29)) := (Below.refl _ _).alloc (Nat.le_refl _) _
          have HTn := Lib.hid (HT.out.trans ((hb).mono HT.out.size))
          clear HT
          have HT := HTn
          clear HTn
          have On := Lib.hid (OwnSS.below O.out (hb))
          clear O
          have O := On
          clear On
          have G := Gx
          clear Gx hb
          generalize V2.alloc (.cells #[.slice none 0 0] 29) = V3 at *
          generalize V2.heap.size = gB at *
          refine hK.out _ _ ?_ (fun hHeld => ?_)
          · exact (cells13 (U0.out.below HT.out zd) (M4.out.below HT.out zb))
          clear hK K
          refine wpAnyH_ready (rs := [8]) (by kernel_rfl) (by simp) ?_
          refine AllReadyH.cons (ops_getP _ _ _ rfl) (fun K hK => ?_) AllReadyH.nil
          obtain ⟨z0, zf0⟩ := G.out.one
          go_simp
          clear z0 zf0
          have HTn : Hid (Below W5.heap.size W5 (World.setCell V3 ⟨gB, 0, none⟩ (.slice AO nO cO))) := HT.out.setCell (show W5.heap.size ≤ (⟨gB, 0, none⟩ : Addr).block from qB) (.slice AO nO cO)
          have On : Hid (OwnSS W5.heap.size (World.setCell V3 ⟨gB, 0, none⟩ (.slice AO nO cO)) AO nO cO rsO) := OwnSS.setBoxed O.out G.out (by decide) (by decide) 0 (.slice AO nO cO)
          have Gn : Hid (Box (World.setCell V3 ⟨gB, 0, none⟩ (.slice AO nO cO)) gB 29 #[.slice AO nO cO]) := G.out.set 0 (.slice AO nO cO)
          clear HT O G
          have HT := HTn
          have O := On
          have G := Gn
          clear HTn On Gn
          generalize (World.setCell V3 ⟨gB, 0, none⟩ (.slice AO nO cO)) = V4 at *
          refine hK.out _ _ ?_ (fun hHeld => ?_)
          · exact (cells13 (U0.out.below HT.out zd) (M4.out.below HT.out zb))
          clear hK K
          refine wpAnyH_take (i := 9) (v := ?_) (ops_getP _ _ _ rfl) (by kernel_rfl) (by kernel_rfl) (by kernel_rfl) (fun _ _ _ h => h) (Or.inl ⟨by rfl, ?_⟩) (by assumption) ?_
          rotate_left
          · intro w5 hSw
            (try dsimp only at hSw)
            go_simp
            all_goals (with_reducible rfl)
          try simp only [Act.put, List.setIfInBounds_toArray, List.set_cons_zero, List.set_cons_succ]
          refine wpAnyH_done (by kernel_rfl) ?_ _
          refine NoPanic.normal ?_
          go_wp2_with fail
          go_meet
          case rel => exact ⟨gB, AO, nO, cO, rsO, rfl, rfl, G.out, O.out, HLO.out, HT.out, qB⟩
        · go_simp
          have qB : W5.heap.size ≤ V1.heap.size := HT.out.size
          have Gx := Lib.hid (Box.new V1 29 #[.slice none 0 0])
          have hb : Below V1.heap.size V1 (V1.alloc (.cells #[.slice none 0 0] 29)) := (Below.refl _ _).alloc (Nat.le_refl _) _
          have HTn := Lib.hid (HT.out.trans ((hb).mono HT.out.size))
          clear HT
          have HT := HTn
          clear HTn
          have G := Gx
          clear Gx hb
          generalize V1.alloc (.cells #[.slice none 0 0] 29) = V2 at *
          generalize V1.heap.size = gB at *
          refine hK.out _ _ ?_ (fun hHeld => ?_)
          · exact (cells13 (U0.out.below HT.out zd) (M4.out.below HT.out zb))
          clear hK K
          refine wpAnyH_ready (rs := [3]) (by kernel_rfl) (by simp) ?_
          refine AllReadyH.cons (ops_getP _ _ _ rfl) (fun K hK => ?_) AllReadyH.nil
          go_simp
          refine (HP.out (some ⟨g5, 0, none⟩) n n r5 _ VL.out (T5.out.trans HLL.out) htV.out (VI.out.below HT.out) (SB.out.below HT.out) hn1).mono ?_
          rintro e V3 ⟨AO, nO, cO, rsO, rfl, hO, hLO, hb⟩
          have O := Lib.hid (OwnSS.mono hO HT.out.size)
          have HLO := Lib.hid hLO
          have HTn := Lib.hid (HT.out.trans ((hb).mono HT.out.size))
          clear HT
          have HT := HTn
          clear HTn
          have Gn := Lib.hid (G.out.below (hb) G.out.lt)
          clear G
          have G := Gn
          clear Gn
          clear hO hLO hb
          try go_simp
          refine hK.out _ _ ?_ (fun hHeld => ?_)
          · exact (cells13 (U0.out.below HT.out zd) (M4.out.below HT.out zb))
          clear hK K
          refine wpAnyH_take (i := 4) (v := ?_) (ops_getP _ _ _ rfl) (by kernel_rfl) (by kernel_rfl) (by kernel_rfl) (fun _ _ _ h => h) (Or.inl ⟨by rfl, ?_⟩) (by assumption) ?_
          rotate_left
          · intro w5 hSw
            (try dsimp only at hSw)
            go_simp
            all_goals (with_reducible rfl)
          try simp only [Act.put, List.setIfInBounds_toArray, List.set_cons_zero, List.set_cons_succ]
          refine wpAnyH_take (i := 5) (v := ?_) (ops_getP _ _ _ rfl) (by kernel_rfl) (by kernel_rfl) (by kernel_rfl) (fun _ _ _ h => h) (Or.inl ⟨by rfl, ?_⟩) (by assumption) ?_
          rotate_left
          · intro w5 hSw
            (try dsimp only at hSw)
            go_simp
            all_goals (with_reducible rfl)
          try simp only [Act.put, List.setIfInBounds_toArray, List.set_cons_zero, List.set_cons_succ]
          refine wpAnyH_take (i := 6) (v := ?_) (ops_getP _ _ _ rfl) (by kernel_rfl) (by kernel_rfl) (by kernel_rfl) (fun _ _ _ h => h) (Or.inl ⟨by rfl, ?_⟩) (by assumption) ?_
          rotate_left
          · intro w5 hSw
            (try dsimp only at hSw)
            go_simp
            all_goals (with_reducible rfl)
          try simp only [Act.put, List.setIfInBounds_toArray, List.set_cons_zero, List.set_cons_succ]
          refine wpAnyH_ready (rs := [8]) (by kernel_rfl) (by simp) ?_
          refine AllReadyH.cons (ops_getP _ _ _ rfl) (fun K hK => ?_) AllReadyH.nil
          obtain ⟨z0, zf0⟩ := G.out.one
          go_simp
          clear z0 zf0
          have HTn : Hid (Below W5.heap.size W5 (World.setCell V3 ⟨gB, 0, none⟩ (.slice AO nO cO))) := HT.out.setCell (show W5.heap.size ≤ (⟨gB, 0, none⟩ : Addr).block from qB) (.slice AO nO cO)
          have On : Hid (OwnSS W5.heap.size (World.setCell V3 ⟨gB, 0, none⟩ (.slice AO nO cO)) AO nO cO rsO) := OwnSS.setBoxed O.out G.out (by decide) (by decide) 0 (.slice AO nO cO)
          have Gn : Hid (Box (World.setCell V3 ⟨gB, 0, none⟩ (.slice AO nO cO)) gB 29 #[.slice AO nO cO]) := G.out.set 0 (.slice AO nO cO)
          clear HT O G
          have HT := HTn
          have O := On
          have G := Gn
          clear HTn On Gn
          generalize (World.setCell V3 ⟨gB, 0, none⟩ (.slice AO nO cO)) = V4 at *
          refine hK.out _ _ ?_ (fun hHeld => ?_)
          · exact (cells13 (U0.out.below HT.out zd) (M4.out.below HT.out zb))
          clear hK K
          refine wpAnyH_take (i := 9) (v := ?_) (ops_getP _ _ _ rfl) (by kernel_rfl) (by kernel_rfl) (by kernel_rfl) (fun _ _ _ h => h) (Or.inl ⟨by rfl, ?_⟩) (by assumption) ?_
          rotate_left
          · intro w5 hSw
            (try dsimp only at hSw)
            go_simp
            all_goals (with_reducible rfl)
          try simp only [Act.put, List.setIfInBounds_toArray, List.set_cons_zero, List.set_cons_succ]
          refine wpAnyH_done (by kernel_rfl) ?_ _
          refine NoPanic.normal ?_
          go_wp2_with fail
          go_meet
          case rel => exact ⟨gB, AO, nO, cO, rsO, rfl, rfl, G.out, O.out, HLO.out, HT.out, qB⟩
      · go_simp
        have qB : W5.heap.size ≤ V0.heap.size := HT.out.size
        have Gx := Lib.hid (Box.new V0 29 #[.slice none 0 0])
        have hb : Below V0.heap.size V0 (V0.alloc (.cells #[.slice none 0 0] 29)) := (Below.refl _ _).alloc (Nat.le_refl _) _
        have HTn := Lib.hid (HT.out.trans ((hb).mono HT.out.size))
        clear HT
        have HT := HTn
        clear HTn
        have G := Gx
        clear Gx hb
        generalize V0.alloc (.cells #[.slice none 0 0] 29) = V1 at *
        generalize V0.heap.size = gB at *
        refine hK.out _ _ ?_ (fun hHeld => ?_)
        · exact (cells13 (U0.out.below HT.out zd) (M4.out.below HT.out zb))
        clear hK K
        refine wpAnyH_ready (rs := [2]) (by kernel_rfl) (by simp) ?_
        refine AllReadyH.cons (ops_getP _ _ _ rfl) (fun K hK => ?_) AllReadyH.nil
        go_simp
        refine (toMove_calls x y z _).mono ?_
        rintro e V2 ⟨rfl, hb⟩
        have HTn := Lib.hid (HT.out.trans ((hb).mono HT.out.size))
        clear HT
        have HT := HTn
        clear HTn
        have Gn := Lib.hid (G.out.below (hb) G.out.lt)
        clear G
        have G := Gn
        clear Gn
        clear hb
        try go_simp
        refine hK.out _ _ ?_ (fun hHeld => ?_)
        · exact (cells13 (U0.out.below HT.out zd) (M4.out.below HT.out zb))
        clear hK K
        refine wpAnyH_ready (rs := [3]) (by kernel_rfl) (by simp) ?_
        refine AllReadyH.cons (ops_getP _ _ _ rfl) (fun K hK => ?_) AllReadyH.nil
        go_simp
        refine (HP.out (some ⟨g5, 0, none⟩) n n r5 _ VL.out (T5.out.trans HLL.out) htV.out (VI.out.below HT.out) (SB.out.below HT.out) hn1).mono ?_
        rintro e V3 ⟨AO, nO, cO, rsO, rfl, hO, hLO, hb⟩
        have O := Lib.hid (OwnSS.mono hO HT.out.size)
        have HLO := Lib.hid hLO
        have HTn := Lib.hid (HT.out.trans ((hb).mono HT.out.size))
        clear HT
        have HT := HTn
        clear HTn
        have Gn := Lib.hid (G.out.below (hb) G.out.lt)
        clear G
        have G := Gn
        clear Gn
        clear hO hLO hb
        try go_simp
        refine hK.out _ _ ?_ (fun hHeld => ?_)
        · exact (cells13 (U0.out.below HT.out zd) (M4.out.below HT.out zb))
        clear hK K
        refine wpAnyH_take (i := 4) (v := ?_) (ops_getP _ _ _ rfl) (by kernel_rfl) (by kernel_rfl) (by kernel_rfl) (fun _ _ _ h => h) (Or.inl ⟨by rfl, ?_⟩) (by assumption) ?_
        rotate_left
        · intro w5 hSw
          (try dsimp only at hSw)
          go_simp
          all_goals (with_reducible rfl)
        try simp only [Act.put, List.setIfInBounds_toArray, List.set_cons_zero, List.set_cons_succ]
        refine wpAnyH_take (i := 5) (v := ?_) (ops_getP _ _ _ rfl) (by kernel_rfl) (by kernel_rfl) (by kernel_rfl) (fun _ _ _ h => h) (Or.inl ⟨by rfl, ?_⟩) (by assumption) ?_
        rotate_left
        · intro w5 hSw
          (try dsimp only at hSw)
          go_simp
          all_goals (with_reducible rfl)
        try simp only [Act.put, List.setIfInBounds_toArray, List.set_cons_zero, List.set_cons_succ]
        refine wpAnyH_take (i := 6) (v := ?_) (ops_getP _ _ _ rfl) (by kernel_rfl) (by kernel_rfl) (by kernel_rfl) (fun _ _ _ h => h) (Or.inl ⟨by rfl, ?_⟩) (by assumption) ?_
        rotate_left
        · intro w5 hSw
          (try dsimp only at hSw)
          go_simp
          all_goals (with_reducible rfl)
        try simp only [Act.put, List.setIfInBounds_toArray, List.set_cons_zero, List.set_cons_succ]
        refine wpAnyH_ready (rs := [8]) (by kernel_rfl) (by simp) ?_
        refine AllReadyH.cons (ops_getP _ _ _ rfl) (fun K hK => ?_) AllReadyH.nil
        obtain ⟨z0, zf0⟩ := G.out.one
        go_simp
        clear z0 zf0
        have HTn : Hid (Below W5.heap.size W5 (World.setCell V3 ⟨gB, 0, none⟩ (.slice AO nO cO))) := HT.out.setCell (show W5.heap.size ≤ (⟨gB, 0, none⟩ : Addr).block from qB) (.slice AO nO cO)
        have On : Hid (OwnSS W5.heap.size (World.setCell V3 ⟨gB, 0, none⟩ (.slice AO nO cO)) AO nO cO rsO) := OwnSS.setBoxed O.out G.out (by decide) (by decide) 0 (.slice AO nO cO)
        have Gn : Hid (Box (World.setCell V3 ⟨gB, 0, none⟩ (.slice AO nO cO)) gB 29 #[.slice AO nO cO]) := G.out.set 0 (.slice AO nO cO)
        clear HT O G
        have HT := HTn
        have O := On
        have G := Gn
        clear HTn On Gn
        generalize (World.setCell V3 ⟨gB, 0, none⟩ (.slice AO nO cO)) = V4 at *
        refine hK.out _ _ ?_ (fun hHeld => ?_)
        · exact (cells13 (U0.out.below HT.out zd) (M4.out.below HT.out zb))
        clear hK K
        refine wpAnyH_take (i := 9) (v := ?_) (ops_getP _ _ _ rfl) (by kernel_rfl) (by kernel_rfl) (by kernel_rfl) (fun _ _ _ h => h) (Or.inl ⟨by rfl, ?_⟩) (by assumption) ?_
        rotate_left
        · intro w5 hSw
          (try dsimp only at hSw)
          go_simp
          all_goals (with_reducible rfl)
        try simp only [Act.put, List.setIfInBounds_toArray, List.set_cons_zero, List.set_cons_succ]
        refine wpAnyH_done (by kernel_rfl) ?_ _
        refine NoPanic.normal ?_
        go_wp2_with fail
        go_meet
        case rel => exact ⟨gB, AO, nO, cO, rsO, rfl, rfl, G.out, O.out, HLO.out, HT.out, qB⟩
    case rest =>
      obtain ⟨W7, hW7⟩ : ∃ x, x = wc := ⟨wc, rfl⟩
      subst hW7
      obtain ⟨gY, A9, n9, c9, rs9, rfl, rfl, hY, hQ, hL9, hb, hgY⟩ := hcut
      have X5 := Lib.hid (X4.out.below hb X4.out.lt)
      have M5 := Lib.hid (M4.out.below hb M4.out.lt)
      have R3 := Lib.hid (R2.out.below hb R2.out.lt)
      have V2 := Lib.hid (V1.out.below hb)
      have U1 := Lib.hid (U0.out.below hb U0.out.lt)
      have HB5 := Lib.hid (HB4.out.trans ((hb).mono HB4.out.size))
      clear X4 M4 R2 V1 U0 HB4
      have HO3 := Lib.hid (HO2.out.trans ((hb).mono HO2.out.size))
      clear HO2
      have hl9 := hQ.len
      have ht9 := totN_LL hQ
      rw [hL9] at ht9
      have hn9 : n9 ≤ 1048576 := by rw [← hl9, ← LL_len rs9, hL9]; omega
      have hq9 : totN rs9 ≤ 1048576 := by rw [ht9]; omega
      have hr9 : Hid (∀ r ∈ rs9, r.n ≤ 1048576) := rows_small hq9
      have Hl9 := Lib.hid hl9
      have HL9 := Lib.hid hL9
      clear hl9 ht9
      have Q0 := Lib.hid hQ
      have Y0 := Lib.hid hY
      have HE9 : Hid (decide (LLof rs9 = LLof rs0) = true) := by unfold Hid; rw [HL9.out, HL0.out]; simp
      clear hb hQ hY hL9 SB VI VL zd zb
      have hOI := Lib.hid (OI.out.below HO3.out)
      obtain ⟨f0, _⟩ := Y0.out.one
      obtain ⟨k0, _⟩ := R3.out.one
      go_wp2_with fail
      refine (eqHeap_calls A9 A0 n9 c9 n0 c0 rs9 rs0 _ Hl9.out Hl0.out hn9 hn0 hr9.out hr0.out Q0.out.ints hOI.out).mono ?_
      rintro e w7 ⟨rfl, hb⟩
      rw [HE9.out]
      clear hOI f0 k0
      have X6 := Lib.hid (X5.out.below hb X5.out.lt)
      have M6 := Lib.hid (M5.out.below hb M5.out.lt)
      have R4 := Lib.hid (R3.out.below hb R3.out.lt)
      have V3 := Lib.hid (V2.out.below hb)
      have U2 := Lib.hid (U1.out.below hb U1.out.lt)
      have Y1 := Lib.hid (Y0.out.below hb Y0.out.lt)
      have Q1 := Lib.hid (Q0.out.below hb)
      have HB6 := Lib.hid (HB5.out.trans ((hb).mono HB5.out.size))
      clear X5 M5 R3 V2 U1 Y0 Q0 HB5
      have HO4 := Lib.hid (HO3.out.trans ((hb).mono HO3.out.size))
      clear HO3
      clear hb
      have hI7 := Lib.hid (hI.below HB6.out)
      have U7 := U2
      have X7 := X6
      have V7 := V3
      obtain ⟨u0, _⟩ := U7.out.one
      obtain ⟨s0, _⟩ := X7.out.one
      have zu := U7.out.lt
      have zx := X7.out.lt
      go_wp2_with fail
      go_region_held3 (fun w' => w'.cell? ⟨gU, 0, none⟩ = some (.slice (some ⟨g5, 0, none⟩) n n) ∧ w'.cell? ⟨w.heap.size, 0, none⟩ = some (.slice A n c))
        (first | exact ⟨U7.out.one.1, X7.out.one.1⟩ | exact ⟨U8.out.one.1, X8.out.one.1⟩ | exact ⟨U9.out.one.1, X9.out.one.1⟩ | go_keep)
        (first
        | (go_at_call 7; refine (toHeap_calls A n c rs _ HL.out hn1 Hb.out ?_).mono ?_; (exact hI7.out); rintro e w8 ⟨gr, r8, rfl, hgr, hr8, hl8, hb8⟩; have U8 := Lib.hid (Box.below U7.out (undrew hb8) zu); have X8 := Lib.hid (Box.below X7.out (undrew hb8) zx))
        | (go_at_call 10; refine (eqHeap_calls (some ⟨g5, 0, none⟩) (some ⟨gr, 0, none⟩) n n n n r5 r8 _ ?_ ?_ hn1 hn1 ?_ ?_ ?_ ?_).mono ?_; (exact V7.out.len); (exact hr8.len); (exact rows_small (tot_eq T5.out V7.out Htot.out)); (exact rows_small (tot_eq hl8 hr8 Htot.out)); (exact V7.out.ints.below (undrew hb8)); (exact hr8.ints); rintro e w9 ⟨rfl, hb9⟩; have U9 := Lib.hid (Box.below U8.out hb9 (Box.lt U8.out)); have X9 := Lib.hid (Box.below X8.out hb9 (Box.lt X8.out))))
      have HE : Hid (decide (LLof r5 = LLof rs) = true) := by unfold Hid; rw [T5.out]; simp
      have HE2 : Hid (decide (LLof r5 = LLof r8) = true) := by unfold Hid; rw [T5.out, hl8]; simp
      clear U8 X8 U9 X9 u0 s0 zu zx hr8 hgr U7 X7 V7 hl8
      first | rw [HE.out] | rw [HE2.out]
      clear HE HE2
      have X7 := Lib.hid (X6.out.below (undrew hb8) X6.out.lt)
      have M7 := Lib.hid (M6.out.below (undrew hb8) M6.out.lt)
      have R5 := Lib.hid (R4.out.below (undrew hb8) R4.out.lt)
      have V4 := Lib.hid (V3.out.below (undrew hb8))
      have U3 := Lib.hid (U2.out.below (undrew hb8) U2.out.lt)
      have Y2 := Lib.hid (Y1.out.below (undrew hb8) Y1.out.lt)
      have Q2 := Lib.hid (Q1.out.below (undrew hb8))
      have HB7 := Lib.hid (HB6.out.trans (((undrew hb8)).mono HB6.out.size))
      clear X6 M6 R4 V3 U2 Y1 Q1 HB6
      have HO5 := Lib.hid (HO4.out.trans (((undrew hb8)).mono HO4.out.size))
      clear HO4
      have X8 := Lib.hid (X7.out.below hb9 X7.out.lt)
      have M8 := Lib.hid (M7.out.below hb9 M7.out.lt)
      have R6 := Lib.hid (R5.out.below hb9 R5.out.lt)
      have V5 := Lib.hid (V4.out.below hb9)
      have U4 := Lib.hid (U3.out.below hb9 U3.out.lt)
      have Y3 := Lib.hid (Y2.out.below hb9 Y2.out.lt)
      have Q3 := Lib.hid (Q2.out.below hb9)
      have HB8 := Lib.hid (HB7.out.trans ((hb9).mono HB7.out.size))
      clear X7 M7 R5 V4 U3 Y2 Q2 HB7
      have HO6 := Lib.hid (HO5.out.trans ((hb9).mono HO5.out.size))
      clear HO5
      clear hb8 hb9 hI7
      obtain ⟨u0, _⟩ := U4.out.one
      have hBw := HO6.out.size
      go_wp2_with fail
      refine (markHeap_kept W4.heap.size (some ⟨g5, 0, none⟩) n n r5 1 _ V5.out hBw hn1 htV.out (by omega) (by omega)).mono ?_
      rintro e w10 ⟨rfl, _, hbm, hkp⟩
      clear u0 hBw
      have HVne : Hid (∀ b, C ≤ b → ∀ r ∈ r5, r.A ≠ some ⟨b, 0, none⟩) := fun b hb r hr hA => by have := HVo.out r hr b hA; omega
      have Q4 := Lib.hid (OwnSS.of_blocks Q3.out (fun g h1 h2 => hkp.2 g h2 (HVne.out g (by omega))))
      have Y4 := Lib.hid (Y3.out.of_block (hkp.2 gY Y3.out.lt (HVne.out gY (by omega))))
      have R7 := Lib.hid (R6.out.below hbm HRb)
      have X9 := Lib.hid (X8.out.below hbm HXb)
      have M9 := Lib.hid (M8.out.below hbm HMb)
      have HO7 := Lib.hid (HO6.out.trans hbm)
      have HB9 := Lib.hid (HB8.out.trans (hbm.mono HBb))
      clear Q3 Y3 R6 X8 M8 HO6 HB8
      clear hbm hkp HVne V5 U4
      have hk1 : ¬ (1 + (totN r5 : Int)) < 0 := by omega
      have hOI := Lib.hid (OI.out.below HO7.out)
      obtain ⟨f0, _⟩ := Y4.out.one
      obtain ⟨k0, _⟩ := R7.out.one
      go_wp2_with fail
      refine (eqHeap_calls A9 A0 n9 c9 n0 c0 rs9 rs0 _ Hl9.out Hl0.out hn9 hn0 hr9.out hr0.out Q4.out.ints hOI.out).mono ?_
      rintro e w7 ⟨rfl, hb⟩
      rw [HE9.out]
      clear hOI f0 k0
      have X10 := Lib.hid (X9.out.below hb X9.out.lt)
      have M10 := Lib.hid (M9.out.below hb M9.out.lt)
      have R8 := Lib.hid (R7.out.below hb R7.out.lt)
      have Y5 := Lib.hid (Y4.out.below hb Y4.out.lt)
      have Q5 := Lib.hid (Q4.out.below hb)
      have HB10 := Lib.hid (HB9.out.trans ((hb).mono HB9.out.size))
      clear X9 M9 R7 Y4 Q4 HB9
      have HO8 := Lib.hid (HO7.out.trans ((hb).mono HO7.out.size))
      clear HO7
      clear hb
      have zf := Y5.out.lt
      obtain ⟨f0, _⟩ := Y5.out.one
      go_wp2_with fail
      refine (markHeap_kept _ A9 n9 c9 rs9 1 _ Q5.out (by omega) hn9 hq9 (by omega) (by omega)).mono ?_
      rintro e w12 ⟨rfl, hO, hg, hkp⟩
      clear f0
      have Y6 := Lib.hid (Y5.out.of_block (hkp.2 gY zf (fun r hr hA => by have h1 := Q5.out.2.1 r hr; rw [hA] at h1; exact absurd rfl (h1.ne_box Y5.out (by decide)))))
      have Q6 := Lib.hid (hO)
      have R9 := Lib.hid (R8.out.below hg (by omega))
      have X11 := Lib.hid (X10.out.below hg (by omega))
      have M11 := Lib.hid (M10.out.below hg (by omega))
      have HO9 := Lib.hid (HO8.out.trans (hg.mono (by omega)))
      have HB11 := Lib.hid (HB10.out.trans (hg.mono (by omega)))
      clear Y5 Q5 R8 X10 M10 HO8 HB10
      clear hO hg hkp zf
      obtain ⟨f0, _⟩ := Y6.out.one
      go_wp2_with fail
      refine (heldHeap_calls A9 n9 c9 rs9 1 _ Hl9.out Q6.out.ints hn9 hq9 (by omega) (by omega)).mono ?_
      rintro e wh ⟨rfl, hb⟩
      clear f0
      have X12 := Lib.hid (X11.out.below hb X11.out.lt)
      have M12 := Lib.hid (M11.out.below hb M11.out.lt)
      have R10 := Lib.hid (R9.out.below hb R9.out.lt)
      have Y7 := Lib.hid (Y6.out.below hb Y6.out.lt)
      have Q7 := Lib.hid (Q6.out.below hb)
      have HB12 := Lib.hid (HB11.out.trans ((hb).mono HB11.out.size))
      clear X11 M11 R9 Y6 Q6 HB11
      have HO10 := Lib.hid (HO9.out.trans ((hb).mono HO9.out.size))
      clear HO9
      clear hb
      obtain ⟨w15, hw15⟩ : ∃ x, x = wh := ⟨wh, rfl⟩
      subst hw15
      have SB := Lib.hid (hS.below HB12.out)
      have HIb := Lib.hid (hI.below HB12.out)
      go_wp2_with fail
      have zd := X12.out.lt
      have zb := M12.out.lt
      obtain ⟨_, _, _, _⟩ := cells13 X12.out M12.out
      go_upto_region 24 with (fail)
      go_cut [14, 15] (fun t1 t2 wc => MadeH w15 LS E t1 t2 wc)
      case first =>
        refine wp_region_noPanic ?_
        refine wp_region_held_drew (S := (fun w' => w'.cell? ⟨w.heap.size, 0, none⟩ = some (.slice A n c) ∧ w'.cell? ⟨w.heap.size + 1, 0, none⟩ = some (.int .i64 x) ∧ w'.cell? ⟨w.heap.size + 1, 1, none⟩ = some (.int .i64 y) ∧ w'.cell? ⟨w.heap.size + 1, 2, none⟩ = some (.int .i64 z))) (by kernel_rfl) (cells13 X12.out M12.out) (fun hHeld => ?_)
        have HT := Lib.hid (show Below w15.heap.size w15 w15.drew from (Below.refl _ _).drew)
        generalize w15.drew = V0 at *
        refine wpAnyH_take (i := 0) (v := ?_) (ops_getP _ _ _ rfl) (by kernel_rfl) (by kernel_rfl) (by kernel_rfl) (fun _ _ _ h => h) (Or.inl ⟨by rfl, ?_⟩) (by assumption) ?_
        rotate_left
        · intro w5 hSw
          (try dsimp only at hSw)
          go_simp
          all_goals (with_reducible rfl)
        try simp only [Act.put, List.setIfInBounds_toArray, List.set_cons_zero, List.set_cons_succ]
        refine wpAnyH_take (i := 2) (v := ?_) (ops_getP _ _ _ rfl) (by kernel_rfl) (by kernel_rfl) (by kernel_rfl) (fun _ _ _ h => h) (Or.inl ⟨by rfl, ?_⟩) (by assumption) ?_
        rotate_left
        · intro w5 hSw
          (try dsimp only at hSw)
          go_simp
          all_goals (with_reducible rfl)
        try simp only [Act.put, List.setIfInBounds_toArray, List.set_cons_zero, List.set_cons_succ]
        refine wpAnyH_ready (rs := [1, 8]) (by kernel_rfl) (by simp) ?_
        refine AllReadyH.cons (ops_getP _ _ _ rfl) (fun K hK => ?_) (AllReadyH.cons (ops_getP _ _ _ rfl) (fun K hK => ?_) AllReadyH.nil)
        · go_simp
          refine (toHeap_callsN A n c rs _ HL.out hn1 Hb.out (HIb.out.below HT.out)).mono ?_
          rintro e V1 ⟨g2, r2, rfl, hg2, hr2, hl2, hN2, hb⟩
          have HTn := Lib.hid (HT.out.trans ((hb).mono HT.out.size))
          clear HT
          have HT := HTn
          clear HTn
          have J := Lib.hid hr2
          have T2 := Lib.hid hl2
          have N2 := Lib.hid hN2
          clear hr2 hg2 hl2 hN2
          clear hb
          try go_simp
          refine hK.out _ _ ?_ (fun hHeld => ?_)
          · exact (cells13 (X12.out.below HT.out zd) (M12.out.below HT.out zb))
          clear hK K
          refine wpAnyH_ready (rs := [3, 8]) (by kernel_rfl) (by simp) ?_
          refine AllReadyH.cons (ops_getP _ _ _ rfl) (fun K hK => ?_) (AllReadyH.cons (ops_getP _ _ _ rfl) (fun K hK => ?_) AllReadyH.nil)
          · go_simp
            refine (toMove_calls x y z _).mono ?_
            rintro e V2 ⟨rfl, hb⟩
            have HTn := Lib.hid (HT.out.trans ((hb).mono HT.out.size))
            clear HT
            have HT := HTn
            clear HTn
            have Jn := Lib.hid (OwnSS.below J.out (hb))
            clear J
            have J := Jn
            clear Jn
            clear hb
            try go_simp
            refine hK.out _ _ ?_ (fun hHeld => ?_)
            · exact (cells13 (X12.out.below HT.out zd) (M12.out.below HT.out zb))
            clear hK K
            refine wpAnyH_ready (rs := [4, 8]) (by kernel_rfl) (by simp) ?_
            refine AllReadyH.cons (ops_getP _ _ _ rfl) (fun K hK => ?_) (AllReadyH.cons (ops_getP _ _ _ rfl) (fun K hK => ?_) AllReadyH.nil)
            · go_simp
              refine (HP.out (some ⟨g2, 0, none⟩) n n r2 _ J.out.len (T2.out.trans HLL.out) (tot_eq T2.out J.out Htot.out) J.out.ints (SB.out.below HT.out) hn1).mono ?_
              rintro e V3 ⟨AO, nO, cO, rsO, rfl, hO, hLO, hb⟩
              have O := Lib.hid (OwnSS.mono hO HT.out.size)
              have HLO := Lib.hid hLO
              have HTn := Lib.hid (HT.out.trans ((hb).mono HT.out.size))
              clear HT
              have HT := HTn
              clear HTn
              clear hO hLO hb
              try go_simp
              refine hK.out _ _ ?_ (fun hHeld => ?_)
              · exact (cells13 (X12.out.below HT.out zd) (M12.out.below HT.out zb))
              clear hK K
              refine wpAnyH_take (i := 5) (v := ?_) (ops_getP _ _ _ rfl) (by kernel_rfl) (by kernel_rfl) (by kernel_rfl) (fun _ _ _ h => h) (Or.inl ⟨by rfl, ?_⟩) (by assumption) ?_
              rotate_left
              · intro w5 hSw
                (try dsimp only at hSw)
                go_simp
                all_goals (with_reducible rfl)
              try simp only [Act.put, List.setIfInBounds_toArray, List.set_cons_zero, List.set_cons_succ]
              refine wpAnyH_take (i := 6) (v := ?_) (ops_getP _ _ _ rfl) (by kernel_rfl) (by kernel_rfl) (by kernel_rfl) (fun _ _ _ h => h) (Or.inl ⟨by rfl, ?_⟩) (by assumption) ?_
              rotate_left
              · intro w5 hSw
                (try dsimp only at hSw)
                go_simp
                all_goals (with_reducible rfl)
              try simp only [Act.put, List.setIfInBounds_toArray, List.set_cons_zero, List.set_cons_succ]
              refine wpAnyH_take (i := 7) (v := ?_) (ops_getP _ _ _ rfl) (by kernel_rfl) (by kernel_rfl) (by kernel_rfl) (fun _ _ _ h => h) (Or.inl ⟨by rfl, ?_⟩) (by assumption) ?_
              rotate_left
              · intro w5 hSw
                (try dsimp only at hSw)
                go_simp
                all_goals (with_reducible rfl)
              try simp only [Act.put, List.setIfInBounds_toArray, List.set_cons_zero, List.set_cons_succ]
              refine wpAnyH_ready (rs := [8]) (by kernel_rfl) (by simp) ?_
              refine AllReadyH.cons (ops_getP _ _ _ rfl) (fun K hK => ?_) AllReadyH.nil
              go_simp
              have qB : w15.heap.size ≤ V3.heap.size := HT.out.size
              have Gx := Lib.hid (Box.new V3 29 #[.slice none 0 0])
              have hb : Below V3.heap.size V3 (V3.alloc (.cells #[.slice none 0 0] 29)) := (Below.refl _ _).alloc (Nat.le_refl _) _
              have HTn := Lib.hid (HT.out.trans ((hb).mono HT.out.size))
              clear HT
              have HT := HTn
              clear HTn
              have On := Lib.hid (OwnSS.below O.out (hb))
              clear O
              have O := On
              clear On
              have G := Gx
              clear Gx hb
              generalize V3.alloc (.cells #[.slice none 0 0] 29) = V4 at *
              generalize V3.heap.size = gB at *
              refine hK.out _ _ ?_ (fun hHeld => ?_)
              · exact (cells13 (X12.out.below HT.out zd) (M12.out.below HT.out zb))
              clear hK K
              refine wpAnyH_ready (rs := [9]) (by kernel_rfl) (by simp) ?_
              refine AllReadyH.cons (ops_getP _ _ _ rfl) (fun K hK => ?_) AllReadyH.nil
              obtain ⟨z0, zf0⟩ := G.out.one
              go_simp
              clear z0 zf0
              have HTn : Hid (Below w15.heap.size w15 (World.setCell V4 ⟨gB, 0, none⟩ (.slice AO nO cO))) := HT.out.setCell (show w15.heap.size ≤ (⟨gB, 0, none⟩ : Addr).block from qB) (.slice AO nO cO)
              have On : Hid (OwnSS w15.heap.size (World.setCell V4 ⟨gB, 0, none⟩ (.slice AO nO cO)) AO nO cO rsO) := OwnSS.setBoxed O.out G.out (by decide) (by decide) 0 (.slice AO nO cO)
              have Gn : Hid (Box (World.setCell V4 ⟨gB, 0, none⟩ (.slice AO nO cO)) gB 29 #[.slice AO nO cO]) := G.out.set 0 (.slice AO nO cO)
              clear HT O G
              have HT := HTn
              have O := On
              have G := Gn
              clear HTn On Gn
              generalize (World.setCell V4 ⟨gB, 0, none⟩ (.slice AO nO cO)) = V5 at *
              refine hK.out _ _ ?_ (fun hHeld => ?_)
              · exact (cells13 (X12.out.below HT.out zd) (M12.out.below HT.out zb))
              clear hK K
              refine wpAnyH_take (i := 10) (v := ?_) (ops_getP _ _ _ rfl) (by kernel_rfl) (by kernel_rfl) (by kernel_rfl) (fun _ _ _ h => h) (Or.inl ⟨by rfl, ?_⟩) (by assumption) ?_
              rotate_left
              · intro w5 hSw
                (try dsimp only at hSw)
                go_simp
                all_goals (with_reducible rfl)
              try simp only [Act.put, List.setIfInBounds_toArray, List.set_cons_zero, List.set_cons_succ]
              refine wpAnyH_done (by kernel_rfl) ?_ _
              refine NoPanic.normal ?_
              go_wp2_with fail
              go_meet
              case rel => exact ⟨gB, AO, nO, cO, rsO, rfl, rfl, G.out, O.out, HLO.out, HT.out, qB⟩
            · go_simp
              have qB : w15.heap.size ≤ V2.heap.size := HT.out.size
              have Gx := Lib.hid (Box.new V2 29 #[.slice none 0 0])
              have hb : Below V2.heap.size V2 (V2.alloc (.cells #[.slice none 0 0] 29)) := (Below.refl _ _).alloc (Nat.le_refl _) _
              have HTn := Lib.hid (HT.out.trans ((hb).mono HT.out.size))
              clear HT
              have HT := HTn
              clear HTn
              have Jn := Lib.hid (OwnSS.below J.out (hb))
              clear J
              have J := Jn
              clear Jn
              have G := Gx
              clear Gx hb
              generalize V2.alloc (.cells #[.slice none 0 0] 29) = V3 at *
              generalize V2.heap.size = gB at *
              refine hK.out _ _ ?_ (fun hHeld => ?_)
              · exact (cells13 (X12.out.below HT.out zd) (M12.out.below HT.out zb))
              clear hK K
              refine wpAnyH_ready (rs := [4]) (by kernel_rfl) (by simp) ?_
              refine AllReadyH.cons (ops_getP _ _ _ rfl) (fun K hK => ?_) AllReadyH.nil
              go_simp
              refine (HP.out (some ⟨g2, 0, none⟩) n n r2 _ J.out.len (T2.out.trans HLL.out) (tot_eq T2.out J.out Htot.out) J.out.ints (SB.out.below HT.out) hn1).mono ?_
              rintro e V4 ⟨AO, nO, cO, rsO, rfl, hO, hLO, hb⟩
              have O := Lib.hid (OwnSS.mono hO HT.out.size)
              have HLO := Lib.hid hLO
              have HTn := Lib.hid (HT.out.trans ((hb).mono HT.out.size))
              clear HT
              have HT := HTn
              clear HTn
              have Gn := Lib.hid (G.out.below (hb) G.out.lt)
              clear G
              have G := Gn
              clear Gn
              clear hO hLO hb
              try go_simp
              refine hK.out _ _ ?_ (fun hHeld => ?_)
              · exact (cells13 (X12.out.below HT.out zd) (M12.out.below HT.out zb))
              clear hK K
              refine wpAnyH_take (i := 5) (v := ?_) (ops_getP _ _ _ rfl) (by kernel_rfl) (by kernel_rfl) (by kernel_rfl) (fun _ _ _ h => h) (Or.inl ⟨by rfl, ?_⟩) (by assumption) ?_
              rotate_left
              · intro w5 hSw
                (try dsimp only at hSw)
                go_simp
                all_goals (with_reducible rfl)
              try simp only [Act.put, List.setIfInBounds_toArray, List.set_cons_zero, List.set_cons_succ]
              refine wpAnyH_take (i := 6) (v := ?_) (ops_getP _ _ _ rfl) (by kernel_rfl) (by kernel_rfl) (by kernel_rfl) (fun _ _ _ h => h) (Or.inl ⟨by rfl, ?_⟩) (by assumption) ?_
              rotate_left
              · intro w5 hSw
                (try dsimp only at hSw)
                go_simp
                all_goals (with_reducible rfl)
              try simp only [Act.put, List.setIfInBounds_toArray, List.set_cons_zero, List.set_cons_succ]
              refine wpAnyH_take (i := 7) (v := ?_) (ops_getP _ _ _ rfl) (by kernel_rfl) (by kernel_rfl) (by kernel_rfl) (fun _ _ _ h => h) (Or.inl ⟨by rfl, ?_⟩) (by assumption) ?_
              rotate_left
              · intro w5 hSw
                (try dsimp only at hSw)
                go_simp
                all_goals (with_reducible rfl)
              try simp only [Act.put, List.setIfInBounds_toArray, List.set_cons_zero, List.set_cons_succ]
              refine wpAnyH_ready (rs := [9]) (by kernel_rfl) (by simp) ?_
              refine AllReadyH.cons (ops_getP _ _ _ rfl) (fun K hK => ?_) AllReadyH.nil
              obtain ⟨z0, zf0⟩ := G.out.one
              go_simp
              clear z0 zf0
              have HTn : Hid (Below w15.heap.size w15 (World.setCell V4 ⟨gB, 0, none⟩ (.slice AO nO cO))) := HT.out.setCell (show w15.heap.size ≤ (⟨gB, 0, none⟩ : Addr).block from qB) (.slice AO nO cO)
              have On : Hid (OwnSS w15.heap.size (World.setCell V4 ⟨gB, 0, none⟩ (.slice AO nO cO)) AO nO cO rsO) := OwnSS.setBoxed O.out G.out (by decide) (by decide) 0 (.slice AO nO cO)
              have Gn : Hid (Box (World.setCell V4 ⟨gB, 0, none⟩ (.slice AO nO cO)) gB 29 #[.slice AO nO cO]) := G.out.set 0 (.slice AO nO cO)
              clear HT O G
              have HT := HTn
              have O := On
              have G := Gn
              clear HTn On Gn
              generalize (World.setCell V4 ⟨gB, 0, none⟩ (.slice AO nO cO)) = V5 at *
              refine hK.out _ _ ?_ (fun hHeld => ?_)
              · exact (cells13 (X12.out.below HT.out zd) (M12.out.below HT.out zb))
              clear hK K
              refine wpAnyH_take (i := 10) (v := ?_) (ops_getP _ _ _ rfl) (by kernel_rfl) (by kernel_rfl) (by kernel_rfl) (fun _ _ _ h => h) (Or.inl ⟨by rfl, ?_⟩) (by assumption) ?_
              rotate_left
              · intro w5 hSw
                (try dsimp only at hSw)
                go_simp
                all_goals (with_reducible rfl)
              try simp only [Act.put, List.setIfInBounds_toArray, List.set_cons_zero, List.set_cons_succ]
              refine wpAnyH_done (by kernel_rfl) ?_ _
              refine NoPanic.normal ?_
              go_wp2_with fail
              go_meet
              case rel => exact ⟨gB, AO, nO, cO, rsO, rfl, rfl, G.out, O.out, HLO.out, HT.out, qB⟩
          · go_simp
            have qB : w15.heap.size ≤ V1.heap.size := HT.out.size
            have Gx := Lib.hid (Box.new V1 29 #[.slice none 0 0])
            have hb : Below V1.heap.size V1 (V1.alloc (.cells #[.slice none 0 0] 29)) := (Below.refl _ _).alloc (Nat.le_refl _) _
            have HTn := Lib.hid (HT.out.trans ((hb).mono HT.out.size))
            clear HT
            have HT := HTn
            clear HTn
            have Jn := Lib.hid (OwnSS.below J.out (hb))
            clear J
            have J := Jn
            clear Jn
            have G := Gx
            clear Gx hb
            generalize V1.alloc (.cells #[.slice none 0 0] 29) = V2 at *
            generalize V1.heap.size = gB at *
            refine hK.out _ _ ?_ (fun hHeld => ?_)
            · exact (cells13 (X12.out.below HT.out zd) (M12.out.below HT.out zb))
            clear hK K
            refine wpAnyH_ready (rs := [3]) (by kernel_rfl) (by simp) ?_
            refine AllReadyH.cons (ops_getP _ _ _ rfl) (fun K hK => ?_) AllReadyH.nil
            go_simp
            refine (toMove_calls x y z _).mono ?_
            rintro e V3 ⟨rfl, hb⟩
            have HTn := Lib.hid (HT.out.trans ((hb).mono HT.out.size))
            clear HT
            have HT := HTn
            clear HTn
            have Jn := Lib.hid (OwnSS.below J.out (hb))
            clear J
            have J := Jn
            clear Jn
            have Gn := Lib.hid (G.out.below (hb) G.out.lt)
            clear G
            have G := Gn
            clear Gn
            clear hb
            try go_simp
            refine hK.out _ _ ?_ (fun hHeld => ?_)
            · exact (cells13 (X12.out.below HT.out zd) (M12.out.below HT.out zb))
            clear hK K
            refine wpAnyH_ready (rs := [4]) (by kernel_rfl) (by simp) ?_
            refine AllReadyH.cons (ops_getP _ _ _ rfl) (fun K hK => ?_) AllReadyH.nil
            go_simp
            refine (HP.out (some ⟨g2, 0, none⟩) n n r2 _ J.out.len (T2.out.trans HLL.out) (tot_eq T2.out J.out Htot.out) J.out.ints (SB.out.below HT.out) hn1).mono ?_
            rintro e V4 ⟨AO, nO, cO, rsO, rfl, hO, hLO, hb⟩
            have O := Lib.hid (OwnSS.mono hO HT.out.size)
            have HLO := Lib.hid hLO
            have HTn := Lib.hid (HT.out.trans ((hb).mono HT.out.size))
            clear HT
            have HT := HTn
            clear HTn
            have Gn := Lib.hid (G.out.below (hb) G.out.lt)
            clear G
            have G := Gn
            clear Gn
            clear hO hLO hb
            try go_simp
            refine hK.out _ _ ?_ (fun hHeld => ?_)
            · exact (cells13 (X12.out.below HT.out zd) (M12.out.below HT.out zb))
            clear hK K
            refine wpAnyH_take (i := 5) (v := ?_) (ops_getP _ _ _ rfl) (by kernel_rfl) (by kernel_rfl) (by kernel_rfl) (fun _ _ _ h => h) (Or.inl ⟨by rfl, ?_⟩) (by assumption) ?_
            rotate_left
            · intro w5 hSw
              (try dsimp only at hSw)
              go_simp
              all_goals (with_reducible rfl)
            try simp only [Act.put, List.setIfInBounds_toArray, List.set_cons_zero, List.set_cons_succ]
            refine wpAnyH_take (i := 6) (v := ?_) (ops_getP _ _ _ rfl) (by kernel_rfl) (by kernel_rfl) (by kernel_rfl) (fun _ _ _ h => h) (Or.inl ⟨by rfl, ?_⟩) (by assumption) ?_
            rotate_left
            · intro w5 hSw
              (try dsimp only at hSw)
              go_simp
              all_goals (with_reducible rfl)
            try simp only [Act.put, List.setIfInBounds_toArray, List.set_cons_zero, List.set_cons_succ]
            refine wpAnyH_take (i := 7) (v := ?_) (ops_getP _ _ _ rfl) (by kernel_rfl) (by kernel_rfl) (by kernel_rfl) (fun _ _ _ h => h) (Or.inl ⟨by rfl, ?_⟩) (by assumption) ?_
            rotate_left
            · intro w5 hSw
              (try dsimp only at hSw)
              go_simp
              all_goals (with_reducible rfl)
            try simp only [Act.put, List.setIfInBounds_toArray, List.set_cons_zero, List.set_cons_succ]
            refine wpAnyH_ready (rs := [9]) (by kernel_rfl) (by simp) ?_
            refine AllReadyH.cons (ops_getP _ _ _ rfl) (fun K hK => ?_) AllReadyH.nil
            obtain ⟨z0, zf0⟩ := G.out.one
            go_simp
            clear z0 zf0
            have HTn : Hid (Below w15.heap.size w15 (World.setCell V4 ⟨gB, 0, none⟩ (.slice AO nO cO))) := HT.out.setCell (show w15.heap.size ≤ (⟨gB, 0, none⟩ : Addr).block from qB) (.slice AO nO cO)
            have On : Hid (OwnSS w15.heap.size (World.setCell V4 ⟨gB, 0, none⟩ (.slice AO nO cO)) AO nO cO rsO) := OwnSS.setBoxed O.out G.out (by decide) (by decide) 0 (.slice AO nO cO)
            have Gn : Hid (Box (World.setCell V4 ⟨gB, 0, none⟩ (.slice AO nO cO)) gB 29 #[.slice AO nO cO]) := G.out.set 0 (.slice AO nO cO)
            clear HT O G
            have HT := HTn
            have O := On
            have G := Gn
            clear HTn On Gn
            generalize (World.setCell V4 ⟨gB, 0, none⟩ (.slice AO nO cO)) = V5 at *
            refine hK.out _ _ ?_ (fun hHeld => ?_)
            · exact (cells13 (X12.out.below HT.out zd) (M12.out.below HT.out zb))
            clear hK K
            refine wpAnyH_take (i := 10) (v := ?_) (ops_getP _ _ _ rfl) (by kernel_rfl) (by kernel_rfl) (by kernel_rfl) (fun _ _ _ h => h) (Or.inl ⟨by rfl, ?_⟩) (by assumption) ?_
            rotate_left
            · intro w5 hSw
              (try dsimp only at hSw)
              go_simp
              all_goals (with_reducible rfl)
            try simp only [Act.put, List.setIfInBounds_toArray, List.set_cons_zero, List.set_cons_succ]
            refine wpAnyH_done (by kernel_rfl) ?_ _
            refine NoPanic.normal ?_
            go_wp2_with fail
            go_meet
            case rel => exact ⟨gB, AO, nO, cO, rsO, rfl, rfl, G.out, O.out, HLO.out, HT.out, qB⟩
        · go_simp
          have qB : w15.heap.size ≤ V0.heap.size := HT.out.size
          have Gx := Lib.hid (Box.new V0 29 #[.slice none 0 0])
          have hb : Below V0.heap.size V0 (V0.alloc (.cells #[.slice none 0 0] 29)) := (Below.refl _ _).alloc (Nat.le_refl _) _
          have HTn := Lib.hid (HT.out.trans ((hb).mono HT.out.size))
          clear HT
          have HT := HTn
          clear HTn
          have G := Gx
          clear Gx hb
          generalize V0.alloc (.cells #[.slice none 0 0] 29) = V1 at *
          generalize V0.heap.size = gB at *
          refine hK.out _ _ ?_ (fun hHeld => ?_)
          · exact (cells13 (X12.out.below HT.out zd) (M12.out.below HT.out zb))
          clear hK K
          refine wpAnyH_ready (rs := [1]) (by kernel_rfl) (by simp) ?_
          refine AllReadyH.cons (ops_getP _ _ _ rfl) (fun K hK => ?_) AllReadyH.nil
          go_simp
          refine (toHeap_callsN A n c rs _ HL.out hn1 Hb.out (HIb.out.below HT.out)).mono ?_
          rintro e V2 ⟨g2, r2, rfl, hg2, hr2, hl2, hN2, hb⟩
          have HTn := Lib.hid (HT.out.trans ((hb).mono HT.out.size))
          clear HT
          have HT := HTn
          clear HTn
          have Gn := Lib.hid (G.out.below (hb) G.out.lt)
          clear G
          have G := Gn
          clear Gn
          have J := Lib.hid hr2
          have T2 := Lib.hid hl2
          have N2 := Lib.hid hN2
          clear hr2 hg2 hl2 hN2
          clear hb
          try go_simp
          refine hK.out _ _ ?_ (fun hHeld => ?_)
          · exact (cells13 (X12.out.below HT.out zd) (M12.out.below HT.out zb))
          clear hK K
          refine wpAnyH_ready (rs := [3]) (by kernel_rfl) (by simp) ?_
          refine AllReadyH.cons (ops_getP _ _ _ rfl) (fun K hK => ?_) AllReadyH.nil
          go_simp
          refine (toMove_calls x y z _).mono ?_
          rintro e V3 ⟨rfl, hb⟩
          have HTn := Lib.hid (HT.out.trans ((hb).mono HT.out.size))
          clear HT
          have HT := HTn
          clear HTn
          have Jn := Lib.hid (OwnSS.below J.out (hb))
          clear J
          have J := Jn
          clear Jn
          have Gn := Lib.hid (G.out.below (hb) G.out.lt)
          clear G
          have G := Gn
          clear Gn
          clear hb
          try go_simp
          refine hK.out _ _ ?_ (fun hHeld => ?_)
          · exact (cells13 (X12.out.below HT.out zd) (M12.out.below HT.out zb))
          clear hK K
          refine wpAnyH_ready (rs := [4]) (by kernel_rfl) (by simp) ?_
          refine AllReadyH.cons (ops_getP _ _ _ rfl) (fun K hK => ?_) AllReadyH.nil
          go_simp
          refine (HP.out (some ⟨g2, 0, none⟩) n n r2 _ J.out.len (T2.out.trans HLL.out) (tot_eq T2.out J.out Htot.out) J.out.ints (SB.out.below HT.out) hn1).mono ?_
          rintro e V4 ⟨AO, nO, cO, rsO, rfl, hO, hLO, hb⟩
          have O := Lib.hid (OwnSS.mono hO HT.out.size)
          have HLO := Lib.hid hLO
          have HTn := Lib.hid (HT.out.trans ((hb).mono HT.out.size))
          clear HT
          have HT := HTn
          clear HTn
          have Gn := Lib.hid (G.out.below (hb) G.out.lt)
          clear G
          have G := Gn
          clear Gn
          clear hO hLO hb
          try go_simp
          refine hK.out _ _ ?_ (fun hHeld => ?_)
          · exact (cells13 (X12.out.below HT.out zd) (M12.out.below HT.out zb))
          clear hK K
          refine wpAnyH_take (i := 5) (v := ?_) (ops_getP _ _ _ rfl) (by kernel_rfl) (by kernel_rfl) (by kernel_rfl) (fun _ _ _ h => h) (Or.inl ⟨by rfl, ?_⟩) (by assumption) ?_
          rotate_left
          · intro w5 hSw
            (try dsimp only at hSw)
            go_simp
            all_goals (with_reducible rfl)
          try simp only [Act.put, List.setIfInBounds_toArray, List.set_cons_zero, List.set_cons_succ]
          refine wpAnyH_take (i := 6) (v := ?_) (ops_getP _ _ _ rfl) (by kernel_rfl) (by kernel_rfl) (by kernel_rfl) (fun _ _ _ h => h) (Or.inl ⟨by rfl, ?_⟩) (by assumption) ?_
          rotate_left
          · intro w5 hSw
            (try dsimp only at hSw)
            go_simp
            all_goals (with_reducible rfl)
          try simp only [Act.put, List.setIfInBounds_toArray, List.set_cons_zero, List.set_cons_succ]
          refine wpAnyH_take (i := 7) (v := ?_) (ops_getP _ _ _ rfl) (by kernel_rfl) (by kernel_rfl) (by kernel_rfl) (fun _ _ _ h => h) (Or.inl ⟨by rfl, ?_⟩) (by assumption) ?_
          rotate_left
          · intro w5 hSw
            (try dsimp only at hSw)
            go_simp
            all_goals (with_reducible rfl)
          try simp only [Act.put, List.setIfInBounds_toArray, List.set_cons_zero, List.set_cons_succ]
          refine wpAnyH_ready (rs := [9]) (by kernel_rfl) (by simp) ?_
          refine AllReadyH.cons (ops_getP _ _ _ rfl) (fun K hK => ?_) AllReadyH.nil
          obtain ⟨z0, zf0⟩ := G.out.one
          go_simp
          clear z0 zf0
          have HTn : Hid (Below w15.heap.size w15 (World.setCell V4 ⟨gB, 0, none⟩ (.slice AO nO cO))) := HT.out.setCell (show w15.heap.size ≤ (⟨gB, 0, none⟩ : Addr).block from qB) (.slice AO nO cO)
          have On : Hid (OwnSS w15.heap.size (World.setCell V4 ⟨gB, 0, none⟩ (.slice AO nO cO)) AO nO cO rsO) := OwnSS.setBoxed O.out G.out (by decide) (by decide) 0 (.slice AO nO cO)
          have Gn : Hid (Box (World.setCell V4 ⟨gB, 0, none⟩ (.slice AO nO cO)) gB 29 #[.slice AO nO cO]) := G.out.set 0 (.slice AO nO cO)
          clear HT O G
          have HT := HTn
          have O := On
          have G := Gn
          clear HTn On Gn
          generalize (World.setCell V4 ⟨gB, 0, none⟩ (.slice AO nO cO)) = V5 at *
          refine hK.out _ _ ?_ (fun hHeld => ?_)
          · exact (cells13 (X12.out.below HT.out zd) (M12.out.below HT.out zb))
          clear hK K
          refine wpAnyH_take (i := 10) (v := ?_) (ops_getP _ _ _ rfl) (by kernel_rfl) (by kernel_rfl) (by kernel_rfl) (fun _ _ _ h => h) (Or.inl ⟨by rfl, ?_⟩) (by assumption) ?_
          rotate_left
          · intro w5 hSw
            (try dsimp only at hSw)
            go_simp
            all_goals (with_reducible rfl)
          try simp only [Act.put, List.setIfInBounds_toArray, List.set_cons_zero, List.set_cons_succ]
          refine wpAnyH_done (by kernel_rfl) ?_ _
          refine NoPanic.normal ?_
          go_wp2_with fail
          go_meet
          case rel => exact ⟨gB, AO, nO, cO, rsO, rfl, rfl, G.out, O.out, HLO.out, HT.out, qB⟩
      case rest =>
        obtain ⟨gZ, A14, n14, c14, rs14, rfl, rfl, hZ, hK, hL14, hb, hgZ⟩ := hcut
        have R11 := Lib.hid (R10.out.below hb R10.out.lt)
        have Y8 := Lib.hid (Y7.out.below hb Y7.out.lt)
        have Q8 := Lib.hid (Q7.out.below hb)
        have HB13 := Lib.hid (HB12.out.trans ((hb).mono HB12.out.size))
        clear X12 M12 R10 Y7 Q7 HB12
        have HO11 := Lib.hid (HO10.out.trans ((hb).mono HO10.out.size))
        clear HO10
        have hl14 := hK.len
        have ht14 := totN_LL hK
        rw [hL14] at ht14
        have hn14 : n14 ≤ 1048576 := by rw [← hl14, ← LL_len rs14, hL14]; omega
        have hq14 : totN rs14 ≤ 1048576 := by rw [ht14]; omega
        have hr14 : Hid (∀ r ∈ rs14, r.n ≤ 1048576) := rows_small hq14
        have Hl14 := Lib.hid hl14
        have HL14 := Lib.hid hL14
        clear hl14 ht14
        have K0 := Lib.hid hK.ints
        have Z0 := Lib.hid hZ
        have HE14 : Hid (decide (LLof rs14 = LLof rs0) = true) := by unfold Hid; rw [HL14.out, HL0.out]; simp
        clear hb hK hZ hL14 SB HIb zd zb
        have hOI := Lib.hid (OI.out.below HO11.out)
        obtain ⟨f0, _⟩ := Z0.out.one
        obtain ⟨k0, _⟩ := R11.out.one
        go_wp2_with fail
        refine (eqHeap_calls A14 A0 n14 c14 n0 c0 rs14 rs0 _ Hl14.out Hl0.out hn14 hn0 hr14.out hr0.out K0.out hOI.out).mono ?_
        rintro e w7 ⟨rfl, hb⟩
        rw [HE14.out]
        clear hOI f0 k0
        have R12 := Lib.hid (R11.out.below hb R11.out.lt)
        have Y9 := Lib.hid (Y8.out.below hb Y8.out.lt)
        have Q9 := Lib.hid (Q8.out.below hb)
        have Z1 := Lib.hid (Z0.out.below hb Z0.out.lt)
        have HB14 := Lib.hid (HB13.out.trans ((hb).mono HB13.out.size))
        clear R11 Y8 Q8 Z0 HB13
        have HO12 := Lib.hid (HO11.out.trans ((hb).mono HO11.out.size))
        clear HO11
        clear hb
        clear K0
        obtain ⟨f0, _⟩ := Y9.out.one
        go_wp2_with fail
        refine (heldHeap_calls A9 n9 c9 rs9 1 _ Hl9.out Q9.out.ints hn9 hq9 (by omega) (by omega)).mono ?_
        rintro e wh ⟨rfl, hb⟩
        clear f0
        have R13 := Lib.hid (R12.out.below hb R12.out.lt)
        have Y10 := Lib.hid (Y9.out.below hb Y9.out.lt)
        have Q10 := Lib.hid (Q9.out.below hb)
        have Z2 := Lib.hid (Z1.out.below hb Z1.out.lt)
        have HB15 := Lib.hid (HB14.out.trans ((hb).mono HB14.out.size))
        clear R12 Y9 Q9 Z1 HB14
        have HO13 := Lib.hid (HO12.out.trans ((hb).mono HO12.out.size))
        clear HO12
        clear hb
        go_wp2
        go_ret
        exact ⟨rfl, HB15.out⟩

theorem walk (A : Option Addr) (n c : Nat) (rs : List Rw) (x y z : Int) (ea : Addr) (w : World) (hA : ArgSS w A n rs) (wx : (Lit.int .i64 x).wf = true) (wy : (Lit.int .i64 y).wf = true) (wz : (Lit.int .i64 z).wf = true) (hS : Sent w ea) :
    Calls Tryd.prog 4 #[.agg #[.slice A n c], .agg #[.int .i64 x, .int .i64 y, .int .i64 z]] w fun e w' => e = .returned (.bool true) ∧ Below w.heap.size w w' := by
  by_cases hn : n + totN rs ≤ 1048576
  · exact core A n c rs x y z (LLof rs) (ahL (LLof rs) (x, y, z)) (ahE (LLof rs) (x, y, z)) ea w rfl (ahL_small _ _) hA hn hS
      (fun A n c r W h1 h2 h3 h4 h5 h6 => by rw [← h2]; exact specAfterHeapMove_h A n c r (x, y, z) W h1 h6 h3 (fun s hs he => absurd he (h5 s hs)) h4)
      (fun A n c r W h1 h2 h3 h4 h5 h6 => by rw [← h2]; exact implAfterHeapMove_h A n c r (x, y, z) ea W h1 h6 h3 h4 h5)
  · have h0 := szI_no hn
    obtain ⟨W0, hW0⟩ : ∃ W0, W0 = (w.alloc (.cells #[.slice A n c] 24)).alloc (.cells #[.int .i64 x, .int .i64 y, .int .i64 z] 37) := ⟨_, rfl⟩
    have hb0 : Below w.heap.size w W0 := by rw [hW0]; exact ((Below.refl _ w).alloc (Nat.le_refl _) _).alloc (by simp) _
    have x0 : Box W0 w.heap.size 24 #[.slice A n c] := by rw [hW0]; exact (Box.new w _ _).alloc _
    have m0 : Box W0 (w.heap.size + 1) 37 #[.int .i64 x, .int .i64 y, .int .i64 z] := by
      have h := Box.new (w.alloc (.cells #[.slice A n c] 24)) 37 #[.int .i64 x, .int .i64 y, .int .i64 z]
      rw [World.size_alloc] at h
      rw [hW0]; exact h
    have X0 := Lib.hid x0
    have M0 := Lib.hid m0
    have HB0 := Lib.hid hb0
    have HWN := Lib.hid hW0
    clear x0 m0 hb0 hW0
    go_enter Tryd.func4, Tryd.ntmps4
    go_wp2_with fail
    rw [← HWN.out]
    refine (szHeap_calls A n c rs 1048576 _ (hA.below HB0.out) (by omega) (by omega)).mono ?_
    rintro e w1 ⟨rfl, hb1⟩
    have HB1 := Lib.hid (HB0.out.trans (hb1.mono HB0.out.size))
    clear hb1
    go_wp2
    go_ret
    exact ⟨rfl, HB1.out⟩

theorem door_met (os : Os) (args : Array Value) : laidMetH Tryd.prog Rows.fnExactAfterHeapMoveRow.laid ((World.doorLaid Tryd.prog 28 os).forCall (fun _ _ => 0) ⟨#[], args, []⟩).memory :=
  laidMetH_of_parts3 (fuel := 8) (laidMet_of_run' 8 (by kernel_rfl) (by kernel_rfl)) (by kernel_rfl) (by kernel_rfl)
theorem sent_of_laid {W : World} (h : laidMetH Tryd.prog Rows.fnExactAfterHeapMoveRow.laid W) : ∃ a : Addr, W.var? Tryd.prog "loop.example/g01321/impl.errNoHeap" = some #[.iface 78 (.pointer (some a))] ∧ Sent W a := by
  rw [MakeChecks.laidMetH_plain _ _ _ (by kernel_rfl)] at h
  exact sent_of h

set_option maxRecDepth 100000 in
theorem lifted (os : Os) (started : os.Started) (H : Type) (enc : TypeId × Value → H) :
    ReturnsInHanded {} Tryd.checked os 4 .any (fun w args => (Rows.fnExactAfterHeapMoveSpec.pre enc Tryd.prog Tryd.f4 [] false w args ∧ laidMetH Tryd.prog Rows.fnExactAfterHeapMoveRow.laid w) ∧ sizedMet enc Tryd.prog Tryd.f4 (OpenSpec.ofChange Rows.fnExactAfterHeapMoveSpec) false w args)
      (Rows.fnExactAfterHeapMoveSpec.post enc Tryd.prog Tryd.f4 false true false false) := by
  refine returnsInHanded_of_change_and (C := Tryd.checked) (X := fun w _ => laidMetH Tryd.prog Rows.fnExactAfterHeapMoveRow.laid w) (fun _ _ _ hh h => h.of_heap hh) own started (by kernel_rfl) Tryd.func4
    (ChangeSpec.witness_shaped (enc := enc) (C := Tryd.checked) (os := os) (X := fun w _ => laidMetH Tryd.prog Rows.fnExactAfterHeapMoveRow.laid w) false (World.doorLaid Tryd.prog 28 os) #[.agg #[.slice none 0 0], .agg #[.int .i64 0, .int .i64 0, .int .i64 0]] 8 rfl (World.shaped_of_RefB (by kernel_rfl) (by kernel_rfl)) (by kernel_rfl) (by kernel_rfl) (by kernel_rfl) (door_met os _)) ?_
  intro W base args ds gs before hval0 hW _ _ hL _
  have hval : ∀ (j : Nat) t v, Tryd.f4.params[j]? = some t → args[j]? = some v → Value.okWide Tryd.prog W .any base t v := hval0
  have hW' := hW
  obtain ⟨p, q, hA0, hV0, rfl, hfz, hnd⟩ := hW
  have hA : DataW.TrodAll enc Tryd.prog W 0 (fun _ => true) true Tryd.f4.params.toList args.toList ds p := hA0
  have hV : DataW.TrodVars enc Tryd.prog W (fun _ => true) ["loop.example/g01321/impl.errNoHeap"] gs q := hV0
  rw [Tryd.params4] at hA hval
  obtain ⟨v0, vs0, d0, ds0, p0, q0, hargs, rfl, rfl, h0, r0⟩ := trodAll_cons hA
  obtain ⟨v1, vs1, d1, ds1, p1, q1, rfl, rfl, rfl, h1, r1⟩ := trodAll_cons r0
  obtain ⟨rfl, rfl, rfl⟩ := trodAll_nil r1
  obtain rfl : args = #[v0, v1] := by cases args; simp_all
  obtain ⟨ea, hv, hS⟩ := sent_of_laid hL
  obtain ⟨rfl, rfl⟩ := hV.unique (err_reads enc hv _)
  have lt0 : ∀ x ∈ p0, x.block < W.heap.size := by obtain ⟨m, hm⟩ := h0; exact DataW.trod_lt m _ _ _ hm
  have k0 := h0
  obtain ⟨A0, n0, c0, rs0, rfl, hAI0⟩ := open_heap (hval 0 24 v0 rfl rfl) h0
  have lt1 : ∀ x ∈ p1, x.block < W.heap.size := by obtain ⟨m, hm⟩ := h1; exact DataW.trod_lt m _ _ _ hm
  have k1 := h1
  obtain ⟨x1, y1, z1, rfl, wx1, wy1, wz1⟩ := open_move (hval 1 37 v1 rfl rfl) h1
  clear hA0 hV0 hval0
  refine (walk A0 n0 c0 rs0 x1 y1 z1 ea W hAI0 wx1 wy1 wz1 hS).mono fun e W' ⟨he, bel⟩ => ?_
  subst he
  exact ⟨_, rfl, _, _, _, [], _, [.cell 0 0], hW', trodAll_mk1 (shut_bool Tryd.underlying4 _), (trodAll_cons_mk (Below.trod laidOut (by kernel_rfl) (of_decide_eq_true (by kernel_rfl)) k0 bel lt0) (trodAll_cons_mk (Below.trod laidOut (by kernel_rfl) (of_decide_eq_true (by kernel_rfl)) k1 bel lt1) trodAll_mk0)), err_reads enc (var_stays gErr hv bel (Nat.le_refl _)) _, bel.frame _, fun h => by cases h⟩

theorem over : Rows.fnExactAfterHeapMoveRow.holds Tryd.pinned (OpenSpec.ofChange Rows.fnExactAfterHeapMoveSpec) :=
  OpenClaim.holds_of_wide 4 Tryd.f4 rfl rfl rfl rfl rfl rfl rfl ⟨rfl, rfl, rfl, rfl, rfl⟩ rfl rfl rfl rfl rfl (by kernel_rfl) Tryd.func4 (by kernel_rfl)
    (of_decide_eq_true (by kernel_rfl)) (by unfold Func.isWrapper; first | (rw [if_pos (by decide +kernel)]; kernel_rfl) | (rw [if_neg (by decide +kernel)]; exact ⟨rfl, rfl⟩))
    (fun os started H enc _ => lifted os started H enc)

theorem proved : Rows.FnExactAfterHeapMoveCardSaid :=
  Claim7.holds_tied_plain_at .later [] [.sentinel] true _ _
    over (fun _ h => by cases h) (by kernel_rfl) (fun _ h => by cases h) fnExactAfterHeapMove_row_tie rfl ⟨rfl, rfl⟩ (by kernel_rfl) rfl
    (fun f fn hf hfn => by
      obtain rfl : f = 4 := Option.some.inj ((show Tryd.prog.funcNamed "loop.example/g01321/laws.FnExactAfterHeapMove" = some 4 by kernel_rfl).symm.trans hf) |>.symm
      obtain rfl : fn = Tryd.f4 := (Option.some.inj (Tryd.func4.symm.trans hfn)).symm
      exact ⟨by kernel_rfl, fun j t ht => by
        rw [Tryd.params4] at ht
        have hm : t ∈ [24, 37] := by simpa using Array.mem_of_getElem? ht
        have hall : ([24, 37].all fun u => !Tryd.prog.wantsStandIn u) = true := by kernel_rfl
        exact (show Tryd.prog.wantsStandIn t = false by simpa using List.all_eq_true.1 hall t hm)⟩)
    (by kernel_rfl)
#print axioms proved
end Go.Proofs.YtpiglaolofddfaaDoor.fnExactAfterHeapMove
