/- 'RunByRules' of the program answers at every argument as the specification's model, leaves its arguments as they were, and its answer is its own memory, the variable impl.errNotLegal being as its own initialiser lays it (a tied card). The package variable errNoHeap is as its own initialiser lays it (a tied card). Conditions: none. -/
import Derived.Test.YtbnjdpjlhccglaaDoorOpen
import Derived.Test.YtbnjdpjlhccglaaDoorOpenState
import Derived.Test.YtbnjdpjlhccglaaDoorOpenRu
import Derived.Test.YtbnjdpjlhccglaaDoorHeld
import Derived.Test.YtbnjdpjlhccglaaDoorMvI
import Derived.Test.YtbnjdpjlhccglaaDoorRb4
import Derived.Test.YtbnjdpjlhccglaaDoorRbDoor
import Derived.Deep.RegionHeld3
import Derived.Test.YtbnjdpjlhccglaaDoorOpenHeap
import Derived.Test.YtbnjdpjlhccglaaDoorCards
import Derived.Test.YtbnjdpjlhccglaaDoorTie
import Derived.SevenTiedAt
import Derived.LaidMore
import Derived.Stop.Joined
namespace Go.Proofs.YtbnjdpjlhccglaaDoor.fnExactRunByRules
open Go.ChangeShapes Go.WideShapes Go.ChangeAt Go.RowKit Go.Joins
open Go.ChangeMaps (open_string)
set_option linter.unusedVariables false

theorem szI_no {n : Nat} (h : ¬ n ≤ 1048576) : szI n 1048576 = -1 := by unfold szI; omega
theorem szI_yes {n : Nat} (h : n ≤ 1048576) : 0 ≤ szI n 1048576 := by unfold szI; omega
theorem own_bkG {e s B : Nat} {w : World} {A : Option Addr} {n c : Nat} {xs : List Value} (h : OwnG e s B w A n c xs) : ∀ k, (Value.slice A n c).ownBlock = some k → B ≤ k := fun k hk => by
  rcases h.form with ⟨rfl, _⟩ | ⟨g, rfl, hB, _⟩
  · cases hk
  · have hk' : some g = some k := hk
    injection hk' with hk'
    omega
theorem block_of_own {e s B g g' : Nat} {w : World} {n c : Nat} {xs : List Value} (h : OwnG e s B w (some ⟨g, 0, none⟩) n c xs) (hk : (Value.slice (some ⟨g, 0, none⟩) n c).ownBlock = some g') : (some (some g) : Option (Option Nat)) = some (some g') := by
  have hk' : some g = some g' := hk
  rw [hk']

theorem block_of_ownG {e s B g k : Nat} {w : World} {n c : Nat} {xs : List Value} (h : OwnG e s B w (some ⟨g, 0, none⟩) n c xs) (hk : (Value.slice (some ⟨g, 0, none⟩) n c).ownBlock = some k) : g = k := by
  have hk' : some g = some k := hk
  injection hk' with hk'
theorem ownG_ge {e s B g : Nat} {w : World} {A : Option Addr} {n c : Nat} {xs : List Value} (h : OwnG e s B w A n c xs) (hA : A = some ⟨g, 0, none⟩) : B ≤ g := by
  subst hA
  exact (ownG_lt h).1

/-- What a call of the function leaves: a box with the answer, its list in new memory, all else as it was. -/
def MadeR (W0 : World) (P : Int) (nn : Nat) (LL : List Int) (E : Int) (t t' : Value) (wc : World) : Prop :=
  ∃ g A c, t = .pointer (some ⟨g, 0, none⟩) ∧ t' = .int .i64 E ∧ Box wc g 30 #[.int .i64 P, .slice A nn c] ∧ Own W0.heap.size wc A nn c LL ∧ Below W0.heap.size W0 wc ∧ W0.heap.size ≤ g
theorem rbL_len (r : Nat → Int) (p : Int) (L : List Int) (M : List Mv) (hL : L.length ≤ 1048576) : (rbL r p L M).length ≤ 1048576 := by
  unfold rbL; split
  · rw [stA_len]; exact hL
  · simp
theorem ops_getP {α : Type} (l : List α) (i : Nat) (o : α) (h : l[i]? = some o) : l.toArray[i]? = some o := by rw [List.getElem?_toArray]; exact h
theorem cells92 {w : World} {b t b' t' : Nat} {r : Nat → Int} {u v : Value} (h : Box w b t (z9 r)) (h' : Box w b' t' #[u, v]) :
    w.cell? ⟨b, 0, none⟩ = some (.int .i64 (r 0)) ∧ w.cell? ⟨b, 1, none⟩ = some (.int .i64 (r 1)) ∧ w.cell? ⟨b, 2, none⟩ = some (.int .i64 (r 2)) ∧ w.cell? ⟨b, 3, none⟩ = some (.int .i64 (r 3)) ∧ w.cell? ⟨b, 4, none⟩ = some (.int .i64 (r 4)) ∧ w.cell? ⟨b, 5, none⟩ = some (.int .i64 (r 5)) ∧ w.cell? ⟨b, 6, none⟩ = some (.int .i64 (r 6)) ∧ w.cell? ⟨b, 7, none⟩ = some (.int .i64 (r 7)) ∧ w.cell? ⟨b, 8, none⟩ = some (.int .i64 (r 8)) ∧ w.cell? ⟨b', 0, none⟩ = some u ∧ w.cell? ⟨b', 1, none⟩ = some v :=
  ⟨z9_at h (by omega), z9_at h (by omega), z9_at h (by omega), z9_at h (by omega), z9_at h (by omega), z9_at h (by omega), z9_at h (by omega), z9_at h (by omega), z9_at h (by omega), h'.two.1, h'.two.2.1⟩

set_option maxRecDepth 100000 in
set_option maxHeartbeats 40000000 in
theorem core (r : Nat → Int) (p : Int) (A : Option Addr) (n c : Nat) (L : List Int) (AM : Option Addr) (m cM : Nat) (M : List Mv) (P E : Int) (LL : List Int) (nn : Nat) (ea : Addr) (w : World) (hnn : nn ≤ 1048576) (hLL : LL.length = nn) (hL : L.length = n) (hn : n ≤ 1048576) (hI : Ints w A L) (hM : M.length = m) (hnm : n + m ≤ 1048576) (hMv : MvsA w AM M) (hS : SentL w ea)
    (hspec : ∀ g h W, Ints W (some ⟨g, 0, none⟩) L → Mvs W (some ⟨h, 0, none⟩) M → Calls Tryd.prog 6 #[.agg (z9 r), .agg #[.int .i64 p, .slice (some ⟨g, 0, none⟩) n n], .slice (some ⟨h, 0, none⟩) m m] W (RetState W P nn LL E))
    (himpl : ∀ g h W, SentL W ea → Ints W (some ⟨g, 0, none⟩) L → Mvs W (some ⟨h, 0, none⟩) M → Calls Tryd.prog 10 #[.agg (z9 r), .agg #[.int .i64 p, .slice (some ⟨g, 0, none⟩) n n], .slice (some ⟨h, 0, none⟩) m m] W (RetState W P nn LL E)) :
    Calls Tryd.prog 3 #[.agg (z9 r), .agg #[.int .i64 p, .slice A n c], .slice AM m cM] w fun e w' => e = .returned (.bool true) ∧ Below w.heap.size w w' := by
  have HS := Lib.hid hspec
  have HP := Lib.hid himpl
  have HL := Lib.hid hL
  have HM := Lib.hid hM
  have HLL := Lib.hid hLL
  obtain ⟨W0, hW0⟩ : ∃ W0, W0 = (w.alloc (.cells (z9 r) 23)).alloc (.cells #[.int .i64 p, .slice A n c] 26) := ⟨_, rfl⟩
  have hb0 : Below w.heap.size w W0 := by rw [hW0]; exact ((Below.refl _ w).alloc (Nat.le_refl _) _).alloc (by simp) _
  have d0 : Box W0 w.heap.size 23 (z9 r) := by rw [hW0]; exact (Box.new w _ _).alloc _
  have x0 : Box W0 (w.heap.size + 1) 26 #[.int .i64 p, .slice A n c] := by
    have h := Box.new (w.alloc (.cells (z9 r) 23)) 26 #[.int .i64 p, .slice A n c]
    rw [World.size_alloc] at h
    rw [hW0]; exact h
  have D0 := Lib.hid d0
  have X0 := Lib.hid x0
  have HB0 := Lib.hid hb0
  have HWN := Lib.hid hW0
  obtain ⟨x0, x1, _, _⟩ := x0.two
  clear d0 hb0 hW0
  unfold z9 at HWN
  have h0 := szI_yes hn
  have h1 : szI n 1048576 ≤ 1048576 := by unfold szI; omega
  have h2 : 0 ≤ szI m (szI n 1048576) := by unfold szI; omega
  have hmb : m ≤ 1048576 := by omega
  clear hspec himpl hL hM hLL
  unfold z9
  go_enter Tryd.func3, Tryd.ntmps3
  go_wp2_with fail
  rw [← HWN.out]
  refine (szState_calls A n c p 1048576 _ (by omega) (by omega) (by omega)).mono ?_
  rintro e w1 ⟨rfl, hb⟩
  have D1 := Lib.hid (D0.out.below hb D0.out.lt)
  have X1 := Lib.hid (X0.out.below hb X0.out.lt)
  have HB1 := Lib.hid (HB0.out.trans ((hb).mono HB0.out.size))
  clear D0 X0 HB0
  clear hb HWN
  go_wp2_with fail
  refine (szMoveS_calls AM m cM (szI n 1048576) _ (by omega) h0 h1).mono ?_
  rintro e wz ⟨rfl, rfl⟩
  have HIb := Lib.hid (hI.below HB1.out)
  have HMb := Lib.hid (hMv.below HB1.out)
  have zd := D1.out.lt
  have zb := X1.out.lt
  obtain ⟨_, _, _, _, _, _, _, _, _, _, _⟩ := cells92 D1.out X1.out
  go_upto_region 8 with (fail)
  go_cut [8, 9] (fun t1 t2 wc => MadeR w1 P nn LL E t1 t2 wc)
  case first =>
    refine wp_region_noPanic ?_
    refine wp_region_held_drew (S := (fun w' => w'.cell? ⟨w.heap.size, 0, none⟩ = some (.int .i64 (r 0)) ∧ w'.cell? ⟨w.heap.size, 1, none⟩ = some (.int .i64 (r 1)) ∧ w'.cell? ⟨w.heap.size, 2, none⟩ = some (.int .i64 (r 2)) ∧ w'.cell? ⟨w.heap.size, 3, none⟩ = some (.int .i64 (r 3)) ∧ w'.cell? ⟨w.heap.size, 4, none⟩ = some (.int .i64 (r 4)) ∧ w'.cell? ⟨w.heap.size, 5, none⟩ = some (.int .i64 (r 5)) ∧ w'.cell? ⟨w.heap.size, 6, none⟩ = some (.int .i64 (r 6)) ∧ w'.cell? ⟨w.heap.size, 7, none⟩ = some (.int .i64 (r 7)) ∧ w'.cell? ⟨w.heap.size, 8, none⟩ = some (.int .i64 (r 8)) ∧ w'.cell? ⟨w.heap.size + 1, 0, none⟩ = some (.int .i64 p) ∧ w'.cell? ⟨w.heap.size + 1, 1, none⟩ = some (.slice A n c))) (by kernel_rfl) (cells92 D1.out X1.out) (fun hHeld => ?_)
    have HT := Lib.hid (show Below w1.heap.size w1 w1.drew from (Below.refl _ _).drew)
    generalize w1.drew = V0 at *
    refine wpAnyH_take (i := 0) (v := ?_) (ops_getP _ _ _ rfl) (by kernel_rfl) (by kernel_rfl) (by kernel_rfl) (fun _ _ _ h => h) (Or.inl ⟨by rfl, ?_⟩) (by assumption) ?_
    rotate_left
    · intro w5 hSw
      (try dsimp only at hSw)
      go_simp
      all_goals (with_reducible rfl)
    try simp only [Act.put, List.setIfInBounds_toArray, List.set_cons_zero, List.set_cons_succ]
    refine wpAnyH_take (i := 2) (v := ?_) (ops_getP _ _ _ rfl) (by kernel_rfl) (by kernel_rfl) (by kernel_rfl) (fun _ _ _ h => h) (Or.inl ⟨by rfl, ?_⟩) (by assumption) ?_
    rotate_left
    · intro w5 hSw
      (try dsimp only at hSw)
      go_simp
      all_goals (with_reducible rfl)
    try simp only [Act.put, List.setIfInBounds_toArray, List.set_cons_zero, List.set_cons_succ]
    refine wpAnyH_take (i := 4) (v := ?_) (ops_getP _ _ _ rfl) (by kernel_rfl) (by kernel_rfl) (by kernel_rfl) (fun _ _ _ h => h) (Or.inl ⟨by rfl, ?_⟩) (by assumption) ?_
    rotate_left
    · intro w5 hSw
      (try dsimp only at hSw)
      go_simp
      all_goals (with_reducible rfl)
    try simp only [Act.put, List.setIfInBounds_toArray, List.set_cons_zero, List.set_cons_succ]
    refine wpAnyH_ready (rs := [1, 10]) (by kernel_rfl) (by simp) ?_
    refine AllReadyH.cons (ops_getP _ _ _ rfl) (fun K hK => ?_) (AllReadyH.cons (ops_getP _ _ _ rfl) (fun K hK => ?_) AllReadyH.nil)
    · go_simp
      refine (toRules_calls r _).mono ?_
      rintro e V1 ⟨rfl, hb⟩
      have HTn := Lib.hid (HT.out.trans ((hb).mono HT.out.size))
      clear HT
      have HT := HTn
      clear HTn
      clear hb
      try go_simp
      refine hK.out _ _ ?_ (fun hHeld => ?_)
      · exact (cells92 (D1.out.below HT.out zd) (X1.out.below HT.out zb))
      clear hK K
      refine wpAnyH_ready (rs := [3, 10]) (by kernel_rfl) (by simp) ?_
      refine AllReadyH.cons (ops_getP _ _ _ rfl) (fun K hK => ?_) (AllReadyH.cons (ops_getP _ _ _ rfl) (fun K hK => ?_) AllReadyH.nil)
      · go_simp
        refine (toState_calls A n c p L _ HL.out hn (HIb.out.below HT.out)).mono ?_
        rintro e V2 ⟨g2, rfl, hg2, hr2, hb⟩
        have HTn := Lib.hid (HT.out.trans ((hb).mono HT.out.size))
        clear HT
        have HT := HTn
        clear HTn
        have I := Lib.hid hr2.ints
        clear hr2 hg2
        clear hb
        try go_simp
        refine hK.out _ _ ?_ (fun hHeld => ?_)
        · exact (cells92 (D1.out.below HT.out zd) (X1.out.below HT.out zb))
        clear hK K
        refine wpAnyH_ready (rs := [5, 10]) (by kernel_rfl) (by simp) ?_
        refine AllReadyH.cons (ops_getP _ _ _ rfl) (fun K hK => ?_) (AllReadyH.cons (ops_getP _ _ _ rfl) (fun K hK => ?_) AllReadyH.nil)
        · go_simp
          refine (toMoveS_calls AM m cM M _ HM.out hmb (HMb.out.below HT.out)).mono ?_
          rintro e V3 ⟨g3, rfl, hg3, hO3, hb⟩
          have HTn := Lib.hid (HT.out.trans ((hb).mono HT.out.size))
          clear HT
          have HT := HTn
          clear HTn
          have In := Lib.hid (I.out.below (hb))
          clear I
          have I := In
          clear In
          have Mm := Lib.hid (OwnM.mvs hO3)
          clear hO3 hg3
          clear hb
          try go_simp
          refine hK.out _ _ ?_ (fun hHeld => ?_)
          · exact (cells92 (D1.out.below HT.out zd) (X1.out.below HT.out zb))
          clear hK K
          refine wpAnyH_ready (rs := [6, 10]) (by kernel_rfl) (by simp) ?_
          refine AllReadyH.cons (ops_getP _ _ _ rfl) (fun K hK => ?_) (AllReadyH.cons (ops_getP _ _ _ rfl) (fun K hK => ?_) AllReadyH.nil)
          · go_simp
            refine (HS.out g2 g3 _ I.out Mm.out).mono ?_
            rintro e V4 ⟨AO, cO, rfl, hO, hb⟩
            have O := Lib.hid (OwnG.mono hO HT.out.size)
            have HTn := Lib.hid (HT.out.trans ((hb).mono HT.out.size))
            clear HT
            have HT := HTn
            clear HTn
            have In := Lib.hid (I.out.below (hb))
            clear I
            have I := In
            clear In
            have Mmn := Lib.hid (Mm.out.below (hb))
            clear Mm
            have Mm := Mmn
            clear Mmn
            clear hO hb
            try go_simp
            refine hK.out _ _ ?_ (fun hHeld => ?_)
            · exact (cells92 (D1.out.below HT.out zd) (X1.out.below HT.out zb))
            clear hK K
            refine wpAnyH_take (i := 7) (v := ?_) (ops_getP _ _ _ rfl) (by kernel_rfl) (by kernel_rfl) (by kernel_rfl) (fun _ _ _ h => h) (Or.inl ⟨by rfl, ?_⟩) (by assumption) ?_
            rotate_left
            · intro w5 hSw
              (try dsimp only at hSw)
              go_simp
              all_goals (with_reducible rfl)
            try simp only [Act.put, List.setIfInBounds_toArray, List.set_cons_zero, List.set_cons_succ]
            refine wpAnyH_take (i := 8) (v := ?_) (ops_getP _ _ _ rfl) (by kernel_rfl) (by kernel_rfl) (by kernel_rfl) (fun _ _ _ h => h) (Or.inl ⟨by rfl, ?_⟩) (by assumption) ?_
            rotate_left
            · intro w5 hSw
              (try dsimp only at hSw)
              go_simp
              all_goals (with_reducible rfl)
            try simp only [Act.put, List.setIfInBounds_toArray, List.set_cons_zero, List.set_cons_succ]
            refine wpAnyH_take (i := 9) (v := ?_) (ops_getP _ _ _ rfl) (by kernel_rfl) (by kernel_rfl) (by kernel_rfl) (fun _ _ _ h => h) (Or.inl ⟨by rfl, ?_⟩) (by assumption) ?_
            rotate_left
            · intro w5 hSw
              (try dsimp only at hSw)
              go_simp
              all_goals (with_reducible rfl)
            try simp only [Act.put, List.setIfInBounds_toArray, List.set_cons_zero, List.set_cons_succ]
            refine wpAnyH_ready (rs := [10]) (by kernel_rfl) (by simp) ?_
            refine AllReadyH.cons (ops_getP _ _ _ rfl) (fun K hK => ?_) AllReadyH.nil
            go_simp
            have qB : w1.heap.size ≤ V4.heap.size := HT.out.size
            have Gx := Lib.hid (Box.new V4 30 #[.int .i64 0, .slice none 0 0])
            have hb : Below V4.heap.size V4 (V4.alloc (.cells #[.int .i64 0, .slice none 0 0] 30)) := (Below.refl _ _).alloc (Nat.le_refl _) _
            have HTn := Lib.hid (HT.out.trans ((hb).mono HT.out.size))
            clear HT
            have HT := HTn
            clear HTn
            have In := Lib.hid (I.out.below (hb))
            clear I
            have I := In
            clear In
            have Mmn := Lib.hid (Mm.out.below (hb))
            clear Mm
            have Mm := Mmn
            clear Mmn
            have On := Lib.hid (OwnG.below O.out (hb))
            clear O
            have O := On
            clear On
            have G := Gx
            clear Gx hb
            generalize V4.alloc (.cells #[.int .i64 0, .slice none 0 0] 30) = V5 at *
            generalize V4.heap.size = gB at *
            refine hK.out _ _ ?_ (fun hHeld => ?_)
            · exact (cells92 (D1.out.below HT.out zd) (X1.out.below HT.out zb))
            clear hK K
            refine wpAnyH_ready (rs := [11]) (by kernel_rfl) (by simp) ?_
            refine AllReadyH.cons (ops_getP _ _ _ rfl) (fun K hK => ?_) AllReadyH.nil
            obtain ⟨z0, z1, zf0, zf1⟩ := G.out.two
            go_simp
            clear z0 z1 zf0 zf1
            have HTn : Hid (Below w1.heap.size w1 (World.setCell (World.setCell V5 ⟨gB, 0, none⟩ (.int .i64 P)) ⟨gB, 1, none⟩ (.slice AO nn cO))) := (HT.out.setCell (show w1.heap.size ≤ (⟨gB, 0, none⟩ : Addr).block from qB) (.int .i64 P)).setCell (show w1.heap.size ≤ (⟨gB, 1, none⟩ : Addr).block from qB) (.slice AO nn cO)
            have On : Hid (Own w1.heap.size (World.setCell (World.setCell V5 ⟨gB, 0, none⟩ (.int .i64 P)) ⟨gB, 1, none⟩ (.slice AO nn cO)) AO nn cO LL) := OwnG.setBoxed (OwnG.setBoxed O.out G.out (by decide) 0 (.int .i64 P)) (G.out.set 0 (.int .i64 P)) (by decide) 1 (.slice AO nn cO)
            have Gn : Hid (Box (World.setCell (World.setCell V5 ⟨gB, 0, none⟩ (.int .i64 P)) ⟨gB, 1, none⟩ (.slice AO nn cO)) gB 30 #[.int .i64 P, .slice AO nn cO]) := (G.out.set 0 (.int .i64 P)).set 1 (.slice AO nn cO)
            clear HT O G
            have HT := HTn
            have O := On
            have G := Gn
            clear HTn On Gn
            generalize (World.setCell (World.setCell V5 ⟨gB, 0, none⟩ (.int .i64 P)) ⟨gB, 1, none⟩ (.slice AO nn cO)) = V6 at *
            refine hK.out _ _ ?_ (fun hHeld => ?_)
            · exact (cells92 (D1.out.below HT.out zd) (X1.out.below HT.out zb))
            clear hK K
            refine wpAnyH_take (i := 12) (v := ?_) (ops_getP _ _ _ rfl) (by kernel_rfl) (by kernel_rfl) (by kernel_rfl) (fun _ _ _ h => h) (Or.inl ⟨by rfl, ?_⟩) (by assumption) ?_
            rotate_left
            · intro w5 hSw
              (try dsimp only at hSw)
              go_simp
              all_goals (with_reducible rfl)
            try simp only [Act.put, List.setIfInBounds_toArray, List.set_cons_zero, List.set_cons_succ]
            refine wpAnyH_done (by kernel_rfl) ?_ _
            refine NoPanic.normal ?_
            go_wp2_with fail
            go_meet
            case rel => exact ⟨gB, AO, cO, rfl, rfl, G.out, O.out, HT.out, qB⟩
          · go_simp
            have qB : w1.heap.size ≤ V3.heap.size := HT.out.size
            have Gx := Lib.hid (Box.new V3 30 #[.int .i64 0, .slice none 0 0])
            have hb : Below V3.heap.size V3 (V3.alloc (.cells #[.int .i64 0, .slice none 0 0] 30)) := (Below.refl _ _).alloc (Nat.le_refl _) _
            have HTn := Lib.hid (HT.out.trans ((hb).mono HT.out.size))
            clear HT
            have HT := HTn
            clear HTn
            have In := Lib.hid (I.out.below (hb))
            clear I
            have I := In
            clear In
            have Mmn := Lib.hid (Mm.out.below (hb))
            clear Mm
            have Mm := Mmn
            clear Mmn
            have G := Gx
            clear Gx hb
            generalize V3.alloc (.cells #[.int .i64 0, .slice none 0 0] 30) = V4 at *
            generalize V3.heap.size = gB at *
            refine hK.out _ _ ?_ (fun hHeld => ?_)
            · exact (cells92 (D1.out.below HT.out zd) (X1.out.below HT.out zb))
            clear hK K
            refine wpAnyH_ready (rs := [6]) (by kernel_rfl) (by simp) ?_
            refine AllReadyH.cons (ops_getP _ _ _ rfl) (fun K hK => ?_) AllReadyH.nil
            go_simp
            refine (HS.out g2 g3 _ I.out Mm.out).mono ?_
            rintro e V5 ⟨AO, cO, rfl, hO, hb⟩
            have O := Lib.hid (OwnG.mono hO HT.out.size)
            have HTn := Lib.hid (HT.out.trans ((hb).mono HT.out.size))
            clear HT
            have HT := HTn
            clear HTn
            have In := Lib.hid (I.out.below (hb))
            clear I
            have I := In
            clear In
            have Mmn := Lib.hid (Mm.out.below (hb))
            clear Mm
            have Mm := Mmn
            clear Mmn
            have Gn := Lib.hid (G.out.below (hb) G.out.lt)
            clear G
            have G := Gn
            clear Gn
            clear hO hb
            try go_simp
            refine hK.out _ _ ?_ (fun hHeld => ?_)
            · exact (cells92 (D1.out.below HT.out zd) (X1.out.below HT.out zb))
            clear hK K
            refine wpAnyH_take (i := 7) (v := ?_) (ops_getP _ _ _ rfl) (by kernel_rfl) (by kernel_rfl) (by kernel_rfl) (fun _ _ _ h => h) (Or.inl ⟨by rfl, ?_⟩) (by assumption) ?_
            rotate_left
            · intro w5 hSw
              (try dsimp only at hSw)
              go_simp
              all_goals (with_reducible rfl)
            try simp only [Act.put, List.setIfInBounds_toArray, List.set_cons_zero, List.set_cons_succ]
            refine wpAnyH_take (i := 8) (v := ?_) (ops_getP _ _ _ rfl) (by kernel_rfl) (by kernel_rfl) (by kernel_rfl) (fun _ _ _ h => h) (Or.inl ⟨by rfl, ?_⟩) (by assumption) ?_
            rotate_left
            · intro w5 hSw
              (try dsimp only at hSw)
              go_simp
              all_goals (with_reducible rfl)
            try simp only [Act.put, List.setIfInBounds_toArray, List.set_cons_zero, List.set_cons_succ]
            refine wpAnyH_take (i := 9) (v := ?_) (ops_getP _ _ _ rfl) (by kernel_rfl) (by kernel_rfl) (by kernel_rfl) (fun _ _ _ h => h) (Or.inl ⟨by rfl, ?_⟩) (by assumption) ?_
            rotate_left
            · intro w5 hSw
              (try dsimp only at hSw)
              go_simp
              all_goals (with_reducible rfl)
            try simp only [Act.put, List.setIfInBounds_toArray, List.set_cons_zero, List.set_cons_succ]
            refine wpAnyH_ready (rs := [11]) (by kernel_rfl) (by simp) ?_
            refine AllReadyH.cons (ops_getP _ _ _ rfl) (fun K hK => ?_) AllReadyH.nil
            obtain ⟨z0, z1, zf0, zf1⟩ := G.out.two
            go_simp
            clear z0 z1 zf0 zf1
            have HTn : Hid (Below w1.heap.size w1 (World.setCell (World.setCell V5 ⟨gB, 0, none⟩ (.int .i64 P)) ⟨gB, 1, none⟩ (.slice AO nn cO))) := (HT.out.setCell (show w1.heap.size ≤ (⟨gB, 0, none⟩ : Addr).block from qB) (.int .i64 P)).setCell (show w1.heap.size ≤ (⟨gB, 1, none⟩ : Addr).block from qB) (.slice AO nn cO)
            have On : Hid (Own w1.heap.size (World.setCell (World.setCell V5 ⟨gB, 0, none⟩ (.int .i64 P)) ⟨gB, 1, none⟩ (.slice AO nn cO)) AO nn cO LL) := OwnG.setBoxed (OwnG.setBoxed O.out G.out (by decide) 0 (.int .i64 P)) (G.out.set 0 (.int .i64 P)) (by decide) 1 (.slice AO nn cO)
            have Gn : Hid (Box (World.setCell (World.setCell V5 ⟨gB, 0, none⟩ (.int .i64 P)) ⟨gB, 1, none⟩ (.slice AO nn cO)) gB 30 #[.int .i64 P, .slice AO nn cO]) := (G.out.set 0 (.int .i64 P)).set 1 (.slice AO nn cO)
            clear HT O G
            have HT := HTn
            have O := On
            have G := Gn
            clear HTn On Gn
            generalize (World.setCell (World.setCell V5 ⟨gB, 0, none⟩ (.int .i64 P)) ⟨gB, 1, none⟩ (.slice AO nn cO)) = V6 at *
            refine hK.out _ _ ?_ (fun hHeld => ?_)
            · exact (cells92 (D1.out.below HT.out zd) (X1.out.below HT.out zb))
            clear hK K
            refine wpAnyH_take (i := 12) (v := ?_) (ops_getP _ _ _ rfl) (by kernel_rfl) (by kernel_rfl) (by kernel_rfl) (fun _ _ _ h => h) (Or.inl ⟨by rfl, ?_⟩) (by assumption) ?_
            rotate_left
            · intro w5 hSw
              (try dsimp only at hSw)
              go_simp
              all_goals (with_reducible rfl)
            try simp only [Act.put, List.setIfInBounds_toArray, List.set_cons_zero, List.set_cons_succ]
            refine wpAnyH_done (by kernel_rfl) ?_ _
            refine NoPanic.normal ?_
            go_wp2_with fail
            go_meet
            case rel => exact ⟨gB, AO, cO, rfl, rfl, G.out, O.out, HT.out, qB⟩
        · go_simp
          have qB : w1.heap.size ≤ V2.heap.size := HT.out.size
          have Gx := Lib.hid (Box.new V2 30 #[.int .i64 0, .slice none 0 0])
          have hb : Below V2.heap.size V2 (V2.alloc (.cells #[.int .i64 0, .slice none 0 0] 30)) := (Below.refl _ _).alloc (Nat.le_refl _) _
          have HTn := Lib.hid (HT.out.trans ((hb).mono HT.out.size))
          clear HT
          have HT := HTn
          clear HTn
          have In := Lib.hid (I.out.below (hb))
          clear I
          have I := In
          clear In
          have G := Gx
          clear Gx hb
          generalize V2.alloc (.cells #[.int .i64 0, .slice none 0 0] 30) = V3 at *
          generalize V2.heap.size = gB at *
          refine hK.out _ _ ?_ (fun hHeld => ?_)
          · exact (cells92 (D1.out.below HT.out zd) (X1.out.below HT.out zb))
          clear hK K
          refine wpAnyH_ready (rs := [5]) (by kernel_rfl) (by simp) ?_
          refine AllReadyH.cons (ops_getP _ _ _ rfl) (fun K hK => ?_) AllReadyH.nil
          go_simp
          refine (toMoveS_calls AM m cM M _ HM.out hmb (HMb.out.below HT.out)).mono ?_
          rintro e V4 ⟨g3, rfl, hg3, hO3, hb⟩
          have HTn := Lib.hid (HT.out.trans ((hb).mono HT.out.size))
          clear HT
          have HT := HTn
          clear HTn
          have In := Lib.hid (I.out.below (hb))
          clear I
          have I := In
          clear In
          have Gn := Lib.hid (G.out.below (hb) G.out.lt)
          clear G
          have G := Gn
          clear Gn
          have Mm := Lib.hid (OwnM.mvs hO3)
          clear hO3 hg3
          clear hb
          try go_simp
          refine hK.out _ _ ?_ (fun hHeld => ?_)
          · exact (cells92 (D1.out.below HT.out zd) (X1.out.below HT.out zb))
          clear hK K
          refine wpAnyH_ready (rs := [6]) (by kernel_rfl) (by simp) ?_
          refine AllReadyH.cons (ops_getP _ _ _ rfl) (fun K hK => ?_) AllReadyH.nil
          go_simp
          refine (HS.out g2 g3 _ I.out Mm.out).mono ?_
          rintro e V5 ⟨AO, cO, rfl, hO, hb⟩
          have O := Lib.hid (OwnG.mono hO HT.out.size)
          have HTn := Lib.hid (HT.out.trans ((hb).mono HT.out.size))
          clear HT
          have HT := HTn
          clear HTn
          have In := Lib.hid (I.out.below (hb))
          clear I
          have I := In
          clear In
          have Mmn := Lib.hid (Mm.out.below (hb))
          clear Mm
          have Mm := Mmn
          clear Mmn
          have Gn := Lib.hid (G.out.below (hb) G.out.lt)
          clear G
          have G := Gn
          clear Gn
          clear hO hb
          try go_simp
          refine hK.out _ _ ?_ (fun hHeld => ?_)
          · exact (cells92 (D1.out.below HT.out zd) (X1.out.below HT.out zb))
          clear hK K
          refine wpAnyH_take (i := 7) (v := ?_) (ops_getP _ _ _ rfl) (by kernel_rfl) (by kernel_rfl) (by kernel_rfl) (fun _ _ _ h => h) (Or.inl ⟨by rfl, ?_⟩) (by assumption) ?_
          rotate_left
          · intro w5 hSw
            (try dsimp only at hSw)
            go_simp
            all_goals (with_reducible rfl)
          try simp only [Act.put, List.setIfInBounds_toArray, List.set_cons_zero, List.set_cons_succ]
          refine wpAnyH_take (i := 8) (v := ?_) (ops_getP _ _ _ rfl) (by kernel_rfl) (by kernel_rfl) (by kernel_rfl) (fun _ _ _ h => h) (Or.inl ⟨by rfl, ?_⟩) (by assumption) ?_
          rotate_left
          · intro w5 hSw
            (try dsimp only at hSw)
            go_simp
            all_goals (with_reducible rfl)
          try simp only [Act.put, List.setIfInBounds_toArray, List.set_cons_zero, List.set_cons_succ]
          refine wpAnyH_take (i := 9) (v := ?_) (ops_getP _ _ _ rfl) (by kernel_rfl) (by kernel_rfl) (by kernel_rfl) (fun _ _ _ h => h) (Or.inl ⟨by rfl, ?_⟩) (by assumption) ?_
          rotate_left
          · intro w5 hSw
            (try dsimp only at hSw)
            go_simp
            all_goals (with_reducible rfl)
          try simp only [Act.put, List.setIfInBounds_toArray, List.set_cons_zero, List.set_cons_succ]
          refine wpAnyH_ready (rs := [11]) (by kernel_rfl) (by simp) ?_
          refine AllReadyH.cons (ops_getP _ _ _ rfl) (fun K hK => ?_) AllReadyH.nil
          obtain ⟨z0, z1, zf0, zf1⟩ := G.out.two
          go_simp
          clear z0 z1 zf0 zf1
          have HTn : Hid (Below w1.heap.size w1 (World.setCell (World.setCell V5 ⟨gB, 0, none⟩ (.int .i64 P)) ⟨gB, 1, none⟩ (.slice AO nn cO))) := (HT.out.setCell (show w1.heap.size ≤ (⟨gB, 0, none⟩ : Addr).block from qB) (.int .i64 P)).setCell (show w1.heap.size ≤ (⟨gB, 1, none⟩ : Addr).block from qB) (.slice AO nn cO)
          have On : Hid (Own w1.heap.size (World.setCell (World.setCell V5 ⟨gB, 0, none⟩ (.int .i64 P)) ⟨gB, 1, none⟩ (.slice AO nn cO)) AO nn cO LL) := OwnG.setBoxed (OwnG.setBoxed O.out G.out (by decide) 0 (.int .i64 P)) (G.out.set 0 (.int .i64 P)) (by decide) 1 (.slice AO nn cO)
          have Gn : Hid (Box (World.setCell (World.setCell V5 ⟨gB, 0, none⟩ (.int .i64 P)) ⟨gB, 1, none⟩ (.slice AO nn cO)) gB 30 #[.int .i64 P, .slice AO nn cO]) := (G.out.set 0 (.int .i64 P)).set 1 (.slice AO nn cO)
          clear HT O G
          have HT := HTn
          have O := On
          have G := Gn
          clear HTn On Gn
          generalize (World.setCell (World.setCell V5 ⟨gB, 0, none⟩ (.int .i64 P)) ⟨gB, 1, none⟩ (.slice AO nn cO)) = V6 at *
          refine hK.out _ _ ?_ (fun hHeld => ?_)
          · exact (cells92 (D1.out.below HT.out zd) (X1.out.below HT.out zb))
          clear hK K
          refine wpAnyH_take (i := 12) (v := ?_) (ops_getP _ _ _ rfl) (by kernel_rfl) (by kernel_rfl) (by kernel_rfl) (fun _ _ _ h => h) (Or.inl ⟨by rfl, ?_⟩) (by assumption) ?_
          rotate_left
          · intro w5 hSw
            (try dsimp only at hSw)
            go_simp
            all_goals (with_reducible rfl)
          try simp only [Act.put, List.setIfInBounds_toArray, List.set_cons_zero, List.set_cons_succ]
          refine wpAnyH_done (by kernel_rfl) ?_ _
          refine NoPanic.normal ?_
          go_wp2_with fail
          go_meet
          case rel => exact ⟨gB, AO, cO, rfl, rfl, G.out, O.out, HT.out, qB⟩
      · go_simp
        have qB : w1.heap.size ≤ V1.heap.size := HT.out.size
        have Gx := Lib.hid (Box.new V1 30 #[.int .i64 0, .slice none 0 0])
        have hb : Below V1.heap.size V1 (V1.alloc (.cells #[.int .i64 0, .slice none 0 0] 30)) := (Below.refl _ _).alloc (Nat.le_refl _) _
        have HTn := Lib.hid (HT.out.trans ((hb).mono HT.out.size))
        clear HT
        have HT := HTn
        clear HTn
        have G := Gx
        clear Gx hb
        generalize V1.alloc (.cells #[.int .i64 0, .slice none 0 0] 30) = V2 at *
        generalize V1.heap.size = gB at *
        refine hK.out _ _ ?_ (fun hHeld => ?_)
        · exact (cells92 (D1.out.below HT.out zd) (X1.out.below HT.out zb))
        clear hK K
        refine wpAnyH_ready (rs := [3]) (by kernel_rfl) (by simp) ?_
        refine AllReadyH.cons (ops_getP _ _ _ rfl) (fun K hK => ?_) AllReadyH.nil
        go_simp
        refine (toState_calls A n c p L _ HL.out hn (HIb.out.below HT.out)).mono ?_
        rintro e V3 ⟨g2, rfl, hg2, hr2, hb⟩
        have HTn := Lib.hid (HT.out.trans ((hb).mono HT.out.size))
        clear HT
        have HT := HTn
        clear HTn
        have Gn := Lib.hid (G.out.below (hb) G.out.lt)
        clear G
        have G := Gn
        clear Gn
        have I := Lib.hid hr2.ints
        clear hr2 hg2
        clear hb
        try go_simp
        refine hK.out _ _ ?_ (fun hHeld => ?_)
        · exact (cells92 (D1.out.below HT.out zd) (X1.out.below HT.out zb))
        clear hK K
        refine wpAnyH_ready (rs := [5]) (by kernel_rfl) (by simp) ?_
        refine AllReadyH.cons (ops_getP _ _ _ rfl) (fun K hK => ?_) AllReadyH.nil
        go_simp
        refine (toMoveS_calls AM m cM M _ HM.out hmb (HMb.out.below HT.out)).mono ?_
        rintro e V4 ⟨g3, rfl, hg3, hO3, hb⟩
        have HTn := Lib.hid (HT.out.trans ((hb).mono HT.out.size))
        clear HT
        have HT := HTn
        clear HTn
        have In := Lib.hid (I.out.below (hb))
        clear I
        have I := In
        clear In
        have Gn := Lib.hid (G.out.below (hb) G.out.lt)
        clear G
        have G := Gn
        clear Gn
        have Mm := Lib.hid (OwnM.mvs hO3)
        clear hO3 hg3
        clear hb
        try go_simp
        refine hK.out _ _ ?_ (fun hHeld => ?_)
        · exact (cells92 (D1.out.below HT.out zd) (X1.out.below HT.out zb))
        clear hK K
        refine wpAnyH_ready (rs := [6]) (by kernel_rfl) (by simp) ?_
        refine AllReadyH.cons (ops_getP _ _ _ rfl) (fun K hK => ?_) AllReadyH.nil
        go_simp
        refine (HS.out g2 g3 _ I.out Mm.out).mono ?_
        rintro e V5 ⟨AO, cO, rfl, hO, hb⟩
        have O := Lib.hid (OwnG.mono hO HT.out.size)
        have HTn := Lib.hid (HT.out.trans ((hb).mono HT.out.size))
        clear HT
        have HT := HTn
        clear HTn
        have In := Lib.hid (I.out.below (hb))
        clear I
        have I := In
        clear In
        have Mmn := Lib.hid (Mm.out.below (hb))
        clear Mm
        have Mm := Mmn
        clear Mmn
        have Gn := Lib.hid (G.out.below (hb) G.out.lt)
        clear G
        have G := Gn
        clear Gn
        clear hO hb
        try go_simp
        refine hK.out _ _ ?_ (fun hHeld => ?_)
        · exact (cells92 (D1.out.below HT.out zd) (X1.out.below HT.out zb))
        clear hK K
        refine wpAnyH_take (i := 7) (v := ?_) (ops_getP _ _ _ rfl) (by kernel_rfl) (by kernel_rfl) (by kernel_rfl) (fun _ _ _ h => h) (Or.inl ⟨by rfl, ?_⟩) (by assumption) ?_
        rotate_left
        · intro w5 hSw
          (try dsimp only at hSw)
          go_simp
          all_goals (with_reducible rfl)
        try simp only [Act.put, List.setIfInBounds_toArray, List.set_cons_zero, List.set_cons_succ]
        refine wpAnyH_take (i := 8) (v := ?_) (ops_getP _ _ _ rfl) (by kernel_rfl) (by kernel_rfl) (by kernel_rfl) (fun _ _ _ h => h) (Or.inl ⟨by rfl, ?_⟩) (by assumption) ?_
        rotate_left
        · intro w5 hSw
          (try dsimp only at hSw)
          go_simp
          all_goals (with_reducible rfl)
        try simp only [Act.put, List.setIfInBounds_toArray, List.set_cons_zero, List.set_cons_succ]
        refine wpAnyH_take (i := 9) (v := ?_) (ops_getP _ _ _ rfl) (by kernel_rfl) (by kernel_rfl) (by kernel_rfl) (fun _ _ _ h => h) (Or.inl ⟨by rfl, ?_⟩) (by assumption) ?_
        rotate_left
        · intro w5 hSw
          (try dsimp only at hSw)
          go_simp
          all_goals (with_reducible rfl)
        try simp only [Act.put, List.setIfInBounds_toArray, List.set_cons_zero, List.set_cons_succ]
        refine wpAnyH_ready (rs := [11]) (by kernel_rfl) (by simp) ?_
        refine AllReadyH.cons (ops_getP _ _ _ rfl) (fun K hK => ?_) AllReadyH.nil
        obtain ⟨z0, z1, zf0, zf1⟩ := G.out.two
        go_simp
        clear z0 z1 zf0 zf1
        have HTn : Hid (Below w1.heap.size w1 (World.setCell (World.setCell V5 ⟨gB, 0, none⟩ (.int .i64 P)) ⟨gB, 1, none⟩ (.slice AO nn cO))) := (HT.out.setCell (show w1.heap.size ≤ (⟨gB, 0, none⟩ : Addr).block from qB) (.int .i64 P)).setCell (show w1.heap.size ≤ (⟨gB, 1, none⟩ : Addr).block from qB) (.slice AO nn cO)
        have On : Hid (Own w1.heap.size (World.setCell (World.setCell V5 ⟨gB, 0, none⟩ (.int .i64 P)) ⟨gB, 1, none⟩ (.slice AO nn cO)) AO nn cO LL) := OwnG.setBoxed (OwnG.setBoxed O.out G.out (by decide) 0 (.int .i64 P)) (G.out.set 0 (.int .i64 P)) (by decide) 1 (.slice AO nn cO)
        have Gn : Hid (Box (World.setCell (World.setCell V5 ⟨gB, 0, none⟩ (.int .i64 P)) ⟨gB, 1, none⟩ (.slice AO nn cO)) gB 30 #[.int .i64 P, .slice AO nn cO]) := (G.out.set 0 (.int .i64 P)).set 1 (.slice AO nn cO)
        clear HT O G
        have HT := HTn
        have O := On
        have G := Gn
        clear HTn On Gn
        generalize (World.setCell (World.setCell V5 ⟨gB, 0, none⟩ (.int .i64 P)) ⟨gB, 1, none⟩ (.slice AO nn cO)) = V6 at *
        refine hK.out _ _ ?_ (fun hHeld => ?_)
        · exact (cells92 (D1.out.below HT.out zd) (X1.out.below HT.out zb))
        clear hK K
        refine wpAnyH_take (i := 12) (v := ?_) (ops_getP _ _ _ rfl) (by kernel_rfl) (by kernel_rfl) (by kernel_rfl) (fun _ _ _ h => h) (Or.inl ⟨by rfl, ?_⟩) (by assumption) ?_
        rotate_left
        · intro w5 hSw
          (try dsimp only at hSw)
          go_simp
          all_goals (with_reducible rfl)
        try simp only [Act.put, List.setIfInBounds_toArray, List.set_cons_zero, List.set_cons_succ]
        refine wpAnyH_done (by kernel_rfl) ?_ _
        refine NoPanic.normal ?_
        go_wp2_with fail
        go_meet
        case rel => exact ⟨gB, AO, cO, rfl, rfl, G.out, O.out, HT.out, qB⟩
    · go_simp
      have qB : w1.heap.size ≤ V0.heap.size := HT.out.size
      have Gx := Lib.hid (Box.new V0 30 #[.int .i64 0, .slice none 0 0])
      have hb : Below V0.heap.size V0 (V0.alloc (.cells #[.int .i64 0, .slice none 0 0] 30)) := (Below.refl _ _).alloc (Nat.le_refl _) _
      have HTn := Lib.hid (HT.out.trans ((hb).mono HT.out.size))
      clear HT
      have HT := HTn
      clear HTn
      have G := Gx
      clear Gx hb
      generalize V0.alloc (.cells #[.int .i64 0, .slice none 0 0] 30) = V1 at *
      generalize V0.heap.size = gB at *
      refine hK.out _ _ ?_ (fun hHeld => ?_)
      · exact (cells92 (D1.out.below HT.out zd) (X1.out.below HT.out zb))
      clear hK K
      refine wpAnyH_ready (rs := [1]) (by kernel_rfl) (by simp) ?_
      refine AllReadyH.cons (ops_getP _ _ _ rfl) (fun K hK => ?_) AllReadyH.nil
      go_simp
      refine (toRules_calls r _).mono ?_
      rintro e V2 ⟨rfl, hb⟩
      have HTn := Lib.hid (HT.out.trans ((hb).mono HT.out.size))
      clear HT
      have HT := HTn
      clear HTn
      have Gn := Lib.hid (G.out.below (hb) G.out.lt)
      clear G
      have G := Gn
      clear Gn
      clear hb
      try go_simp
      refine hK.out _ _ ?_ (fun hHeld => ?_)
      · exact (cells92 (D1.out.below HT.out zd) (X1.out.below HT.out zb))
      clear hK K
      refine wpAnyH_ready (rs := [3]) (by kernel_rfl) (by simp) ?_
      refine AllReadyH.cons (ops_getP _ _ _ rfl) (fun K hK => ?_) AllReadyH.nil
      go_simp
      refine (toState_calls A n c p L _ HL.out hn (HIb.out.below HT.out)).mono ?_
      rintro e V3 ⟨g2, rfl, hg2, hr2, hb⟩
      have HTn := Lib.hid (HT.out.trans ((hb).mono HT.out.size))
      clear HT
      have HT := HTn
      clear HTn
      have Gn := Lib.hid (G.out.below (hb) G.out.lt)
      clear G
      have G := Gn
      clear Gn
      have I := Lib.hid hr2.ints
      clear hr2 hg2
      clear hb
      try go_simp
      refine hK.out _ _ ?_ (fun hHeld => ?_)
      · exact (cells92 (D1.out.below HT.out zd) (X1.out.below HT.out zb))
      clear hK K
      refine wpAnyH_ready (rs := [5]) (by kernel_rfl) (by simp) ?_
      refine AllReadyH.cons (ops_getP _ _ _ rfl) (fun K hK => ?_) AllReadyH.nil
      go_simp
      refine (toMoveS_calls AM m cM M _ HM.out hmb (HMb.out.below HT.out)).mono ?_
      rintro e V4 ⟨g3, rfl, hg3, hO3, hb⟩
      have HTn := Lib.hid (HT.out.trans ((hb).mono HT.out.size))
      clear HT
      have HT := HTn
      clear HTn
      have In := Lib.hid (I.out.below (hb))
      clear I
      have I := In
      clear In
      have Gn := Lib.hid (G.out.below (hb) G.out.lt)
      clear G
      have G := Gn
      clear Gn
      have Mm := Lib.hid (OwnM.mvs hO3)
      clear hO3 hg3
      clear hb
      try go_simp
      refine hK.out _ _ ?_ (fun hHeld => ?_)
      · exact (cells92 (D1.out.below HT.out zd) (X1.out.below HT.out zb))
      clear hK K
      refine wpAnyH_ready (rs := [6]) (by kernel_rfl) (by simp) ?_
      refine AllReadyH.cons (ops_getP _ _ _ rfl) (fun K hK => ?_) AllReadyH.nil
      go_simp
      refine (HS.out g2 g3 _ I.out Mm.out).mono ?_
      rintro e V5 ⟨AO, cO, rfl, hO, hb⟩
      have O := Lib.hid (OwnG.mono hO HT.out.size)
      have HTn := Lib.hid (HT.out.trans ((hb).mono HT.out.size))
      clear HT
      have HT := HTn
      clear HTn
      have In := Lib.hid (I.out.below (hb))
      clear I
      have I := In
      clear In
      have Mmn := Lib.hid (Mm.out.below (hb))
      clear Mm
      have Mm := Mmn
      clear Mmn
      have Gn := Lib.hid (G.out.below (hb) G.out.lt)
      clear G
      have G := Gn
      clear Gn
      clear hO hb
      try go_simp
      refine hK.out _ _ ?_ (fun hHeld => ?_)
      · exact (cells92 (D1.out.below HT.out zd) (X1.out.below HT.out zb))
      clear hK K
      refine wpAnyH_take (i := 7) (v := ?_) (ops_getP _ _ _ rfl) (by kernel_rfl) (by kernel_rfl) (by kernel_rfl) (fun _ _ _ h => h) (Or.inl ⟨by rfl, ?_⟩) (by assumption) ?_
      rotate_left
      · intro w5 hSw
        (try dsimp only at hSw)
        go_simp
        all_goals (with_reducible rfl)
      try simp only [Act.put, List.setIfInBounds_toArray, List.set_cons_zero, List.set_cons_succ]
      refine wpAnyH_take (i := 8) (v := ?_) (ops_getP _ _ _ rfl) (by kernel_rfl) (by kernel_rfl) (by kernel_rfl) (fun _ _ _ h => h) (Or.inl ⟨by rfl, ?_⟩) (by assumption) ?_
      rotate_left
      · intro w5 hSw
        (try dsimp only at hSw)
        go_simp
        all_goals (with_reducible rfl)
      try simp only [Act.put, List.setIfInBounds_toArray, List.set_cons_zero, List.set_cons_succ]
      refine wpAnyH_take (i := 9) (v := ?_) (ops_getP _ _ _ rfl) (by kernel_rfl) (by kernel_rfl) (by kernel_rfl) (fun _ _ _ h => h) (Or.inl ⟨by rfl, ?_⟩) (by assumption) ?_
      rotate_left
      · intro w5 hSw
        (try dsimp only at hSw)
        go_simp
        all_goals (with_reducible rfl)
      try simp only [Act.put, List.setIfInBounds_toArray, List.set_cons_zero, List.set_cons_succ]
      refine wpAnyH_ready (rs := [11]) (by kernel_rfl) (by simp) ?_
      refine AllReadyH.cons (ops_getP _ _ _ rfl) (fun K hK => ?_) AllReadyH.nil
      obtain ⟨z0, z1, zf0, zf1⟩ := G.out.two
      go_simp
      clear z0 z1 zf0 zf1
      have HTn : Hid (Below w1.heap.size w1 (World.setCell (World.setCell V5 ⟨gB, 0, none⟩ (.int .i64 P)) ⟨gB, 1, none⟩ (.slice AO nn cO))) := (HT.out.setCell (show w1.heap.size ≤ (⟨gB, 0, none⟩ : Addr).block from qB) (.int .i64 P)).setCell (show w1.heap.size ≤ (⟨gB, 1, none⟩ : Addr).block from qB) (.slice AO nn cO)
      have On : Hid (Own w1.heap.size (World.setCell (World.setCell V5 ⟨gB, 0, none⟩ (.int .i64 P)) ⟨gB, 1, none⟩ (.slice AO nn cO)) AO nn cO LL) := OwnG.setBoxed (OwnG.setBoxed O.out G.out (by decide) 0 (.int .i64 P)) (G.out.set 0 (.int .i64 P)) (by decide) 1 (.slice AO nn cO)
      have Gn : Hid (Box (World.setCell (World.setCell V5 ⟨gB, 0, none⟩ (.int .i64 P)) ⟨gB, 1, none⟩ (.slice AO nn cO)) gB 30 #[.int .i64 P, .slice AO nn cO]) := (G.out.set 0 (.int .i64 P)).set 1 (.slice AO nn cO)
      clear HT O G
      have HT := HTn
      have O := On
      have G := Gn
      clear HTn On Gn
      generalize (World.setCell (World.setCell V5 ⟨gB, 0, none⟩ (.int .i64 P)) ⟨gB, 1, none⟩ (.slice AO nn cO)) = V6 at *
      refine hK.out _ _ ?_ (fun hHeld => ?_)
      · exact (cells92 (D1.out.below HT.out zd) (X1.out.below HT.out zb))
      clear hK K
      refine wpAnyH_take (i := 12) (v := ?_) (ops_getP _ _ _ rfl) (by kernel_rfl) (by kernel_rfl) (by kernel_rfl) (fun _ _ _ h => h) (Or.inl ⟨by rfl, ?_⟩) (by assumption) ?_
      rotate_left
      · intro w5 hSw
        (try dsimp only at hSw)
        go_simp
        all_goals (with_reducible rfl)
      try simp only [Act.put, List.setIfInBounds_toArray, List.set_cons_zero, List.set_cons_succ]
      refine wpAnyH_done (by kernel_rfl) ?_ _
      refine NoPanic.normal ?_
      go_wp2_with fail
      go_meet
      case rel => exact ⟨gB, AO, cO, rfl, rfl, G.out, O.out, HT.out, qB⟩
  case rest =>
    obtain ⟨W4, hW4⟩ : ∃ x, x = wc := ⟨wc, rfl⟩
    subst hW4
    obtain ⟨gR, AO, cO, rfl, rfl, hR, hO, hb, hgR⟩ := hcut
    have D2 := Lib.hid (D1.out.below hb D1.out.lt)
    have X2 := Lib.hid (X1.out.below hb X1.out.lt)
    have HB2 := Lib.hid (HB1.out.trans ((hb).mono HB1.out.size))
    clear D1 X1 HB1
    have R0 := Lib.hid hR
    have OI := Lib.hid hO.ints
    clear hR hO hb HIb HMb zd zb
    have HO0 := Lib.hid (Below.refl W4.heap.size W4)
    have hwW : w.heap.size ≤ W4.heap.size := HB2.out.size
    have hIs := Lib.hid (hI.below HB2.out)
    obtain ⟨s0, s1, _, _⟩ := X2.out.two
    go_wp2_with fail
    refine (toState_calls A n c p L _ HL.out hn hIs.out).mono ?_
    rintro e w5 ⟨g5, rfl, hg5, hr5, hb⟩
    clear s0 s1 hIs
    have hrow := hr5.own (B := W4.heap.size) hg5 (by rw [HL.out]; exact hn)
    rw [HL.out] at hrow
    have hg5lt := (ownG_lt hrow).2
    have D3 := Lib.hid (D2.out.below hb D2.out.lt)
    have X3 := Lib.hid (X2.out.below hb X2.out.lt)
    have R1 := Lib.hid (R0.out.below hb R0.out.lt)
    have HB3 := Lib.hid (HB2.out.trans ((hb).mono HB2.out.size))
    clear D2 X2 R0 HB2
    have HO1 := Lib.hid (HO0.out.trans ((hb).mono HO0.out.size))
    clear HO0
    have V0 := Lib.hid hrow
    clear hb hr5 hrow
    have U0 := Lib.hid (Box.new w5 30 #[.int .i64 p, .slice (some ⟨g5, 0, none⟩) n n])
    have hba : Below w5.heap.size w5 (w5.alloc (.cells #[.int .i64 p, .slice (some ⟨g5, 0, none⟩) n n] 30)) := (Below.refl _ w5).alloc (Nat.le_refl _) (.cells #[.int .i64 p, .slice (some ⟨g5, 0, none⟩) n n] 30)
    have D4 := Lib.hid (D3.out.below hba D3.out.lt)
    have X4 := Lib.hid (X3.out.below hba X3.out.lt)
    have R2 := Lib.hid (R1.out.below hba R1.out.lt)
    have V1 := Lib.hid (V0.out.below hba)
    have HB4 := Lib.hid (HB3.out.trans ((hba).mono HB3.out.size))
    clear D3 X3 R1 V0 HB3
    have HO2 := Lib.hid (HO1.out.trans ((hba).mono HO1.out.size))
    clear HO1
    clear hba
    have hg5b : g5 < (w5.alloc (.cells #[.int .i64 p, .slice (some ⟨g5, 0, none⟩) n n] 30)).heap.size := by simp; omega
    have hsb : W4.heap.size ≤ (w5.alloc (.cells #[.int .i64 p, .slice (some ⟨g5, 0, none⟩) n n] 30)).heap.size := HO2.out.size
    go_wp2_with fail
    generalize hW5 : w5.alloc (.cells #[.int .i64 p, .slice (some ⟨g5, 0, none⟩) n n] 30) = W5 at *
    clear hW5
    generalize w5.heap.size = g8 at *
    have hMs := Lib.hid (hMv.below HB4.out)
    refine (toMoveS_calls AM m cM M _ HM.out hmb hMs.out).mono ?_
    rintro e w6 ⟨g6, rfl, hg6, hO6, hb⟩
    clear hMs
    have hg6lt := (ownG_lt hO6).2
    have hW56 := hb.size
    have hO6' : OwnM W4.heap.size w6 (some ⟨g6, 0, none⟩) m m M := OwnG.mono hO6 hsb
    have D5 := Lib.hid (D4.out.below hb D4.out.lt)
    have X5 := Lib.hid (X4.out.below hb X4.out.lt)
    have R3 := Lib.hid (R2.out.below hb R2.out.lt)
    have V2 := Lib.hid (V1.out.below hb)
    have U1 := Lib.hid (U0.out.below hb U0.out.lt)
    have HB5 := Lib.hid (HB4.out.trans ((hb).mono HB4.out.size))
    clear D4 X4 R2 V1 U0 HB4
    have HO3 := Lib.hid (HO2.out.trans ((hb).mono HO2.out.size))
    clear HO2
    have T0 := Lib.hid hO6'
    clear hb hO6 hO6'
    have SB := Lib.hid (hS.below HB5.out)
    have VI := Lib.hid (Own.ints V2.out)
    have TM := Lib.hid (OwnM.mvs T0.out)
    have hsQ := HO3.out.size
    have hsW := HB5.out.size
    go_wp2_with fail
    have zd := D5.out.lt
    have zb := U1.out.lt
    obtain ⟨_, _, _, _, _, _, _, _, _, _, _⟩ := cells92 D5.out U1.out
    go_upto_region 11 with (fail)
    go_cut [12, 13] (fun t1 t2 wc => MadeR w6 P nn LL E t1 t2 wc)
    case first =>
      refine wp_region_noPanic ?_
      refine wp_region_held_drew (S := (fun w' => w'.cell? ⟨w.heap.size, 0, none⟩ = some (.int .i64 (r 0)) ∧ w'.cell? ⟨w.heap.size, 1, none⟩ = some (.int .i64 (r 1)) ∧ w'.cell? ⟨w.heap.size, 2, none⟩ = some (.int .i64 (r 2)) ∧ w'.cell? ⟨w.heap.size, 3, none⟩ = some (.int .i64 (r 3)) ∧ w'.cell? ⟨w.heap.size, 4, none⟩ = some (.int .i64 (r 4)) ∧ w'.cell? ⟨w.heap.size, 5, none⟩ = some (.int .i64 (r 5)) ∧ w'.cell? ⟨w.heap.size, 6, none⟩ = some (.int .i64 (r 6)) ∧ w'.cell? ⟨w.heap.size, 7, none⟩ = some (.int .i64 (r 7)) ∧ w'.cell? ⟨w.heap.size, 8, none⟩ = some (.int .i64 (r 8)) ∧ w'.cell? ⟨g8, 0, none⟩ = some (.int .i64 p) ∧ w'.cell? ⟨g8, 1, none⟩ = some (.slice (some ⟨g5, 0, none⟩) n n))) (by kernel_rfl) (cells92 D5.out U1.out) (fun hHeld => ?_)
      have HT := Lib.hid (show Below w6.heap.size w6 w6.drew from (Below.refl _ _).drew)
      generalize w6.drew = V0 at *
      refine wpAnyH_take (i := 0) (v := ?_) (ops_getP _ _ _ rfl) (by kernel_rfl) (by kernel_rfl) (by kernel_rfl) (fun _ _ _ h => h) (Or.inl ⟨by rfl, ?_⟩) (by assumption) ?_
      rotate_left
      · intro w5 hSw
        (try dsimp only at hSw)
        go_simp
        all_goals (with_reducible rfl)
      try simp only [Act.put, List.setIfInBounds_toArray, List.set_cons_zero, List.set_cons_succ]
      refine wpAnyH_take (i := 2) (v := ?_) (ops_getP _ _ _ rfl) (by kernel_rfl) (by kernel_rfl) (by kernel_rfl) (fun _ _ _ h => h) (Or.inl ⟨by rfl, ?_⟩) (by assumption) ?_
      rotate_left
      · intro w5 hSw
        (try dsimp only at hSw)
        go_simp
        all_goals (with_reducible rfl)
      try simp only [Act.put, List.setIfInBounds_toArray, List.set_cons_zero, List.set_cons_succ]
      refine wpAnyH_take (i := 3) (v := ?_) (ops_getP _ _ _ rfl) (by kernel_rfl) (by kernel_rfl) (by kernel_rfl) (fun _ _ _ h => h) (Or.inl ⟨by rfl, ?_⟩) (by assumption) ?_
      rotate_left
      · intro w5 hSw
        (try dsimp only at hSw)
        go_simp
        all_goals (with_reducible rfl)
      try simp only [Act.put, List.setIfInBounds_toArray, List.set_cons_zero, List.set_cons_succ]
      refine wpAnyH_ready (rs := [1, 8]) (by kernel_rfl) (by simp) ?_
      refine AllReadyH.cons (ops_getP _ _ _ rfl) (fun K hK => ?_) (AllReadyH.cons (ops_getP _ _ _ rfl) (fun K hK => ?_) AllReadyH.nil)
      · go_simp
        refine (toRules_calls r _).mono ?_
        rintro e V1 ⟨rfl, hb⟩
        have HTn := Lib.hid (HT.out.trans ((hb).mono HT.out.size))
        clear HT
        have HT := HTn
        clear HTn
        clear hb
        try go_simp
        refine hK.out _ _ ?_ (fun hHeld => ?_)
        · exact (cells92 (D5.out.below HT.out zd) (U1.out.below HT.out zb))
        clear hK K
        refine wpAnyH_ready (rs := [4, 8]) (by kernel_rfl) (by simp) ?_
        refine AllReadyH.cons (ops_getP _ _ _ rfl) (fun K hK => ?_) (AllReadyH.cons (ops_getP _ _ _ rfl) (fun K hK => ?_) AllReadyH.nil)
        · go_simp
          refine (HP.out g5 g6 _ (SB.out.below HT.out) (VI.out.below HT.out) (TM.out.below HT.out)).mono ?_
          rintro e V2 ⟨AO, cO, rfl, hO, hb⟩
          have O := Lib.hid (OwnG.mono hO HT.out.size)
          have HTn := Lib.hid (HT.out.trans ((hb).mono HT.out.size))
          clear HT
          have HT := HTn
          clear HTn
          clear hO hb
          try go_simp
          refine hK.out _ _ ?_ (fun hHeld => ?_)
          · exact (cells92 (D5.out.below HT.out zd) (U1.out.below HT.out zb))
          clear hK K
          refine wpAnyH_take (i := 5) (v := ?_) (ops_getP _ _ _ rfl) (by kernel_rfl) (by kernel_rfl) (by kernel_rfl) (fun _ _ _ h => h) (Or.inl ⟨by rfl, ?_⟩) (by assumption) ?_
          rotate_left
          · intro w5 hSw
            (try dsimp only at hSw)
            go_simp
            all_goals (with_reducible rfl)
          try simp only [Act.put, List.setIfInBounds_toArray, List.set_cons_zero, List.set_cons_succ]
          refine wpAnyH_take (i := 6) (v := ?_) (ops_getP _ _ _ rfl) (by kernel_rfl) (by kernel_rfl) (by kernel_rfl) (fun _ _ _ h => h) (Or.inl ⟨by rfl, ?_⟩) (by assumption) ?_
          rotate_left
          · intro w5 hSw
            (try dsimp only at hSw)
            go_simp
            all_goals (with_reducible rfl)
          try simp only [Act.put, List.setIfInBounds_toArray, List.set_cons_zero, List.set_cons_succ]
          refine wpAnyH_take (i := 7) (v := ?_) (ops_getP _ _ _ rfl) (by kernel_rfl) (by kernel_rfl) (by kernel_rfl) (fun _ _ _ h => h) (Or.inl ⟨by rfl, ?_⟩) (by assumption) ?_
          rotate_left
          · intro w5 hSw
            (try dsimp only at hSw)
            go_simp
            all_goals (with_reducible rfl)
          try simp only [Act.put, List.setIfInBounds_toArray, List.set_cons_zero, List.set_cons_succ]
          refine wpAnyH_ready (rs := [8]) (by kernel_rfl) (by simp) ?_
          refine AllReadyH.cons (ops_getP _ _ _ rfl) (fun K hK => ?_) AllReadyH.nil
          go_simp
          have qB : w6.heap.size ≤ V2.heap.size := HT.out.size
          have Gx := Lib.hid (Box.new V2 30 #[.int .i64 0, .slice none 0 0])
          have hb : Below V2.heap.size V2 (V2.alloc (.cells #[.int .i64 0, .slice none 0 0] 30)) := (Below.refl _ _).alloc (Nat.le_refl _) _
          have HTn := Lib.hid (HT.out.trans ((hb).mono HT.out.size))
          clear HT
          have HT := HTn
          clear HTn
          have On := Lib.hid (OwnG.below O.out (hb))
          clear O
          have O := On
          clear On
          have G := Gx
          clear Gx hb
          generalize V2.alloc (.cells #[.int .i64 0, .slice none 0 0] 30) = V3 at *
          generalize V2.heap.size = gB at *
          refine hK.out _ _ ?_ (fun hHeld => ?_)
          · exact (cells92 (D5.out.below HT.out zd) (U1.out.below HT.out zb))
          clear hK K
          refine wpAnyH_ready (rs := [9]) (by kernel_rfl) (by simp) ?_
          refine AllReadyH.cons (ops_getP _ _ _ rfl) (fun K hK => ?_) AllReadyH.nil
          obtain ⟨z0, z1, zf0, zf1⟩ := G.out.two
          go_simp
          clear z0 z1 zf0 zf1
          have HTn : Hid (Below w6.heap.size w6 (World.setCell (World.setCell V3 ⟨gB, 0, none⟩ (.int .i64 P)) ⟨gB, 1, none⟩ (.slice AO nn cO))) := (HT.out.setCell (show w6.heap.size ≤ (⟨gB, 0, none⟩ : Addr).block from qB) (.int .i64 P)).setCell (show w6.heap.size ≤ (⟨gB, 1, none⟩ : Addr).block from qB) (.slice AO nn cO)
          have On : Hid (Own w6.heap.size (World.setCell (World.setCell V3 ⟨gB, 0, none⟩ (.int .i64 P)) ⟨gB, 1, none⟩ (.slice AO nn cO)) AO nn cO LL) := OwnG.setBoxed (OwnG.setBoxed O.out G.out (by decide) 0 (.int .i64 P)) (G.out.set 0 (.int .i64 P)) (by decide) 1 (.slice AO nn cO)
          have Gn : Hid (Box (World.setCell (World.setCell V3 ⟨gB, 0, none⟩ (.int .i64 P)) ⟨gB, 1, none⟩ (.slice AO nn cO)) gB 30 #[.int .i64 P, .slice AO nn cO]) := (G.out.set 0 (.int .i64 P)).set 1 (.slice AO nn cO)
          clear HT O G
          have HT := HTn
          have O := On
          have G := Gn
          clear HTn On Gn
          generalize (World.setCell (World.setCell V3 ⟨gB, 0, none⟩ (.int .i64 P)) ⟨gB, 1, none⟩ (.slice AO nn cO)) = V4 at *
          refine hK.out _ _ ?_ (fun hHeld => ?_)
          · exact (cells92 (D5.out.below HT.out zd) (U1.out.below HT.out zb))
          clear hK K
          refine wpAnyH_take (i := 10) (v := ?_) (ops_getP _ _ _ rfl) (by kernel_rfl) (by kernel_rfl) (by kernel_rfl) (fun _ _ _ h => h) (Or.inl ⟨by rfl, ?_⟩) (by assumption) ?_
          rotate_left
          · intro w5 hSw
            (try dsimp only at hSw)
            go_simp
            all_goals (with_reducible rfl)
          try simp only [Act.put, List.setIfInBounds_toArray, List.set_cons_zero, List.set_cons_succ]
          refine wpAnyH_done (by kernel_rfl) ?_ _
          refine NoPanic.normal ?_
          go_wp2_with fail
          go_meet
          case rel => exact ⟨gB, AO, cO, rfl, rfl, G.out, O.out, HT.out, qB⟩
        · go_simp
          have qB : w6.heap.size ≤ V1.heap.size := HT.out.size
          have Gx := Lib.hid (Box.new V1 30 #[.int .i64 0, .slice none 0 0])
          have hb : Below V1.heap.size V1 (V1.alloc (.cells #[.int .i64 0, .slice none 0 0] 30)) := (Below.refl _ _).alloc (Nat.le_refl _) _
          have HTn := Lib.hid (HT.out.trans ((hb).mono HT.out.size))
          clear HT
          have HT := HTn
          clear HTn
          have G := Gx
          clear Gx hb
          generalize V1.alloc (.cells #[.int .i64 0, .slice none 0 0] 30) = V2 at *
          generalize V1.heap.size = gB at *
          refine hK.out _ _ ?_ (fun hHeld => ?_)
          · exact (cells92 (D5.out.below HT.out zd) (U1.out.below HT.out zb))
          clear hK K
          refine wpAnyH_ready (rs := [4]) (by kernel_rfl) (by simp) ?_
          refine AllReadyH.cons (ops_getP _ _ _ rfl) (fun K hK => ?_) AllReadyH.nil
          go_simp
          refine (HP.out g5 g6 _ (SB.out.below HT.out) (VI.out.below HT.out) (TM.out.below HT.out)).mono ?_
          rintro e V3 ⟨AO, cO, rfl, hO, hb⟩
          have O := Lib.hid (OwnG.mono hO HT.out.size)
          have HTn := Lib.hid (HT.out.trans ((hb).mono HT.out.size))
          clear HT
          have HT := HTn
          clear HTn
          have Gn := Lib.hid (G.out.below (hb) G.out.lt)
          clear G
          have G := Gn
          clear Gn
          clear hO hb
          try go_simp
          refine hK.out _ _ ?_ (fun hHeld => ?_)
          · exact (cells92 (D5.out.below HT.out zd) (U1.out.below HT.out zb))
          clear hK K
          refine wpAnyH_take (i := 5) (v := ?_) (ops_getP _ _ _ rfl) (by kernel_rfl) (by kernel_rfl) (by kernel_rfl) (fun _ _ _ h => h) (Or.inl ⟨by rfl, ?_⟩) (by assumption) ?_
          rotate_left
          · intro w5 hSw
            (try dsimp only at hSw)
            go_simp
            all_goals (with_reducible rfl)
          try simp only [Act.put, List.setIfInBounds_toArray, List.set_cons_zero, List.set_cons_succ]
          refine wpAnyH_take (i := 6) (v := ?_) (ops_getP _ _ _ rfl) (by kernel_rfl) (by kernel_rfl) (by kernel_rfl) (fun _ _ _ h => h) (Or.inl ⟨by rfl, ?_⟩) (by assumption) ?_
          rotate_left
          · intro w5 hSw
            (try dsimp only at hSw)
            go_simp
            all_goals (with_reducible rfl)
          try simp only [Act.put, List.setIfInBounds_toArray, List.set_cons_zero, List.set_cons_succ]
          refine wpAnyH_take (i := 7) (v := ?_) (ops_getP _ _ _ rfl) (by kernel_rfl) (by kernel_rfl) (by kernel_rfl) (fun _ _ _ h => h) (Or.inl ⟨by rfl, ?_⟩) (by assumption) ?_
          rotate_left
          · intro w5 hSw
            (try dsimp only at hSw)
            go_simp
            all_goals (with_reducible rfl)
          try simp only [Act.put, List.setIfInBounds_toArray, List.set_cons_zero, List.set_cons_succ]
          refine wpAnyH_ready (rs := [9]) (by kernel_rfl) (by simp) ?_
          refine AllReadyH.cons (ops_getP _ _ _ rfl) (fun K hK => ?_) AllReadyH.nil
          obtain ⟨z0, z1, zf0, zf1⟩ := G.out.two
          go_simp
          clear z0 z1 zf0 zf1
          have HTn : Hid (Below w6.heap.size w6 (World.setCell (World.setCell V3 ⟨gB, 0, none⟩ (.int .i64 P)) ⟨gB, 1, none⟩ (.slice AO nn cO))) := (HT.out.setCell (show w6.heap.size ≤ (⟨gB, 0, none⟩ : Addr).block from qB) (.int .i64 P)).setCell (show w6.heap.size ≤ (⟨gB, 1, none⟩ : Addr).block from qB) (.slice AO nn cO)
          have On : Hid (Own w6.heap.size (World.setCell (World.setCell V3 ⟨gB, 0, none⟩ (.int .i64 P)) ⟨gB, 1, none⟩ (.slice AO nn cO)) AO nn cO LL) := OwnG.setBoxed (OwnG.setBoxed O.out G.out (by decide) 0 (.int .i64 P)) (G.out.set 0 (.int .i64 P)) (by decide) 1 (.slice AO nn cO)
          have Gn : Hid (Box (World.setCell (World.setCell V3 ⟨gB, 0, none⟩ (.int .i64 P)) ⟨gB, 1, none⟩ (.slice AO nn cO)) gB 30 #[.int .i64 P, .slice AO nn cO]) := (G.out.set 0 (.int .i64 P)).set 1 (.slice AO nn cO)
          clear HT O G
          have HT := HTn
          have O := On
          have G := Gn
          clear HTn On Gn
          generalize (World.setCell (World.setCell V3 ⟨gB, 0, none⟩ (.int .i64 P)) ⟨gB, 1, none⟩ (.slice AO nn cO)) = V4 at *
          refine hK.out _ _ ?_ (fun hHeld => ?_)
          · exact (cells92 (D5.out.below HT.out zd) (U1.out.below HT.out zb))
          clear hK K
          refine wpAnyH_take (i := 10) (v := ?_) (ops_getP _ _ _ rfl) (by kernel_rfl) (by kernel_rfl) (by kernel_rfl) (fun _ _ _ h => h) (Or.inl ⟨by rfl, ?_⟩) (by assumption) ?_
          rotate_left
          · intro w5 hSw
            (try dsimp only at hSw)
            go_simp
            all_goals (with_reducible rfl)
          try simp only [Act.put, List.setIfInBounds_toArray, List.set_cons_zero, List.set_cons_succ]
          refine wpAnyH_done (by kernel_rfl) ?_ _
          refine NoPanic.normal ?_
          go_wp2_with fail
          go_meet
          case rel => exact ⟨gB, AO, cO, rfl, rfl, G.out, O.out, HT.out, qB⟩
      · go_simp
        have qB : w6.heap.size ≤ V0.heap.size := HT.out.size
        have Gx := Lib.hid (Box.new V0 30 #[.int .i64 0, .slice none 0 0])
        have hb : Below V0.heap.size V0 (V0.alloc (.cells #[.int .i64 0, .slice none 0 0] 30)) := (Below.refl _ _).alloc (Nat.le_refl _) _
        have HTn := Lib.hid (HT.out.trans ((hb).mono HT.out.size))
        clear HT
        have HT := HTn
        clear HTn
        have G := Gx
        clear Gx hb
        generalize V0.alloc (.cells #[.int .i64 0, .slice none 0 0] 30) = V1 at *
        generalize V0.heap.size = gB at *
        refine hK.out _ _ ?_ (fun hHeld => ?_)
        · exact (cells92 (D5.out.below HT.out zd) (U1.out.below HT.out zb))
        clear hK K
        refine wpAnyH_ready (rs := [1]) (by kernel_rfl) (by simp) ?_
        refine AllReadyH.cons (ops_getP _ _ _ rfl) (fun K hK => ?_) AllReadyH.nil
        go_simp
        refine (toRules_calls r _).mono ?_
        rintro e V2 ⟨rfl, hb⟩
        have HTn := Lib.hid (HT.out.trans ((hb).mono HT.out.size))
        clear HT
        have HT := HTn
        clear HTn
        have Gn := Lib.hid (G.out.below (hb) G.out.lt)
        clear G
        have G := Gn
        clear Gn
        clear hb
        try go_simp
        refine hK.out _ _ ?_ (fun hHeld => ?_)
        · exact (cells92 (D5.out.below HT.out zd) (U1.out.below HT.out zb))
        clear hK K
        refine wpAnyH_ready (rs := [4]) (by kernel_rfl) (by simp) ?_
        refine AllReadyH.cons (ops_getP _ _ _ rfl) (fun K hK => ?_) AllReadyH.nil
        go_simp
        refine (HP.out g5 g6 _ (SB.out.below HT.out) (VI.out.below HT.out) (TM.out.below HT.out)).mono ?_
        rintro e V3 ⟨AO, cO, rfl, hO, hb⟩
        have O := Lib.hid (OwnG.mono hO HT.out.size)
        have HTn := Lib.hid (HT.out.trans ((hb).mono HT.out.size))
        clear HT
        have HT := HTn
        clear HTn
        have Gn := Lib.hid (G.out.below (hb) G.out.lt)
        clear G
        have G := Gn
        clear Gn
        clear hO hb
        try go_simp
        refine hK.out _ _ ?_ (fun hHeld => ?_)
        · exact (cells92 (D5.out.below HT.out zd) (U1.out.below HT.out zb))
        clear hK K
        refine wpAnyH_take (i := 5) (v := ?_) (ops_getP _ _ _ rfl) (by kernel_rfl) (by kernel_rfl) (by kernel_rfl) (fun _ _ _ h => h) (Or.inl ⟨by rfl, ?_⟩) (by assumption) ?_
        rotate_left
        · intro w5 hSw
          (try dsimp only at hSw)
          go_simp
          all_goals (with_reducible rfl)
        try simp only [Act.put, List.setIfInBounds_toArray, List.set_cons_zero, List.set_cons_succ]
        refine wpAnyH_take (i := 6) (v := ?_) (ops_getP _ _ _ rfl) (by kernel_rfl) (by kernel_rfl) (by kernel_rfl) (fun _ _ _ h => h) (Or.inl ⟨by rfl, ?_⟩) (by assumption) ?_
        rotate_left
        · intro w5 hSw
          (try dsimp only at hSw)
          go_simp
          all_goals (with_reducible rfl)
        try simp only [Act.put, List.setIfInBounds_toArray, List.set_cons_zero, List.set_cons_succ]
        refine wpAnyH_take (i := 7) (v := ?_) (ops_getP _ _ _ rfl) (by kernel_rfl) (by kernel_rfl) (by kernel_rfl) (fun _ _ _ h => h) (Or.inl ⟨by rfl, ?_⟩) (by assumption) ?_
        rotate_left
        · intro w5 hSw
          (try dsimp only at hSw)
          go_simp
          all_goals (with_reducible rfl)
        try simp only [Act.put, List.setIfInBounds_toArray, List.set_cons_zero, List.set_cons_succ]
        refine wpAnyH_ready (rs := [9]) (by kernel_rfl) (by simp) ?_
        refine AllReadyH.cons (ops_getP _ _ _ rfl) (fun K hK => ?_) AllReadyH.nil
        obtain ⟨z0, z1, zf0, zf1⟩ := G.out.two
        go_simp
        clear z0 z1 zf0 zf1
        have HTn : Hid (Below w6.heap.size w6 (World.setCell (World.setCell V3 ⟨gB, 0, none⟩ (.int .i64 P)) ⟨gB, 1, none⟩ (.slice AO nn cO))) := (HT.out.setCell (show w6.heap.size ≤ (⟨gB, 0, none⟩ : Addr).block from qB) (.int .i64 P)).setCell (show w6.heap.size ≤ (⟨gB, 1, none⟩ : Addr).block from qB) (.slice AO nn cO)
        have On : Hid (Own w6.heap.size (World.setCell (World.setCell V3 ⟨gB, 0, none⟩ (.int .i64 P)) ⟨gB, 1, none⟩ (.slice AO nn cO)) AO nn cO LL) := OwnG.setBoxed (OwnG.setBoxed O.out G.out (by decide) 0 (.int .i64 P)) (G.out.set 0 (.int .i64 P)) (by decide) 1 (.slice AO nn cO)
        have Gn : Hid (Box (World.setCell (World.setCell V3 ⟨gB, 0, none⟩ (.int .i64 P)) ⟨gB, 1, none⟩ (.slice AO nn cO)) gB 30 #[.int .i64 P, .slice AO nn cO]) := (G.out.set 0 (.int .i64 P)).set 1 (.slice AO nn cO)
        clear HT O G
        have HT := HTn
        have O := On
        have G := Gn
        clear HTn On Gn
        generalize (World.setCell (World.setCell V3 ⟨gB, 0, none⟩ (.int .i64 P)) ⟨gB, 1, none⟩ (.slice AO nn cO)) = V4 at *
        refine hK.out _ _ ?_ (fun hHeld => ?_)
        · exact (cells92 (D5.out.below HT.out zd) (U1.out.below HT.out zb))
        clear hK K
        refine wpAnyH_take (i := 10) (v := ?_) (ops_getP _ _ _ rfl) (by kernel_rfl) (by kernel_rfl) (by kernel_rfl) (fun _ _ _ h => h) (Or.inl ⟨by rfl, ?_⟩) (by assumption) ?_
        rotate_left
        · intro w5 hSw
          (try dsimp only at hSw)
          go_simp
          all_goals (with_reducible rfl)
        try simp only [Act.put, List.setIfInBounds_toArray, List.set_cons_zero, List.set_cons_succ]
        refine wpAnyH_done (by kernel_rfl) ?_ _
        refine NoPanic.normal ?_
        go_wp2_with fail
        go_meet
        case rel => exact ⟨gB, AO, cO, rfl, rfl, G.out, O.out, HT.out, qB⟩
    case rest =>
      obtain ⟨W7, hW7⟩ : ∃ x, x = wc := ⟨wc, rfl⟩
      subst hW7
      obtain ⟨gY, A9, c9, rfl, rfl, hY, hQ, hb, hgY⟩ := hcut
      have hQW : W4.heap.size ≤ w6.heap.size := hsQ
      have D6 := Lib.hid (D5.out.below hb D5.out.lt)
      have X6 := Lib.hid (X5.out.below hb X5.out.lt)
      have R4 := Lib.hid (R3.out.below hb R3.out.lt)
      have V3 := Lib.hid (V2.out.below hb)
      have U2 := Lib.hid (U1.out.below hb U1.out.lt)
      have T1 := Lib.hid (T0.out.below hb)
      have HB6 := Lib.hid (HB5.out.trans ((hb).mono HB5.out.size))
      clear D5 X5 R3 V2 U1 T0 HB5
      have HO4 := Lib.hid (HO3.out.trans ((hb).mono HO3.out.size))
      clear HO3
      have Q0 := Lib.hid hQ
      have Y0 := Lib.hid hY
      clear hb hQ hY SB VI TM zd zb
      have hOI := Lib.hid (OI.out.below HO4.out)
      obtain ⟨y0, y1, _, _⟩ := Y0.out.two
      obtain ⟨r0, r1, _, _⟩ := R4.out.two
      go_wp2_with fail
      refine (eqState_calls A9 AO nn c9 nn cO P P LL LL _ HLL.out HLL.out hnn hnn (Own.ints Q0.out) hOI.out).mono ?_
      rintro e wq ⟨rfl, hb⟩
      clear hOI y0 y1 r0 r1
      have D7 := Lib.hid (D6.out.below hb D6.out.lt)
      have X7 := Lib.hid (X6.out.below hb X6.out.lt)
      have R5 := Lib.hid (R4.out.below hb R4.out.lt)
      have V4 := Lib.hid (V3.out.below hb)
      have U3 := Lib.hid (U2.out.below hb U2.out.lt)
      have T2 := Lib.hid (T1.out.below hb)
      have Y1 := Lib.hid (Y0.out.below hb Y0.out.lt)
      have Q1 := Lib.hid (Q0.out.below hb)
      have HB7 := Lib.hid (HB6.out.trans ((hb).mono HB6.out.size))
      clear D6 X6 R4 V3 U2 T1 Y0 Q0 HB6
      have HO5 := Lib.hid (HO4.out.trans ((hb).mono HO4.out.size))
      clear HO4
      clear hb
      have hI7 := Lib.hid (hI.below HB7.out)
      have U7 := U3
      have X7 := X7
      have V7 := V4
      obtain ⟨u0, u1, s0, s1⟩ := cells22 U7.out X7.out
      have zu := U7.out.lt
      have zx := X7.out.lt
      go_wp2_with fail
      go_region_held3 (fun w' => w'.cell? ⟨g8, 0, none⟩ = some (.int .i64 p) ∧ w'.cell? ⟨g8, 1, none⟩ = some (.slice (some ⟨g5, 0, none⟩) n n) ∧ w'.cell? ⟨w.heap.size + 1, 0, none⟩ = some (.int .i64 p) ∧ w'.cell? ⟨w.heap.size + 1, 1, none⟩ = some (.slice A n c))
        (first | exact cells22 U7.out X7.out | exact cells22 U8.out X8.out | exact cells22 U9.out X9.out | go_keep)
        (first
        | (go_at_call 8; refine (toState_calls A n c p L _ HL.out hn ?_).mono ?_; (exact hI7.out); rintro e w8 ⟨gr, rfl, hgr, hr8, hb8⟩; have U8 := Lib.hid (Box.below U7.out (undrew hb8) zu); have X8 := Lib.hid (Box.below X7.out (undrew hb8) zx))
        | (go_at_call 11; refine (eqState_calls (some ⟨g5, 0, none⟩) (some ⟨gr, 0, none⟩) n n n n p p L L _ HL.out HL.out hn hn ?_ ?_).mono ?_; (exact V7.out.ints.below (undrew hb8)); (exact hr8.ints); rintro e w9 ⟨rfl, hb9⟩; have U9 := Lib.hid (Box.below U8.out hb9 (Box.lt U8.out)); have X9 := Lib.hid (Box.below X8.out hb9 (Box.lt X8.out))))
      clear U8 X8 U9 X9 u0 u1 s0 s1 zu zx hr8 hgr U7 X7 V7
      have D8 := Lib.hid (D7.out.below (undrew hb8) D7.out.lt)
      have X8 := Lib.hid (X7.out.below (undrew hb8) X7.out.lt)
      have R6 := Lib.hid (R5.out.below (undrew hb8) R5.out.lt)
      have V5 := Lib.hid (V4.out.below (undrew hb8))
      have U4 := Lib.hid (U3.out.below (undrew hb8) U3.out.lt)
      have T3 := Lib.hid (T2.out.below (undrew hb8))
      have Y2 := Lib.hid (Y1.out.below (undrew hb8) Y1.out.lt)
      have Q2 := Lib.hid (Q1.out.below (undrew hb8))
      have HB8 := Lib.hid (HB7.out.trans (((undrew hb8)).mono HB7.out.size))
      clear D7 X7 R5 V4 U3 T2 Y1 Q1 HB7
      have HO6 := Lib.hid (HO5.out.trans (((undrew hb8)).mono HO5.out.size))
      clear HO5
      have D9 := Lib.hid (D8.out.below hb9 D8.out.lt)
      have X9 := Lib.hid (X8.out.below hb9 X8.out.lt)
      have R7 := Lib.hid (R6.out.below hb9 R6.out.lt)
      have V6 := Lib.hid (V5.out.below hb9)
      have U5 := Lib.hid (U4.out.below hb9 U4.out.lt)
      have T4 := Lib.hid (T3.out.below hb9)
      have Y3 := Lib.hid (Y2.out.below hb9 Y2.out.lt)
      have Q3 := Lib.hid (Q2.out.below hb9)
      have HB9 := Lib.hid (HB8.out.trans ((hb9).mono HB8.out.size))
      clear D8 X8 R6 V5 U4 T3 Y2 Q2 HB8
      have HO7 := Lib.hid (HO6.out.trans ((hb9).mono HO6.out.size))
      clear HO6
      clear hb8 hb9 hI7
      have hMs := Lib.hid (hMv.below HB9.out)
      go_wp2_with fail
      refine (toMoveS_calls AM m cM M _ HM.out hmb hMs.out).mono ?_
      rintro e w10 ⟨g10, rfl, hg10, hO10, hb⟩
      clear hMs
      have D10 := Lib.hid (D9.out.below hb D9.out.lt)
      have X10 := Lib.hid (X9.out.below hb X9.out.lt)
      have R8 := Lib.hid (R7.out.below hb R7.out.lt)
      have V7 := Lib.hid (V6.out.below hb)
      have U6 := Lib.hid (U5.out.below hb U5.out.lt)
      have T5 := Lib.hid (T4.out.below hb)
      have Y4 := Lib.hid (Y3.out.below hb Y3.out.lt)
      have Q4 := Lib.hid (Q3.out.below hb)
      have HB10 := Lib.hid (HB9.out.trans ((hb).mono HB9.out.size))
      clear D9 X9 R7 V6 U5 T4 Y3 Q3 HB9
      have HO8 := Lib.hid (HO7.out.trans ((hb).mono HO7.out.size))
      clear HO7
      have M10 := Lib.hid (OwnM.mvs hO10)
      clear hb hO10 hg10
      go_wp2_with fail
      refine (eqMoveS_calls (some ⟨g6, 0, none⟩) (some ⟨g10, 0, none⟩) m m m m M M _ HM.out HM.out hmb hmb (OwnM.mvs T5.out) M10.out).mono ?_
      rintro e w11 ⟨rfl, hb⟩
      have hMM : decide (M = M) = true := by simp
      rw [hMM]
      clear hMM M10
      have D11 := Lib.hid (D10.out.below hb D10.out.lt)
      have X11 := Lib.hid (X10.out.below hb X10.out.lt)
      have R9 := Lib.hid (R8.out.below hb R8.out.lt)
      have V8 := Lib.hid (V7.out.below hb)
      have U7 := Lib.hid (U6.out.below hb U6.out.lt)
      have T6 := Lib.hid (T5.out.below hb)
      have Y5 := Lib.hid (Y4.out.below hb Y4.out.lt)
      have Q5 := Lib.hid (Q4.out.below hb)
      have HB11 := Lib.hid (HB10.out.trans ((hb).mono HB10.out.size))
      clear D10 X10 R8 V7 U6 T5 Y4 Q4 HB10
      have HO9 := Lib.hid (HO8.out.trans ((hb).mono HO8.out.size))
      clear HO8
      clear hb
      obtain ⟨u0, u1, _, _⟩ := U7.out.two
      go_wp2_with fail
      refine (markState_calls _ (some ⟨g5, 0, none⟩) n n p L 1 _ V8.out hn (by omega) (by omega)).mono ?_
      rintro e w12 ⟨rfl, hO, hg⟩
      clear u0 u1
      have T7 := Lib.hid (OwnG.kept T6.out hg (fun g hA e => by injection hA with hA; injection hA with hA; have e' : some g5 = some g := e; injection e' with e'; omega))
      clear T6
      have Q6 := Lib.hid (OwnG.kept Q5.out hg (fun g hA e => by have h1 := block_of_ownG V8.out e; have h2 := ownG_ge Q5.out hA; exact absurd (Nat.lt_of_lt_of_le (h1 ▸ hg5b) (Nat.le_trans hW56 h2)) (Nat.lt_irrefl _)))
      have R10 := Lib.hid (R9.out.grown hg (OwnG.box_ne V8.out R9.out (by decide)))
      have Y6 := Lib.hid (Y5.out.grown hg (OwnG.box_ne V8.out Y5.out (by decide)))
      have X12 := Lib.hid (X11.out.grown hg (OwnG.box_ne V8.out X11.out (by decide)))
      have D12 := Lib.hid (D11.out.grown hg (OwnG.box_ne V8.out D11.out (by decide)))
      have HB12 := Lib.hid (HB11.out.grown hg HB11.out.size (fun k hk => by have h1 := own_bkG V8.out k hk; omega))
      have HO10 := Lib.hid (HO9.out.grown hg HO9.out.size (fun k hk => own_bkG V8.out k hk))
      clear Q5 HB11 HO9 V8 R9 Y5 X11 D11 U7 hO hg
      go_wp2_with fail
      refine (markMoveS_calls _ (some ⟨g6, 0, none⟩) m m (mvF M) (1 + n) _ T7.out hmb (by omega) (by omega)).mono ?_
      rintro e w13 ⟨rfl, hO, hg⟩
      have Q7 := Lib.hid (OwnG.kept Q6.out hg (fun g hA e => by have h1 := block_of_ownG T7.out e; have h2 := ownG_ge Q6.out hA; exact absurd (Nat.lt_of_lt_of_le (h1 ▸ hg6lt) h2) (Nat.lt_irrefl _)))
      have R11 := Lib.hid (R10.out.grown hg (OwnG.box_ne T7.out R10.out (by decide)))
      have Y7 := Lib.hid (Y6.out.grown hg (OwnG.box_ne T7.out Y6.out (by decide)))
      have X13 := Lib.hid (X12.out.grown hg (OwnG.box_ne T7.out X12.out (by decide)))
      have D13 := Lib.hid (D12.out.grown hg (OwnG.box_ne T7.out D12.out (by decide)))
      have HB13 := Lib.hid (HB12.out.grown hg HB12.out.size (fun k hk => by have h1 := own_bkG T7.out k hk; omega))
      have HO11 := Lib.hid (HO10.out.grown hg HO10.out.size (fun k hk => own_bkG T7.out k hk))
      clear Q6 HB12 HO10 T7 R10 Y6 X12 D12  hO hg
      have hk3 : ¬ (1 + (n : Int) + ((m * 3 : Nat) : Int)) < 0 := by omega
      have hOI := Lib.hid (OI.out.below HO11.out)
      obtain ⟨y0, y1, _, _⟩ := Y7.out.two
      obtain ⟨r0, r1, _, _⟩ := R11.out.two
      go_wp2_with fail
      refine (eqState_calls A9 AO nn c9 nn cO P P LL LL _ HLL.out HLL.out hnn hnn (Own.ints Q7.out) hOI.out).mono ?_
      rintro e wq ⟨rfl, hb⟩
      clear hOI y0 y1 r0 r1
      have D14 := Lib.hid (D13.out.below hb D13.out.lt)
      have X14 := Lib.hid (X13.out.below hb X13.out.lt)
      have R12 := Lib.hid (R11.out.below hb R11.out.lt)
      have Y8 := Lib.hid (Y7.out.below hb Y7.out.lt)
      have Q8 := Lib.hid (Q7.out.below hb)
      have HB14 := Lib.hid (HB13.out.trans ((hb).mono HB13.out.size))
      clear D13 X13 R11 Y7 Q7 HB13
      have HO12 := Lib.hid (HO11.out.trans ((hb).mono HO11.out.size))
      clear HO11
      clear hb
      obtain ⟨y0, y1, _, _⟩ := Y8.out.two
      go_wp2_with fail
      refine (markState_calls _ A9 nn c9 P LL 1 _ Q8.out hnn (by omega) (by omega)).mono ?_
      rintro e w14 ⟨rfl, hO, hg⟩
      clear y0 y1
      have hbk := fun k hk => own_bkG Q8.out k hk
      have R13 := Lib.hid (R12.out.grown hg (OwnG.box_ne Q8.out R12.out (by decide)))
      have Y9 := Lib.hid (Y8.out.grown hg (OwnG.box_ne Q8.out Y8.out (by decide)))
      have X15 := Lib.hid (X14.out.grown hg (OwnG.box_ne Q8.out X14.out (by decide)))
      have D15 := Lib.hid (D14.out.grown hg (OwnG.box_ne Q8.out D14.out (by decide)))
      have HB15 := Lib.hid (HB14.out.grown hg HB14.out.size (fun k hk => by have h1 := hbk k hk; omega))
      have HO13 := Lib.hid (HO12.out.grown hg HO12.out.size (fun k hk => by have h1 := hbk k hk; omega))
      have Q9 := Lib.hid hO
      clear Q8 HB14 HO12 hO hg hbk R12 Y8 X14 D14
      obtain ⟨y0, y1, _, _⟩ := Y9.out.two
      go_wp2_with fail
      refine (heldState_calls A9 nn c9 P 1 _ (Own.ints Q9.out) hnn (by omega) (by omega)).mono ?_
      rintro e wh ⟨rfl, hb⟩
      clear y0 y1
      have D16 := Lib.hid (D15.out.below hb D15.out.lt)
      have X16 := Lib.hid (X15.out.below hb X15.out.lt)
      have R14 := Lib.hid (R13.out.below hb R13.out.lt)
      have Y10 := Lib.hid (Y9.out.below hb Y9.out.lt)
      have Q10 := Lib.hid (Q9.out.below hb)
      have HB16 := Lib.hid (HB15.out.trans ((hb).mono HB15.out.size))
      clear D15 X15 R13 Y9 Q9 HB15
      have HO14 := Lib.hid (HO13.out.trans ((hb).mono HO13.out.size))
      clear HO13
      clear hb
      go_wp2_with fail
      obtain ⟨w15, hw15⟩ : ∃ x, x = wh := ⟨wh, rfl⟩
      subst hw15
      have SB := Lib.hid (hS.below HB16.out)
      have HIb := Lib.hid (hI.below HB16.out)
      have HMb := Lib.hid (hMv.below HB16.out)
      have zd := D16.out.lt
      have zb := X16.out.lt
      obtain ⟨_, _, _, _, _, _, _, _, _, _, _⟩ := cells92 D16.out X16.out
      go_upto_region 31 with (fail)
      go_cut [17, 18] (fun t1 t2 wc => MadeR w15 P nn LL E t1 t2 wc)
      case first =>
        refine wp_region_noPanic ?_
        refine wp_region_held_drew (S := (fun w' => w'.cell? ⟨w.heap.size, 0, none⟩ = some (.int .i64 (r 0)) ∧ w'.cell? ⟨w.heap.size, 1, none⟩ = some (.int .i64 (r 1)) ∧ w'.cell? ⟨w.heap.size, 2, none⟩ = some (.int .i64 (r 2)) ∧ w'.cell? ⟨w.heap.size, 3, none⟩ = some (.int .i64 (r 3)) ∧ w'.cell? ⟨w.heap.size, 4, none⟩ = some (.int .i64 (r 4)) ∧ w'.cell? ⟨w.heap.size, 5, none⟩ = some (.int .i64 (r 5)) ∧ w'.cell? ⟨w.heap.size, 6, none⟩ = some (.int .i64 (r 6)) ∧ w'.cell? ⟨w.heap.size, 7, none⟩ = some (.int .i64 (r 7)) ∧ w'.cell? ⟨w.heap.size, 8, none⟩ = some (.int .i64 (r 8)) ∧ w'.cell? ⟨w.heap.size + 1, 0, none⟩ = some (.int .i64 p) ∧ w'.cell? ⟨w.heap.size + 1, 1, none⟩ = some (.slice A n c))) (by kernel_rfl) (cells92 D16.out X16.out) (fun hHeld => ?_)
        have HT := Lib.hid (show Below w15.heap.size w15 w15.drew from (Below.refl _ _).drew)
        generalize w15.drew = V0 at *
        refine wpAnyH_take (i := 0) (v := ?_) (ops_getP _ _ _ rfl) (by kernel_rfl) (by kernel_rfl) (by kernel_rfl) (fun _ _ _ h => h) (Or.inl ⟨by rfl, ?_⟩) (by assumption) ?_
        rotate_left
        · intro w5 hSw
          (try dsimp only at hSw)
          go_simp
          all_goals (with_reducible rfl)
        try simp only [Act.put, List.setIfInBounds_toArray, List.set_cons_zero, List.set_cons_succ]
        refine wpAnyH_take (i := 2) (v := ?_) (ops_getP _ _ _ rfl) (by kernel_rfl) (by kernel_rfl) (by kernel_rfl) (fun _ _ _ h => h) (Or.inl ⟨by rfl, ?_⟩) (by assumption) ?_
        rotate_left
        · intro w5 hSw
          (try dsimp only at hSw)
          go_simp
          all_goals (with_reducible rfl)
        try simp only [Act.put, List.setIfInBounds_toArray, List.set_cons_zero, List.set_cons_succ]
        refine wpAnyH_take (i := 4) (v := ?_) (ops_getP _ _ _ rfl) (by kernel_rfl) (by kernel_rfl) (by kernel_rfl) (fun _ _ _ h => h) (Or.inl ⟨by rfl, ?_⟩) (by assumption) ?_
        rotate_left
        · intro w5 hSw
          (try dsimp only at hSw)
          go_simp
          all_goals (with_reducible rfl)
        try simp only [Act.put, List.setIfInBounds_toArray, List.set_cons_zero, List.set_cons_succ]
        refine wpAnyH_ready (rs := [1, 10]) (by kernel_rfl) (by simp) ?_
        refine AllReadyH.cons (ops_getP _ _ _ rfl) (fun K hK => ?_) (AllReadyH.cons (ops_getP _ _ _ rfl) (fun K hK => ?_) AllReadyH.nil)
        · go_simp
          refine (toRules_calls r _).mono ?_
          rintro e V1 ⟨rfl, hb⟩
          have HTn := Lib.hid (HT.out.trans ((hb).mono HT.out.size))
          clear HT
          have HT := HTn
          clear HTn
          clear hb
          try go_simp
          refine hK.out _ _ ?_ (fun hHeld => ?_)
          · exact (cells92 (D16.out.below HT.out zd) (X16.out.below HT.out zb))
          clear hK K
          refine wpAnyH_ready (rs := [3, 10]) (by kernel_rfl) (by simp) ?_
          refine AllReadyH.cons (ops_getP _ _ _ rfl) (fun K hK => ?_) (AllReadyH.cons (ops_getP _ _ _ rfl) (fun K hK => ?_) AllReadyH.nil)
          · go_simp
            refine (toState_calls A n c p L _ HL.out hn (HIb.out.below HT.out)).mono ?_
            rintro e V2 ⟨g2, rfl, hg2, hr2, hb⟩
            have HTn := Lib.hid (HT.out.trans ((hb).mono HT.out.size))
            clear HT
            have HT := HTn
            clear HTn
            have I := Lib.hid hr2.ints
            clear hr2 hg2
            clear hb
            try go_simp
            refine hK.out _ _ ?_ (fun hHeld => ?_)
            · exact (cells92 (D16.out.below HT.out zd) (X16.out.below HT.out zb))
            clear hK K
            refine wpAnyH_ready (rs := [5, 10]) (by kernel_rfl) (by simp) ?_
            refine AllReadyH.cons (ops_getP _ _ _ rfl) (fun K hK => ?_) (AllReadyH.cons (ops_getP _ _ _ rfl) (fun K hK => ?_) AllReadyH.nil)
            · go_simp
              refine (toMoveS_calls AM m cM M _ HM.out hmb (HMb.out.below HT.out)).mono ?_
              rintro e V3 ⟨g3, rfl, hg3, hO3, hb⟩
              have HTn := Lib.hid (HT.out.trans ((hb).mono HT.out.size))
              clear HT
              have HT := HTn
              clear HTn
              have In := Lib.hid (I.out.below (hb))
              clear I
              have I := In
              clear In
              have Mm := Lib.hid (OwnM.mvs hO3)
              clear hO3 hg3
              clear hb
              try go_simp
              refine hK.out _ _ ?_ (fun hHeld => ?_)
              · exact (cells92 (D16.out.below HT.out zd) (X16.out.below HT.out zb))
              clear hK K
              refine wpAnyH_ready (rs := [6, 10]) (by kernel_rfl) (by simp) ?_
              refine AllReadyH.cons (ops_getP _ _ _ rfl) (fun K hK => ?_) (AllReadyH.cons (ops_getP _ _ _ rfl) (fun K hK => ?_) AllReadyH.nil)
              · go_simp
                refine (HP.out g2 g3 _ (SB.out.below HT.out) I.out Mm.out).mono ?_
                rintro e V4 ⟨AO, cO, rfl, hO, hb⟩
                have O := Lib.hid (OwnG.mono hO HT.out.size)
                have HTn := Lib.hid (HT.out.trans ((hb).mono HT.out.size))
                clear HT
                have HT := HTn
                clear HTn
                have In := Lib.hid (I.out.below (hb))
                clear I
                have I := In
                clear In
                have Mmn := Lib.hid (Mm.out.below (hb))
                clear Mm
                have Mm := Mmn
                clear Mmn
                clear hO hb
                try go_simp
                refine hK.out _ _ ?_ (fun hHeld => ?_)
                · exact (cells92 (D16.out.below HT.out zd) (X16.out.below HT.out zb))
                clear hK K
                refine wpAnyH_take (i := 7) (v := ?_) (ops_getP _ _ _ rfl) (by kernel_rfl) (by kernel_rfl) (by kernel_rfl) (fun _ _ _ h => h) (Or.inl ⟨by rfl, ?_⟩) (by assumption) ?_
                rotate_left
                · intro w5 hSw
                  (try dsimp only at hSw)
                  go_simp
                  all_goals (with_reducible rfl)
                try simp only [Act.put, List.setIfInBounds_toArray, List.set_cons_zero, List.set_cons_succ]
                refine wpAnyH_take (i := 8) (v := ?_) (ops_getP _ _ _ rfl) (by kernel_rfl) (by kernel_rfl) (by kernel_rfl) (fun _ _ _ h => h) (Or.inl ⟨by rfl, ?_⟩) (by assumption) ?_
                rotate_left
                · intro w5 hSw
                  (try dsimp only at hSw)
                  go_simp
                  all_goals (with_reducible rfl)
                try simp only [Act.put, List.setIfInBounds_toArray, List.set_cons_zero, List.set_cons_succ]
                refine wpAnyH_take (i := 9) (v := ?_) (ops_getP _ _ _ rfl) (by kernel_rfl) (by kernel_rfl) (by kernel_rfl) (fun _ _ _ h => h) (Or.inl ⟨by rfl, ?_⟩) (by assumption) ?_
                rotate_left
                · intro w5 hSw
                  (try dsimp only at hSw)
                  go_simp
                  all_goals (with_reducible rfl)
                try simp only [Act.put, List.setIfInBounds_toArray, List.set_cons_zero, List.set_cons_succ]
                refine wpAnyH_ready (rs := [10]) (by kernel_rfl) (by simp) ?_
                refine AllReadyH.cons (ops_getP _ _ _ rfl) (fun K hK => ?_) AllReadyH.nil
                go_simp
                have qB : w15.heap.size ≤ V4.heap.size := HT.out.size
                have Gx := Lib.hid (Box.new V4 30 #[.int .i64 0, .slice none 0 0])
                have hb : Below V4.heap.size V4 (V4.alloc (.cells #[.int .i64 0, .slice none 0 0] 30)) := (Below.refl _ _).alloc (Nat.le_refl _) _
                have HTn := Lib.hid (HT.out.trans ((hb).mono HT.out.size))
                clear HT
                have HT := HTn
                clear HTn
                have In := Lib.hid (I.out.below (hb))
                clear I
                have I := In
                clear In
                have Mmn := Lib.hid (Mm.out.below (hb))
                clear Mm
                have Mm := Mmn
                clear Mmn
                have On := Lib.hid (OwnG.below O.out (hb))
                clear O
                have O := On
                clear On
                have G := Gx
                clear Gx hb
                generalize V4.alloc (.cells #[.int .i64 0, .slice none 0 0] 30) = V5 at *
                generalize V4.heap.size = gB at *
                refine hK.out _ _ ?_ (fun hHeld => ?_)
                · exact (cells92 (D16.out.below HT.out zd) (X16.out.below HT.out zb))
                clear hK K
                refine wpAnyH_ready (rs := [11]) (by kernel_rfl) (by simp) ?_
                refine AllReadyH.cons (ops_getP _ _ _ rfl) (fun K hK => ?_) AllReadyH.nil
                obtain ⟨z0, z1, zf0, zf1⟩ := G.out.two
                go_simp
                clear z0 z1 zf0 zf1
                have HTn : Hid (Below w15.heap.size w15 (World.setCell (World.setCell V5 ⟨gB, 0, none⟩ (.int .i64 P)) ⟨gB, 1, none⟩ (.slice AO nn cO))) := (HT.out.setCell (show w15.heap.size ≤ (⟨gB, 0, none⟩ : Addr).block from qB) (.int .i64 P)).setCell (show w15.heap.size ≤ (⟨gB, 1, none⟩ : Addr).block from qB) (.slice AO nn cO)
                have On : Hid (Own w15.heap.size (World.setCell (World.setCell V5 ⟨gB, 0, none⟩ (.int .i64 P)) ⟨gB, 1, none⟩ (.slice AO nn cO)) AO nn cO LL) := OwnG.setBoxed (OwnG.setBoxed O.out G.out (by decide) 0 (.int .i64 P)) (G.out.set 0 (.int .i64 P)) (by decide) 1 (.slice AO nn cO)
                have Gn : Hid (Box (World.setCell (World.setCell V5 ⟨gB, 0, none⟩ (.int .i64 P)) ⟨gB, 1, none⟩ (.slice AO nn cO)) gB 30 #[.int .i64 P, .slice AO nn cO]) := (G.out.set 0 (.int .i64 P)).set 1 (.slice AO nn cO)
                clear HT O G
                have HT := HTn
                have O := On
                have G := Gn
                clear HTn On Gn
                generalize (World.setCell (World.setCell V5 ⟨gB, 0, none⟩ (.int .i64 P)) ⟨gB, 1, none⟩ (.slice AO nn cO)) = V6 at *
                refine hK.out _ _ ?_ (fun hHeld => ?_)
                · exact (cells92 (D16.out.below HT.out zd) (X16.out.below HT.out zb))
                clear hK K
                refine wpAnyH_take (i := 12) (v := ?_) (ops_getP _ _ _ rfl) (by kernel_rfl) (by kernel_rfl) (by kernel_rfl) (fun _ _ _ h => h) (Or.inl ⟨by rfl, ?_⟩) (by assumption) ?_
                rotate_left
                · intro w5 hSw
                  (try dsimp only at hSw)
                  go_simp
                  all_goals (with_reducible rfl)
                try simp only [Act.put, List.setIfInBounds_toArray, List.set_cons_zero, List.set_cons_succ]
                refine wpAnyH_done (by kernel_rfl) ?_ _
                refine NoPanic.normal ?_
                go_wp2_with fail
                go_meet
                case rel => exact ⟨gB, AO, cO, rfl, rfl, G.out, O.out, HT.out, qB⟩
              · go_simp
                have qB : w15.heap.size ≤ V3.heap.size := HT.out.size
                have Gx := Lib.hid (Box.new V3 30 #[.int .i64 0, .slice none 0 0])
                have hb : Below V3.heap.size V3 (V3.alloc (.cells #[.int .i64 0, .slice none 0 0] 30)) := (Below.refl _ _).alloc (Nat.le_refl _) _
                have HTn := Lib.hid (HT.out.trans ((hb).mono HT.out.size))
                clear HT
                have HT := HTn
                clear HTn
                have In := Lib.hid (I.out.below (hb))
                clear I
                have I := In
                clear In
                have Mmn := Lib.hid (Mm.out.below (hb))
                clear Mm
                have Mm := Mmn
                clear Mmn
                have G := Gx
                clear Gx hb
                generalize V3.alloc (.cells #[.int .i64 0, .slice none 0 0] 30) = V4 at *
                generalize V3.heap.size = gB at *
                refine hK.out _ _ ?_ (fun hHeld => ?_)
                · exact (cells92 (D16.out.below HT.out zd) (X16.out.below HT.out zb))
                clear hK K
                refine wpAnyH_ready (rs := [6]) (by kernel_rfl) (by simp) ?_
                refine AllReadyH.cons (ops_getP _ _ _ rfl) (fun K hK => ?_) AllReadyH.nil
                go_simp
                refine (HP.out g2 g3 _ (SB.out.below HT.out) I.out Mm.out).mono ?_
                rintro e V5 ⟨AO, cO, rfl, hO, hb⟩
                have O := Lib.hid (OwnG.mono hO HT.out.size)
                have HTn := Lib.hid (HT.out.trans ((hb).mono HT.out.size))
                clear HT
                have HT := HTn
                clear HTn
                have In := Lib.hid (I.out.below (hb))
                clear I
                have I := In
                clear In
                have Mmn := Lib.hid (Mm.out.below (hb))
                clear Mm
                have Mm := Mmn
                clear Mmn
                have Gn := Lib.hid (G.out.below (hb) G.out.lt)
                clear G
                have G := Gn
                clear Gn
                clear hO hb
                try go_simp
                refine hK.out _ _ ?_ (fun hHeld => ?_)
                · exact (cells92 (D16.out.below HT.out zd) (X16.out.below HT.out zb))
                clear hK K
                refine wpAnyH_take (i := 7) (v := ?_) (ops_getP _ _ _ rfl) (by kernel_rfl) (by kernel_rfl) (by kernel_rfl) (fun _ _ _ h => h) (Or.inl ⟨by rfl, ?_⟩) (by assumption) ?_
                rotate_left
                · intro w5 hSw
                  (try dsimp only at hSw)
                  go_simp
                  all_goals (with_reducible rfl)
                try simp only [Act.put, List.setIfInBounds_toArray, List.set_cons_zero, List.set_cons_succ]
                refine wpAnyH_take (i := 8) (v := ?_) (ops_getP _ _ _ rfl) (by kernel_rfl) (by kernel_rfl) (by kernel_rfl) (fun _ _ _ h => h) (Or.inl ⟨by rfl, ?_⟩) (by assumption) ?_
                rotate_left
                · intro w5 hSw
                  (try dsimp only at hSw)
                  go_simp
                  all_goals (with_reducible rfl)
                try simp only [Act.put, List.setIfInBounds_toArray, List.set_cons_zero, List.set_cons_succ]
                refine wpAnyH_take (i := 9) (v := ?_) (ops_getP _ _ _ rfl) (by kernel_rfl) (by kernel_rfl) (by kernel_rfl) (fun _ _ _ h => h) (Or.inl ⟨by rfl, ?_⟩) (by assumption) ?_
                rotate_left
                · intro w5 hSw
                  (try dsimp only at hSw)
                  go_simp
                  all_goals (with_reducible rfl)
                try simp only [Act.put, List.setIfInBounds_toArray, List.set_cons_zero, List.set_cons_succ]
                refine wpAnyH_ready (rs := [11]) (by kernel_rfl) (by simp) ?_
                refine AllReadyH.cons (ops_getP _ _ _ rfl) (fun K hK => ?_) AllReadyH.nil
                obtain ⟨z0, z1, zf0, zf1⟩ := G.out.two
                go_simp
                clear z0 z1 zf0 zf1
                have HTn : Hid (Below w15.heap.size w15 (World.setCell (World.setCell V5 ⟨gB, 0, none⟩ (.int .i64 P)) ⟨gB, 1, none⟩ (.slice AO nn cO))) := (HT.out.setCell (show w15.heap.size ≤ (⟨gB, 0, none⟩ : Addr).block from qB) (.int .i64 P)).setCell (show w15.heap.size ≤ (⟨gB, 1, none⟩ : Addr).block from qB) (.slice AO nn cO)
                have On : Hid (Own w15.heap.size (World.setCell (World.setCell V5 ⟨gB, 0, none⟩ (.int .i64 P)) ⟨gB, 1, none⟩ (.slice AO nn cO)) AO nn cO LL) := OwnG.setBoxed (OwnG.setBoxed O.out G.out (by decide) 0 (.int .i64 P)) (G.out.set 0 (.int .i64 P)) (by decide) 1 (.slice AO nn cO)
                have Gn : Hid (Box (World.setCell (World.setCell V5 ⟨gB, 0, none⟩ (.int .i64 P)) ⟨gB, 1, none⟩ (.slice AO nn cO)) gB 30 #[.int .i64 P, .slice AO nn cO]) := (G.out.set 0 (.int .i64 P)).set 1 (.slice AO nn cO)
                clear HT O G
                have HT := HTn
                have O := On
                have G := Gn
                clear HTn On Gn
                generalize (World.setCell (World.setCell V5 ⟨gB, 0, none⟩ (.int .i64 P)) ⟨gB, 1, none⟩ (.slice AO nn cO)) = V6 at *
                refine hK.out _ _ ?_ (fun hHeld => ?_)
                · exact (cells92 (D16.out.below HT.out zd) (X16.out.below HT.out zb))
                clear hK K
                refine wpAnyH_take (i := 12) (v := ?_) (ops_getP _ _ _ rfl) (by kernel_rfl) (by kernel_rfl) (by kernel_rfl) (fun _ _ _ h => h) (Or.inl ⟨by rfl, ?_⟩) (by assumption) ?_
                rotate_left
                · intro w5 hSw
                  (try dsimp only at hSw)
                  go_simp
                  all_goals (with_reducible rfl)
                try simp only [Act.put, List.setIfInBounds_toArray, List.set_cons_zero, List.set_cons_succ]
                refine wpAnyH_done (by kernel_rfl) ?_ _
                refine NoPanic.normal ?_
                go_wp2_with fail
                go_meet
                case rel => exact ⟨gB, AO, cO, rfl, rfl, G.out, O.out, HT.out, qB⟩
            · go_simp
              have qB : w15.heap.size ≤ V2.heap.size := HT.out.size
              have Gx := Lib.hid (Box.new V2 30 #[.int .i64 0, .slice none 0 0])
              have hb : Below V2.heap.size V2 (V2.alloc (.cells #[.int .i64 0, .slice none 0 0] 30)) := (Below.refl _ _).alloc (Nat.le_refl _) _
              have HTn := Lib.hid (HT.out.trans ((hb).mono HT.out.size))
              clear HT
              have HT := HTn
              clear HTn
              have In := Lib.hid (I.out.below (hb))
              clear I
              have I := In
              clear In
              have G := Gx
              clear Gx hb
              generalize V2.alloc (.cells #[.int .i64 0, .slice none 0 0] 30) = V3 at *
              generalize V2.heap.size = gB at *
              refine hK.out _ _ ?_ (fun hHeld => ?_)
              · exact (cells92 (D16.out.below HT.out zd) (X16.out.below HT.out zb))
              clear hK K
              refine wpAnyH_ready (rs := [5]) (by kernel_rfl) (by simp) ?_
              refine AllReadyH.cons (ops_getP _ _ _ rfl) (fun K hK => ?_) AllReadyH.nil
              go_simp
              refine (toMoveS_calls AM m cM M _ HM.out hmb (HMb.out.below HT.out)).mono ?_
              rintro e V4 ⟨g3, rfl, hg3, hO3, hb⟩
              have HTn := Lib.hid (HT.out.trans ((hb).mono HT.out.size))
              clear HT
              have HT := HTn
              clear HTn
              have In := Lib.hid (I.out.below (hb))
              clear I
              have I := In
              clear In
              have Gn := Lib.hid (G.out.below (hb) G.out.lt)
              clear G
              have G := Gn
              clear Gn
              have Mm := Lib.hid (OwnM.mvs hO3)
              clear hO3 hg3
              clear hb
              try go_simp
              refine hK.out _ _ ?_ (fun hHeld => ?_)
              · exact (cells92 (D16.out.below HT.out zd) (X16.out.below HT.out zb))
              clear hK K
              refine wpAnyH_ready (rs := [6]) (by kernel_rfl) (by simp) ?_
              refine AllReadyH.cons (ops_getP _ _ _ rfl) (fun K hK => ?_) AllReadyH.nil
              go_simp
              refine (HP.out g2 g3 _ (SB.out.below HT.out) I.out Mm.out).mono ?_
              rintro e V5 ⟨AO, cO, rfl, hO, hb⟩
              have O := Lib.hid (OwnG.mono hO HT.out.size)
              have HTn := Lib.hid (HT.out.trans ((hb).mono HT.out.size))
              clear HT
              have HT := HTn
              clear HTn
              have In := Lib.hid (I.out.below (hb))
              clear I
              have I := In
              clear In
              have Mmn := Lib.hid (Mm.out.below (hb))
              clear Mm
              have Mm := Mmn
              clear Mmn
              have Gn := Lib.hid (G.out.below (hb) G.out.lt)
              clear G
              have G := Gn
              clear Gn
              clear hO hb
              try go_simp
              refine hK.out _ _ ?_ (fun hHeld => ?_)
              · exact (cells92 (D16.out.below HT.out zd) (X16.out.below HT.out zb))
              clear hK K
              refine wpAnyH_take (i := 7) (v := ?_) (ops_getP _ _ _ rfl) (by kernel_rfl) (by kernel_rfl) (by kernel_rfl) (fun _ _ _ h => h) (Or.inl ⟨by rfl, ?_⟩) (by assumption) ?_
              rotate_left
              · intro w5 hSw
                (try dsimp only at hSw)
                go_simp
                all_goals (with_reducible rfl)
              try simp only [Act.put, List.setIfInBounds_toArray, List.set_cons_zero, List.set_cons_succ]
              refine wpAnyH_take (i := 8) (v := ?_) (ops_getP _ _ _ rfl) (by kernel_rfl) (by kernel_rfl) (by kernel_rfl) (fun _ _ _ h => h) (Or.inl ⟨by rfl, ?_⟩) (by assumption) ?_
              rotate_left
              · intro w5 hSw
                (try dsimp only at hSw)
                go_simp
                all_goals (with_reducible rfl)
              try simp only [Act.put, List.setIfInBounds_toArray, List.set_cons_zero, List.set_cons_succ]
              refine wpAnyH_take (i := 9) (v := ?_) (ops_getP _ _ _ rfl) (by kernel_rfl) (by kernel_rfl) (by kernel_rfl) (fun _ _ _ h => h) (Or.inl ⟨by rfl, ?_⟩) (by assumption) ?_
              rotate_left
              · intro w5 hSw
                (try dsimp only at hSw)
                go_simp
                all_goals (with_reducible rfl)
              try simp only [Act.put, List.setIfInBounds_toArray, List.set_cons_zero, List.set_cons_succ]
              refine wpAnyH_ready (rs := [11]) (by kernel_rfl) (by simp) ?_
              refine AllReadyH.cons (ops_getP _ _ _ rfl) (fun K hK => ?_) AllReadyH.nil
              obtain ⟨z0, z1, zf0, zf1⟩ := G.out.two
              go_simp
              clear z0 z1 zf0 zf1
              have HTn : Hid (Below w15.heap.size w15 (World.setCell (World.setCell V5 ⟨gB, 0, none⟩ (.int .i64 P)) ⟨gB, 1, none⟩ (.slice AO nn cO))) := (HT.out.setCell (show w15.heap.size ≤ (⟨gB, 0, none⟩ : Addr).block from qB) (.int .i64 P)).setCell (show w15.heap.size ≤ (⟨gB, 1, none⟩ : Addr).block from qB) (.slice AO nn cO)
              have On : Hid (Own w15.heap.size (World.setCell (World.setCell V5 ⟨gB, 0, none⟩ (.int .i64 P)) ⟨gB, 1, none⟩ (.slice AO nn cO)) AO nn cO LL) := OwnG.setBoxed (OwnG.setBoxed O.out G.out (by decide) 0 (.int .i64 P)) (G.out.set 0 (.int .i64 P)) (by decide) 1 (.slice AO nn cO)
              have Gn : Hid (Box (World.setCell (World.setCell V5 ⟨gB, 0, none⟩ (.int .i64 P)) ⟨gB, 1, none⟩ (.slice AO nn cO)) gB 30 #[.int .i64 P, .slice AO nn cO]) := (G.out.set 0 (.int .i64 P)).set 1 (.slice AO nn cO)
              clear HT O G
              have HT := HTn
              have O := On
              have G := Gn
              clear HTn On Gn
              generalize (World.setCell (World.setCell V5 ⟨gB, 0, none⟩ (.int .i64 P)) ⟨gB, 1, none⟩ (.slice AO nn cO)) = V6 at *
              refine hK.out _ _ ?_ (fun hHeld => ?_)
              · exact (cells92 (D16.out.below HT.out zd) (X16.out.below HT.out zb))
              clear hK K
              refine wpAnyH_take (i := 12) (v := ?_) (ops_getP _ _ _ rfl) (by kernel_rfl) (by kernel_rfl) (by kernel_rfl) (fun _ _ _ h => h) (Or.inl ⟨by rfl, ?_⟩) (by assumption) ?_
              rotate_left
              · intro w5 hSw
                (try dsimp only at hSw)
                go_simp
                all_goals (with_reducible rfl)
              try simp only [Act.put, List.setIfInBounds_toArray, List.set_cons_zero, List.set_cons_succ]
              refine wpAnyH_done (by kernel_rfl) ?_ _
              refine NoPanic.normal ?_
              go_wp2_with fail
              go_meet
              case rel => exact ⟨gB, AO, cO, rfl, rfl, G.out, O.out, HT.out, qB⟩
          · go_simp
            have qB : w15.heap.size ≤ V1.heap.size := HT.out.size
            have Gx := Lib.hid (Box.new V1 30 #[.int .i64 0, .slice none 0 0])
            have hb : Below V1.heap.size V1 (V1.alloc (.cells #[.int .i64 0, .slice none 0 0] 30)) := (Below.refl _ _).alloc (Nat.le_refl _) _
            have HTn := Lib.hid (HT.out.trans ((hb).mono HT.out.size))
            clear HT
            have HT := HTn
            clear HTn
            have G := Gx
            clear Gx hb
            generalize V1.alloc (.cells #[.int .i64 0, .slice none 0 0] 30) = V2 at *
            generalize V1.heap.size = gB at *
            refine hK.out _ _ ?_ (fun hHeld => ?_)
            · exact (cells92 (D16.out.below HT.out zd) (X16.out.below HT.out zb))
            clear hK K
            refine wpAnyH_ready (rs := [3]) (by kernel_rfl) (by simp) ?_
            refine AllReadyH.cons (ops_getP _ _ _ rfl) (fun K hK => ?_) AllReadyH.nil
            go_simp
            refine (toState_calls A n c p L _ HL.out hn (HIb.out.below HT.out)).mono ?_
            rintro e V3 ⟨g2, rfl, hg2, hr2, hb⟩
            have HTn := Lib.hid (HT.out.trans ((hb).mono HT.out.size))
            clear HT
            have HT := HTn
            clear HTn
            have Gn := Lib.hid (G.out.below (hb) G.out.lt)
            clear G
            have G := Gn
            clear Gn
            have I := Lib.hid hr2.ints
            clear hr2 hg2
            clear hb
            try go_simp
            refine hK.out _ _ ?_ (fun hHeld => ?_)
            · exact (cells92 (D16.out.below HT.out zd) (X16.out.below HT.out zb))
            clear hK K
            refine wpAnyH_ready (rs := [5]) (by kernel_rfl) (by simp) ?_
            refine AllReadyH.cons (ops_getP _ _ _ rfl) (fun K hK => ?_) AllReadyH.nil
            go_simp
            refine (toMoveS_calls AM m cM M _ HM.out hmb (HMb.out.below HT.out)).mono ?_
            rintro e V4 ⟨g3, rfl, hg3, hO3, hb⟩
            have HTn := Lib.hid (HT.out.trans ((hb).mono HT.out.size))
            clear HT
            have HT := HTn
            clear HTn
            have In := Lib.hid (I.out.below (hb))
            clear I
            have I := In
            clear In
            have Gn := Lib.hid (G.out.below (hb) G.out.lt)
            clear G
            have G := Gn
            clear Gn
            have Mm := Lib.hid (OwnM.mvs hO3)
            clear hO3 hg3
            clear hb
            try go_simp
            refine hK.out _ _ ?_ (fun hHeld => ?_)
            · exact (cells92 (D16.out.below HT.out zd) (X16.out.below HT.out zb))
            clear hK K
            refine wpAnyH_ready (rs := [6]) (by kernel_rfl) (by simp) ?_
            refine AllReadyH.cons (ops_getP _ _ _ rfl) (fun K hK => ?_) AllReadyH.nil
            go_simp
            refine (HP.out g2 g3 _ (SB.out.below HT.out) I.out Mm.out).mono ?_
            rintro e V5 ⟨AO, cO, rfl, hO, hb⟩
            have O := Lib.hid (OwnG.mono hO HT.out.size)
            have HTn := Lib.hid (HT.out.trans ((hb).mono HT.out.size))
            clear HT
            have HT := HTn
            clear HTn
            have In := Lib.hid (I.out.below (hb))
            clear I
            have I := In
            clear In
            have Mmn := Lib.hid (Mm.out.below (hb))
            clear Mm
            have Mm := Mmn
            clear Mmn
            have Gn := Lib.hid (G.out.below (hb) G.out.lt)
            clear G
            have G := Gn
            clear Gn
            clear hO hb
            try go_simp
            refine hK.out _ _ ?_ (fun hHeld => ?_)
            · exact (cells92 (D16.out.below HT.out zd) (X16.out.below HT.out zb))
            clear hK K
            refine wpAnyH_take (i := 7) (v := ?_) (ops_getP _ _ _ rfl) (by kernel_rfl) (by kernel_rfl) (by kernel_rfl) (fun _ _ _ h => h) (Or.inl ⟨by rfl, ?_⟩) (by assumption) ?_
            rotate_left
            · intro w5 hSw
              (try dsimp only at hSw)
              go_simp
              all_goals (with_reducible rfl)
            try simp only [Act.put, List.setIfInBounds_toArray, List.set_cons_zero, List.set_cons_succ]
            refine wpAnyH_take (i := 8) (v := ?_) (ops_getP _ _ _ rfl) (by kernel_rfl) (by kernel_rfl) (by kernel_rfl) (fun _ _ _ h => h) (Or.inl ⟨by rfl, ?_⟩) (by assumption) ?_
            rotate_left
            · intro w5 hSw
              (try dsimp only at hSw)
              go_simp
              all_goals (with_reducible rfl)
            try simp only [Act.put, List.setIfInBounds_toArray, List.set_cons_zero, List.set_cons_succ]
            refine wpAnyH_take (i := 9) (v := ?_) (ops_getP _ _ _ rfl) (by kernel_rfl) (by kernel_rfl) (by kernel_rfl) (fun _ _ _ h => h) (Or.inl ⟨by rfl, ?_⟩) (by assumption) ?_
            rotate_left
            · intro w5 hSw
              (try dsimp only at hSw)
              go_simp
              all_goals (with_reducible rfl)
            try simp only [Act.put, List.setIfInBounds_toArray, List.set_cons_zero, List.set_cons_succ]
            refine wpAnyH_ready (rs := [11]) (by kernel_rfl) (by simp) ?_
            refine AllReadyH.cons (ops_getP _ _ _ rfl) (fun K hK => ?_) AllReadyH.nil
            obtain ⟨z0, z1, zf0, zf1⟩ := G.out.two
            go_simp
            clear z0 z1 zf0 zf1
            have HTn : Hid (Below w15.heap.size w15 (World.setCell (World.setCell V5 ⟨gB, 0, none⟩ (.int .i64 P)) ⟨gB, 1, none⟩ (.slice AO nn cO))) := (HT.out.setCell (show w15.heap.size ≤ (⟨gB, 0, none⟩ : Addr).block from qB) (.int .i64 P)).setCell (show w15.heap.size ≤ (⟨gB, 1, none⟩ : Addr).block from qB) (.slice AO nn cO)
            have On : Hid (Own w15.heap.size (World.setCell (World.setCell V5 ⟨gB, 0, none⟩ (.int .i64 P)) ⟨gB, 1, none⟩ (.slice AO nn cO)) AO nn cO LL) := OwnG.setBoxed (OwnG.setBoxed O.out G.out (by decide) 0 (.int .i64 P)) (G.out.set 0 (.int .i64 P)) (by decide) 1 (.slice AO nn cO)
            have Gn : Hid (Box (World.setCell (World.setCell V5 ⟨gB, 0, none⟩ (.int .i64 P)) ⟨gB, 1, none⟩ (.slice AO nn cO)) gB 30 #[.int .i64 P, .slice AO nn cO]) := (G.out.set 0 (.int .i64 P)).set 1 (.slice AO nn cO)
            clear HT O G
            have HT := HTn
            have O := On
            have G := Gn
            clear HTn On Gn
            generalize (World.setCell (World.setCell V5 ⟨gB, 0, none⟩ (.int .i64 P)) ⟨gB, 1, none⟩ (.slice AO nn cO)) = V6 at *
            refine hK.out _ _ ?_ (fun hHeld => ?_)
            · exact (cells92 (D16.out.below HT.out zd) (X16.out.below HT.out zb))
            clear hK K
            refine wpAnyH_take (i := 12) (v := ?_) (ops_getP _ _ _ rfl) (by kernel_rfl) (by kernel_rfl) (by kernel_rfl) (fun _ _ _ h => h) (Or.inl ⟨by rfl, ?_⟩) (by assumption) ?_
            rotate_left
            · intro w5 hSw
              (try dsimp only at hSw)
              go_simp
              all_goals (with_reducible rfl)
            try simp only [Act.put, List.setIfInBounds_toArray, List.set_cons_zero, List.set_cons_succ]
            refine wpAnyH_done (by kernel_rfl) ?_ _
            refine NoPanic.normal ?_
            go_wp2_with fail
            go_meet
            case rel => exact ⟨gB, AO, cO, rfl, rfl, G.out, O.out, HT.out, qB⟩
        · go_simp
          have qB : w15.heap.size ≤ V0.heap.size := HT.out.size
          have Gx := Lib.hid (Box.new V0 30 #[.int .i64 0, .slice none 0 0])
          have hb : Below V0.heap.size V0 (V0.alloc (.cells #[.int .i64 0, .slice none 0 0] 30)) := (Below.refl _ _).alloc (Nat.le_refl _) _
          have HTn := Lib.hid (HT.out.trans ((hb).mono HT.out.size))
          clear HT
          have HT := HTn
          clear HTn
          have G := Gx
          clear Gx hb
          generalize V0.alloc (.cells #[.int .i64 0, .slice none 0 0] 30) = V1 at *
          generalize V0.heap.size = gB at *
          refine hK.out _ _ ?_ (fun hHeld => ?_)
          · exact (cells92 (D16.out.below HT.out zd) (X16.out.below HT.out zb))
          clear hK K
          refine wpAnyH_ready (rs := [1]) (by kernel_rfl) (by simp) ?_
          refine AllReadyH.cons (ops_getP _ _ _ rfl) (fun K hK => ?_) AllReadyH.nil
          go_simp
          refine (toRules_calls r _).mono ?_
          rintro e V2 ⟨rfl, hb⟩
          have HTn := Lib.hid (HT.out.trans ((hb).mono HT.out.size))
          clear HT
          have HT := HTn
          clear HTn
          have Gn := Lib.hid (G.out.below (hb) G.out.lt)
          clear G
          have G := Gn
          clear Gn
          clear hb
          try go_simp
          refine hK.out _ _ ?_ (fun hHeld => ?_)
          · exact (cells92 (D16.out.below HT.out zd) (X16.out.below HT.out zb))
          clear hK K
          refine wpAnyH_ready (rs := [3]) (by kernel_rfl) (by simp) ?_
          refine AllReadyH.cons (ops_getP _ _ _ rfl) (fun K hK => ?_) AllReadyH.nil
          go_simp
          refine (toState_calls A n c p L _ HL.out hn (HIb.out.below HT.out)).mono ?_
          rintro e V3 ⟨g2, rfl, hg2, hr2, hb⟩
          have HTn := Lib.hid (HT.out.trans ((hb).mono HT.out.size))
          clear HT
          have HT := HTn
          clear HTn
          have Gn := Lib.hid (G.out.below (hb) G.out.lt)
          clear G
          have G := Gn
          clear Gn
          have I := Lib.hid hr2.ints
          clear hr2 hg2
          clear hb
          try go_simp
          refine hK.out _ _ ?_ (fun hHeld => ?_)
          · exact (cells92 (D16.out.below HT.out zd) (X16.out.below HT.out zb))
          clear hK K
          refine wpAnyH_ready (rs := [5]) (by kernel_rfl) (by simp) ?_
          refine AllReadyH.cons (ops_getP _ _ _ rfl) (fun K hK => ?_) AllReadyH.nil
          go_simp
          refine (toMoveS_calls AM m cM M _ HM.out hmb (HMb.out.below HT.out)).mono ?_
          rintro e V4 ⟨g3, rfl, hg3, hO3, hb⟩
          have HTn := Lib.hid (HT.out.trans ((hb).mono HT.out.size))
          clear HT
          have HT := HTn
          clear HTn
          have In := Lib.hid (I.out.below (hb))
          clear I
          have I := In
          clear In
          have Gn := Lib.hid (G.out.below (hb) G.out.lt)
          clear G
          have G := Gn
          clear Gn
          have Mm := Lib.hid (OwnM.mvs hO3)
          clear hO3 hg3
          clear hb
          try go_simp
          refine hK.out _ _ ?_ (fun hHeld => ?_)
          · exact (cells92 (D16.out.below HT.out zd) (X16.out.below HT.out zb))
          clear hK K
          refine wpAnyH_ready (rs := [6]) (by kernel_rfl) (by simp) ?_
          refine AllReadyH.cons (ops_getP _ _ _ rfl) (fun K hK => ?_) AllReadyH.nil
          go_simp
          refine (HP.out g2 g3 _ (SB.out.below HT.out) I.out Mm.out).mono ?_
          rintro e V5 ⟨AO, cO, rfl, hO, hb⟩
          have O := Lib.hid (OwnG.mono hO HT.out.size)
          have HTn := Lib.hid (HT.out.trans ((hb).mono HT.out.size))
          clear HT
          have HT := HTn
          clear HTn
          have In := Lib.hid (I.out.below (hb))
          clear I
          have I := In
          clear In
          have Mmn := Lib.hid (Mm.out.below (hb))
          clear Mm
          have Mm := Mmn
          clear Mmn
          have Gn := Lib.hid (G.out.below (hb) G.out.lt)
          clear G
          have G := Gn
          clear Gn
          clear hO hb
          try go_simp
          refine hK.out _ _ ?_ (fun hHeld => ?_)
          · exact (cells92 (D16.out.below HT.out zd) (X16.out.below HT.out zb))
          clear hK K
          refine wpAnyH_take (i := 7) (v := ?_) (ops_getP _ _ _ rfl) (by kernel_rfl) (by kernel_rfl) (by kernel_rfl) (fun _ _ _ h => h) (Or.inl ⟨by rfl, ?_⟩) (by assumption) ?_
          rotate_left
          · intro w5 hSw
            (try dsimp only at hSw)
            go_simp
            all_goals (with_reducible rfl)
          try simp only [Act.put, List.setIfInBounds_toArray, List.set_cons_zero, List.set_cons_succ]
          refine wpAnyH_take (i := 8) (v := ?_) (ops_getP _ _ _ rfl) (by kernel_rfl) (by kernel_rfl) (by kernel_rfl) (fun _ _ _ h => h) (Or.inl ⟨by rfl, ?_⟩) (by assumption) ?_
          rotate_left
          · intro w5 hSw
            (try dsimp only at hSw)
            go_simp
            all_goals (with_reducible rfl)
          try simp only [Act.put, List.setIfInBounds_toArray, List.set_cons_zero, List.set_cons_succ]
          refine wpAnyH_take (i := 9) (v := ?_) (ops_getP _ _ _ rfl) (by kernel_rfl) (by kernel_rfl) (by kernel_rfl) (fun _ _ _ h => h) (Or.inl ⟨by rfl, ?_⟩) (by assumption) ?_
          rotate_left
          · intro w5 hSw
            (try dsimp only at hSw)
            go_simp
            all_goals (with_reducible rfl)
          try simp only [Act.put, List.setIfInBounds_toArray, List.set_cons_zero, List.set_cons_succ]
          refine wpAnyH_ready (rs := [11]) (by kernel_rfl) (by simp) ?_
          refine AllReadyH.cons (ops_getP _ _ _ rfl) (fun K hK => ?_) AllReadyH.nil
          obtain ⟨z0, z1, zf0, zf1⟩ := G.out.two
          go_simp
          clear z0 z1 zf0 zf1
          have HTn : Hid (Below w15.heap.size w15 (World.setCell (World.setCell V5 ⟨gB, 0, none⟩ (.int .i64 P)) ⟨gB, 1, none⟩ (.slice AO nn cO))) := (HT.out.setCell (show w15.heap.size ≤ (⟨gB, 0, none⟩ : Addr).block from qB) (.int .i64 P)).setCell (show w15.heap.size ≤ (⟨gB, 1, none⟩ : Addr).block from qB) (.slice AO nn cO)
          have On : Hid (Own w15.heap.size (World.setCell (World.setCell V5 ⟨gB, 0, none⟩ (.int .i64 P)) ⟨gB, 1, none⟩ (.slice AO nn cO)) AO nn cO LL) := OwnG.setBoxed (OwnG.setBoxed O.out G.out (by decide) 0 (.int .i64 P)) (G.out.set 0 (.int .i64 P)) (by decide) 1 (.slice AO nn cO)
          have Gn : Hid (Box (World.setCell (World.setCell V5 ⟨gB, 0, none⟩ (.int .i64 P)) ⟨gB, 1, none⟩ (.slice AO nn cO)) gB 30 #[.int .i64 P, .slice AO nn cO]) := (G.out.set 0 (.int .i64 P)).set 1 (.slice AO nn cO)
          clear HT O G
          have HT := HTn
          have O := On
          have G := Gn
          clear HTn On Gn
          generalize (World.setCell (World.setCell V5 ⟨gB, 0, none⟩ (.int .i64 P)) ⟨gB, 1, none⟩ (.slice AO nn cO)) = V6 at *
          refine hK.out _ _ ?_ (fun hHeld => ?_)
          · exact (cells92 (D16.out.below HT.out zd) (X16.out.below HT.out zb))
          clear hK K
          refine wpAnyH_take (i := 12) (v := ?_) (ops_getP _ _ _ rfl) (by kernel_rfl) (by kernel_rfl) (by kernel_rfl) (fun _ _ _ h => h) (Or.inl ⟨by rfl, ?_⟩) (by assumption) ?_
          rotate_left
          · intro w5 hSw
            (try dsimp only at hSw)
            go_simp
            all_goals (with_reducible rfl)
          try simp only [Act.put, List.setIfInBounds_toArray, List.set_cons_zero, List.set_cons_succ]
          refine wpAnyH_done (by kernel_rfl) ?_ _
          refine NoPanic.normal ?_
          go_wp2_with fail
          go_meet
          case rel => exact ⟨gB, AO, cO, rfl, rfl, G.out, O.out, HT.out, qB⟩
      case rest =>
        obtain ⟨gZ, A14, c14, rfl, rfl, hZ, hK, hb, hgZ⟩ := hcut
        have R15 := Lib.hid (R14.out.below hb R14.out.lt)
        have Y11 := Lib.hid (Y10.out.below hb Y10.out.lt)
        have Q11 := Lib.hid (Q10.out.below hb)
        have HB17 := Lib.hid (HB16.out.trans ((hb).mono HB16.out.size))
        clear D16 X16 R14 Y10 Q10 HB16
        have HO15 := Lib.hid (HO14.out.trans ((hb).mono HO14.out.size))
        clear HO14
        have K0 := Lib.hid hK.ints
        have Z0 := Lib.hid hZ
        clear hb hK hZ SB HIb HMb zd zb
        have hOI := Lib.hid (OI.out.below HO15.out)
        obtain ⟨y0, y1, _, _⟩ := Z0.out.two
        obtain ⟨r0, r1, _, _⟩ := R15.out.two
        go_wp2_with fail
        refine (eqState_calls A14 AO nn c14 nn cO P P LL LL _ HLL.out HLL.out hnn hnn K0.out hOI.out).mono ?_
        rintro e wq ⟨rfl, hb⟩
        clear hOI y0 y1 r0 r1
        have R16 := Lib.hid (R15.out.below hb R15.out.lt)
        have Y12 := Lib.hid (Y11.out.below hb Y11.out.lt)
        have Q12 := Lib.hid (Q11.out.below hb)
        have Z1 := Lib.hid (Z0.out.below hb Z0.out.lt)
        have HB18 := Lib.hid (HB17.out.trans ((hb).mono HB17.out.size))
        clear R15 Y11 Q11 Z0 HB17
        have HO16 := Lib.hid (HO15.out.trans ((hb).mono HO15.out.size))
        clear HO15
        clear hb
        clear K0
        obtain ⟨y0, y1, _, _⟩ := Y12.out.two
        go_wp2_with fail
        refine (heldState_calls A9 nn c9 P 1 _ (Own.ints Q12.out) hnn (by omega) (by omega)).mono ?_
        rintro e wh ⟨rfl, hb⟩
        clear y0 y1
        have R17 := Lib.hid (R16.out.below hb R16.out.lt)
        have Y13 := Lib.hid (Y12.out.below hb Y12.out.lt)
        have Q13 := Lib.hid (Q12.out.below hb)
        have Z2 := Lib.hid (Z1.out.below hb Z1.out.lt)
        have HB19 := Lib.hid (HB18.out.trans ((hb).mono HB18.out.size))
        clear R16 Y12 Q12 Z1 HB18
        have HO17 := Lib.hid (HO16.out.trans ((hb).mono HO16.out.size))
        clear HO16
        clear hb
        go_wp2
        go_ret
        exact ⟨rfl, HB19.out⟩

theorem walk (r : Nat → Int) (p : Int) (A : Option Addr) (n c : Nat) (L : List Int) (AM : Option Addr) (m cM : Nat) (M : List Mv) (ea : Addr) (w : World) (hw : ∀ k, k < 9 → (Lit.int .i64 (r k)).wf = true) (w0 : (Lit.int .i64 p).wf = true) (hA : ArgInts w A n L) (hB : ArgMvs w AM m M) (hS : SentL w ea) :
    Calls Tryd.prog 3 #[.agg (z9 r), .agg #[.int .i64 p, .slice A n c], .slice AM m cM] w fun e w' => e = .returned (.bool true) ∧ Below w.heap.size w w' := by
  obtain ⟨hL, hm, hI⟩ := hA
  obtain ⟨hM, hmm, hMv⟩ := hB
  by_cases hn : n ≤ 1048576
  · by_cases hnm : n + m ≤ 1048576
    · exact core r p A n c L AM m cM M (rbP r p L M) (rbE r p L M) (rbL r p L M) (rbL r p L M).length ea w (by exact rbL_len r p L M (by omega)) rfl hL hn hI hM hnm hMv hS (fun g h W hW hW' => specRunByRules_ret r ⟨g, 0, none⟩ n n p L (some ⟨h, 0, none⟩) m m M W hL hn hW hM (by omega) hW') (fun g h W hS' hW hW' => implRunByRules_ret r hw ⟨g, 0, none⟩ n n p L (some ⟨h, 0, none⟩) m m M ea W hL hn hW hM (by omega) hW' hS')
    · have h0 := szI_yes hn
      have h1 : szI n 1048576 ≤ 1048576 := by unfold szI; omega
      have h2 : szI m (szI n 1048576) = -1 := by unfold szI; omega
      obtain ⟨W0, hW0⟩ : ∃ W0, W0 = (w.alloc (.cells (z9 r) 23)).alloc (.cells #[.int .i64 p, .slice A n c] 26) := ⟨_, rfl⟩
      have hb0 : Below w.heap.size w W0 := by rw [hW0]; exact ((Below.refl _ w).alloc (Nat.le_refl _) _).alloc (by simp) _
      have d0 : Box W0 w.heap.size 23 (z9 r) := by rw [hW0]; exact (Box.new w _ _).alloc _
      have x0 : Box W0 (w.heap.size + 1) 26 #[.int .i64 p, .slice A n c] := by
        have h := Box.new (w.alloc (.cells (z9 r) 23)) 26 #[.int .i64 p, .slice A n c]
        rw [World.size_alloc] at h
        rw [hW0]; exact h
      have D0 := Lib.hid d0
      have X0 := Lib.hid x0
      have HB0 := Lib.hid hb0
      have HWN := Lib.hid hW0
      obtain ⟨x0, x1, _, _⟩ := x0.two
      clear d0 hb0 hW0
      unfold z9 at HWN
      unfold z9
      go_enter Tryd.func3, Tryd.ntmps3
      go_wp2_with fail
      rw [← HWN.out]
      refine (szState_calls A n c p 1048576 _ hm (by omega) (by omega)).mono ?_
      rintro e w1 ⟨rfl, hb1⟩
      have HB1 := Lib.hid (HB0.out.trans (hb1.mono HB0.out.size))
      clear hb1
      go_wp2_with fail
      refine (szMoveS_calls AM m cM (szI n 1048576) _ hmm h0 h1).mono ?_
      rintro e wz ⟨rfl, rfl⟩
      go_wp2
      go_ret
      exact ⟨rfl, HB1.out⟩
  · have h0 := szI_no hn
    obtain ⟨W0, hW0⟩ : ∃ W0, W0 = (w.alloc (.cells (z9 r) 23)).alloc (.cells #[.int .i64 p, .slice A n c] 26) := ⟨_, rfl⟩
    have hb0 : Below w.heap.size w W0 := by rw [hW0]; exact ((Below.refl _ w).alloc (Nat.le_refl _) _).alloc (by simp) _
    have d0 : Box W0 w.heap.size 23 (z9 r) := by rw [hW0]; exact (Box.new w _ _).alloc _
    have x0 : Box W0 (w.heap.size + 1) 26 #[.int .i64 p, .slice A n c] := by
      have h := Box.new (w.alloc (.cells (z9 r) 23)) 26 #[.int .i64 p, .slice A n c]
      rw [World.size_alloc] at h
      rw [hW0]; exact h
    have D0 := Lib.hid d0
    have X0 := Lib.hid x0
    have HB0 := Lib.hid hb0
    have HWN := Lib.hid hW0
    obtain ⟨x0, x1, _, _⟩ := x0.two
    clear d0 hb0 hW0
    unfold z9 at HWN
    unfold z9
    go_enter Tryd.func3, Tryd.ntmps3
    go_wp2_with fail
    rw [← HWN.out]
    refine (szState_calls A n c p 1048576 _ hm (by omega) (by omega)).mono ?_
    rintro e w1 ⟨rfl, hb1⟩
    have HB1 := Lib.hid (HB0.out.trans (hb1.mono HB0.out.size))
    clear hb1
    go_wp2
    go_ret
    exact ⟨rfl, HB1.out⟩

theorem door_met (os : Os) (args : Array Value) : laidMetH Tryd.prog Rows.fnExactRunByRulesRow.laid ((World.doorLaid Tryd.prog 28 os).forCall (fun _ _ => 0) ⟨#[], args, []⟩).memory :=
  laidMetH_of_parts3 (fuel := 8) (laidMet_of_run' 8 (by kernel_rfl) (by kernel_rfl)) (by kernel_rfl) (by kernel_rfl)
theorem sent_of_laid {W : World} (h : laidMetH Tryd.prog Rows.fnExactRunByRulesRow.laid W) : ∃ a : Addr, W.var? Tryd.prog "loop.example/g01321/impl.errNotLegal" = some #[.iface 77 (.pointer (some a))] ∧ SentL W a := by
  rw [MakeChecks.laidMetH_plain _ _ _ (by kernel_rfl)] at h
  exact sent_of h

set_option maxRecDepth 100000 in
theorem lifted (os : Os) (started : os.Started) (H : Type) (enc : TypeId × Value → H) :
    ReturnsInHanded {} Tryd.checked os 3 .any (fun w args => (Rows.fnExactRunByRulesSpec.pre enc Tryd.prog Tryd.f3 [] false w args ∧ laidMetH Tryd.prog Rows.fnExactRunByRulesRow.laid w) ∧ sizedMet enc Tryd.prog Tryd.f3 (OpenSpec.ofChange Rows.fnExactRunByRulesSpec) false w args)
      (Rows.fnExactRunByRulesSpec.post enc Tryd.prog Tryd.f3 false true false false) := by
  refine returnsInHanded_of_change_and (C := Tryd.checked) (X := fun w _ => laidMetH Tryd.prog Rows.fnExactRunByRulesRow.laid w) (fun _ _ _ hh h => h.of_heap hh) own started (by kernel_rfl) Tryd.func3
    (ChangeSpec.witness_shaped (enc := enc) (C := Tryd.checked) (os := os) (X := fun w _ => laidMetH Tryd.prog Rows.fnExactRunByRulesRow.laid w) false (World.doorLaid Tryd.prog 28 os) #[.agg #[.int .i64 0, .int .i64 0, .int .i64 0, .int .i64 0, .int .i64 0, .int .i64 0, .int .i64 0, .int .i64 0, .int .i64 0], .agg #[.int .i64 0, .slice none 0 0], .slice none 0 0] 8 rfl (World.shaped_of_RefB (by kernel_rfl) (by kernel_rfl)) (by kernel_rfl) (by kernel_rfl) (by kernel_rfl) (door_met os _)) ?_
  intro W base args ds gs before hval0 hW _ _ hL _
  have hval : ∀ (j : Nat) t v, Tryd.f3.params[j]? = some t → args[j]? = some v → Value.okWide Tryd.prog W .any base t v := hval0
  have hW' := hW
  obtain ⟨p, q, hA0, hV0, rfl, hfz, hnd⟩ := hW
  have hA : DataW.TrodAll enc Tryd.prog W 0 (fun _ => true) true Tryd.f3.params.toList args.toList ds p := hA0
  have hV : DataW.TrodVars enc Tryd.prog W (fun _ => true) ["loop.example/g01321/impl.errNotLegal"] gs q := hV0
  rw [Tryd.params3] at hA hval
  obtain ⟨v0, vs0, d0, ds0, p0, q0, hargs, rfl, rfl, h0, r0⟩ := trodAll_cons hA
  obtain ⟨v1, vs1, d1, ds1, p1, q1, rfl, rfl, rfl, h1, r1⟩ := trodAll_cons r0
  obtain ⟨v2, vs2, d2, ds2, p2, q2, rfl, rfl, rfl, h2, r2⟩ := trodAll_cons r1
  obtain ⟨rfl, rfl, rfl⟩ := trodAll_nil r2
  obtain rfl : args = #[v0, v1, v2] := by cases args; simp_all
  obtain ⟨ea, hv, hS⟩ := sent_of_laid hL
  obtain ⟨rfl, rfl⟩ := hV.unique (err_reads enc hv _)
  have lt0 : ∀ x ∈ p0, x.block < W.heap.size := by obtain ⟨m, hm⟩ := h0; exact DataW.trod_lt m _ _ _ hm
  have k0 := h0
  obtain ⟨R0, rfl, w0⟩ := open_rules (hval 0 23 v0 rfl rfl) h0
  have lt1 : ∀ x ∈ p1, x.block < W.heap.size := by obtain ⟨m, hm⟩ := h1; exact DataW.trod_lt m _ _ _ hm
  have k1 := h1
  obtain ⟨a1, A1, n1, c1, L1, rfl, w1, hAI1⟩ := open_state (hval 1 26 v1 rfl rfl) h1
  have lt2 : ∀ x ∈ p2, x.block < W.heap.size := by obtain ⟨m, hm⟩ := h2; exact DataW.trod_lt m _ _ _ hm
  have k2 := h2
  obtain ⟨A2, n2, c2, M2, rfl, hAM2⟩ := open_moves (hval 2 27 v2 rfl rfl) h2
  clear hA0 hV0 hval0
  refine (walk R0 a1 A1 n1 c1 L1 A2 n2 c2 M2 ea W w0 w1 hAI1 hAM2 hS).mono fun e W' ⟨he, bel⟩ => ?_
  subst he
  exact ⟨_, rfl, _, _, _, [], _, [.cell 0 0], hW', trodAll_mk1 (shut_bool Tryd.underlying4 _), (trodAll_cons_mk (Below.trod laidOut (by kernel_rfl) (of_decide_eq_true (by kernel_rfl)) k0 bel lt0) (trodAll_cons_mk (Below.trod laidOut (by kernel_rfl) (of_decide_eq_true (by kernel_rfl)) k1 bel lt1) (trodAll_cons_mk (Below.trod laidOut (by kernel_rfl) (of_decide_eq_true (by kernel_rfl)) k2 bel lt2) trodAll_mk0))), err_reads enc (var_stays gErr hv bel (Nat.le_refl _)) _, bel.frame _, fun h => by cases h⟩

theorem over : Rows.fnExactRunByRulesRow.holds Tryd.pinned (OpenSpec.ofChange Rows.fnExactRunByRulesSpec) :=
  OpenClaim.holds_of_wide 3 Tryd.f3 rfl rfl rfl rfl rfl rfl rfl ⟨rfl, rfl, rfl, rfl, rfl⟩ rfl rfl rfl rfl rfl (by kernel_rfl) Tryd.func3 (by kernel_rfl)
    (of_decide_eq_true (by kernel_rfl)) (by unfold Func.isWrapper; first | (rw [if_pos (by decide +kernel)]; kernel_rfl) | (rw [if_neg (by decide +kernel)]; exact ⟨rfl, rfl⟩))
    (fun os started H enc _ => lifted os started H enc)

theorem proved : Rows.FnExactRunByRulesCardSaid :=
  Claim7.holds_tied_plain_at .later [] [.sentinel] true _ _
    over (fun _ h => by cases h) (by kernel_rfl) (fun _ h => by cases h) fnExactRunByRules_row_tie rfl ⟨rfl, rfl⟩ (by kernel_rfl) rfl
    (fun f fn hf hfn => by
      obtain rfl : f = 3 := Option.some.inj ((show Tryd.prog.funcNamed "loop.example/g01321/laws.FnExactRunByRules" = some 3 by kernel_rfl).symm.trans hf) |>.symm
      obtain rfl : fn = Tryd.f3 := (Option.some.inj (Tryd.func3.symm.trans hfn)).symm
      exact ⟨by kernel_rfl, fun j t ht => by
        rw [Tryd.params3] at ht
        have hm : t ∈ [23, 26, 27] := by simpa using Array.mem_of_getElem? ht
        have hall : ([23, 26, 27].all fun u => !Tryd.prog.wantsStandIn u) = true := by kernel_rfl
        exact (show Tryd.prog.wantsStandIn t = false by simpa using List.all_eq_true.1 hall t hm)⟩)
    (by kernel_rfl)
#print axioms proved
end Go.Proofs.YtbnjdpjlhccglaaDoor.fnExactRunByRules
