/- Contracts: a list in any order that a law draws from its code. -/
import Derived.Test.YtfdjlgpdbgmdkaaDrawSt
import Derived.Test.YtfdjlgpdbgmdkaaDone
import Derived.Test.YtfdjlgpdbgmdkaaApart
import Derived.Test.YtfdjlgpdbgmdkaaOwnI
import Derived.Deep.RegionLaw
import Derived.IntWalk
import Derived.Deep.RegionHeld3
namespace Go.Proofs.Ytfdjlgpdbgmdkaa
open Go.RowKit
set_option linter.unusedVariables false

theorem ops_getP {α : Type} (l : List α) (i : Nat) (o : α) (h : l[i]? = some o) : l.toArray[i]? = some o := by rw [List.getElem?_toArray]; exact h
theorem Own.drewO {B n c : Nat} {w : World} {A : Option Addr} {L : List Int} (h : Own B w A n c L) : Own B w.drew A n c L := h
theorem grown_drewO {w w' : World} {r : Option Nat} (h : w.grownBy w' r) : w.grownBy w'.drew r := ⟨h.os, h.tape, h.output, h.size, h.block⟩
theorem ints_take {w : World} {A : Option Addr} {L : List Int} {q : Nat} (h : Ints w A L) : Ints w A (L.take q) := by
  intro k hk
  have hk2 : k < q ∧ k < L.length := by simp at hk; omega
  obtain ⟨ad, h1, h2, h3⟩ := h k hk2.2
  refine ⟨ad, h1, h2, ?_⟩
  rw [h3]
  simp [hk2.1]
theorem news_drop {B n c q g : Nat} {w : World} {L : List Int} (h : Own B w (some ⟨g, 0, none⟩) n c L) : ∀ j u, ((L.drop q).map (Value.int .i64))[j]? = some u → w.cell? ((⟨g, q, none⟩ : Addr).add j) = some u := by
  intro j u hu
  rw [List.getElem?_map, List.getElem?_drop] at hu
  cases hx : L[q + j]? with
  | none => rw [hx] at hu; cases hu
  | some x =>
    rw [hx] at hu
    have hlt := (List.getElem?_eq_some_iff.1 hx).1
    obtain ⟨ad, h1, _, h3⟩ := h.ints (q + j) hlt
    injection h1 with h1
    subst h1
    have e : (⟨g, q, none⟩ : Addr).add j = (⟨g, 0, none⟩ : Addr).add (q + j) := by
      unfold Addr.add
      split
      · next h0 => subst h0; split
                   · next h1 => simp at h1; subst h1; rfl
                   · simp
      · split
        · next h1 => omega
        · simp
    rw [e, h3, ← hu, List.getD_eq_getElem?_getD, hx]
    rfl
theorem own_apart_ne {A A' : Option Addr} {n c g : Nat} (h : ∀ g, A = some ⟨g, 0, none⟩ → (Value.slice A' n c).ownBlock ≠ some g) (h2 : A = some ⟨g, 0, none⟩) : (Value.slice A' n c).ownBlock ≠ some g := h g h2
theorem Src.grownHi {w w' : World} {g n c : Nat} {A : Option Addr} {row : Option Nat} (h : Src w g A n c) (hg : w.grownBy w' row) (hr : ∀ k, row = some k → g < k) : Src w' g A n c := by
  obtain ⟨k, x, hk, hx, hB, hA, hl⟩ := h
  refine ⟨k, x, hk, hx, hB.grown hg (fun e => absurd (hr g e.symm) (Nat.lt_irrefl _)), fun j hj => ?_, hl⟩
  obtain ⟨ad, rfl, hlt, b, hb, hc⟩ := hA j hj
  refine ⟨ad, rfl, Nat.lt_of_lt_of_le hlt hg.size, b, hb, hg.cell hc ?_⟩
  rw [add_block]
  intro e
  have h1 := hr _ e.symm
  have h2 := hl ad rfl (by omega)
  omega
theorem ownG_ge {e size B n c g : Nat} {w : World} {xs : List Value} (h : OwnG e size B w (some ⟨g, 0, none⟩) n c xs) : B ≤ g := by
  rcases h.form with ⟨h1, _⟩ | ⟨g', h1, h2, _⟩
  · cases h1
  · injection h1 with h1; injection h1 with h1; omega
theorem add_zeroO (R j : Nat) : (⟨R, 0, none⟩ : Addr).add j = ⟨R, j, none⟩ := by
  unfold Addr.add
  split
  · next h0 => rw [h0]
  · simp
theorem setCells_nil (w : World) (b i : Nat) : w.setCells b i [] = w := rfl

/-- A list that has been drawn into memory of the call's own. -/
def RetOr (w : World) (g : Nat) (A : Option Addr) (n c : Nat) (e : Ending) (w' : World) : Prop :=
  ∃ (A' : Option Addr) (m c' : Nat) (L : List Int), e = .returned (.slice A' m c') ∧ Own w.heap.size w' A' m c' L ∧ m ≤ 7 ∧ Src w' g A n c ∧ w.grownBy w' (some g)

set_option maxRecDepth 100000 in
set_option maxHeartbeats 8000000 in
theorem l01DrawOrder_ret (g : Nat) (A : Option Addr) (n c k : Nat) (w : World) (hn : n ≤ 4096) (h : Src w g A n c) (hk : k ≤ 6) (hk1 : 1 ≤ k) :
    Calls Try.prog 48 #[.pointer (some ⟨g, 0, none⟩), .int .i64 k] w (RetOr w g A n c) := by
  obtain ⟨i0, hi, hz0, hz1q, hz2⟩ := info_parts Try.infoI
  have hgw := h.lt
  have HS0 := Lib.hid (h.alloc (.cells #[] 2))
  have Y0 := Lib.hid (Box.new w 2 #[])
  have HG0 := Lib.hid (grown_alloc (World.grownBy.refl w (some g)) (.cells #[] 2))
  have hs0 : (w.alloc (.cells #[] 2)).heap.size = w.heap.size + 1 := by simp
  clear h
  go_enter Try.func48, Try.ntmps48
  go_wp2
  go_loopw [5, 6] (fun v i wr => ∃ j : Nat, j ≤ k ∧ i = .int .i64 j ∧ (∃ (g' c' : Nat) (L : List Int), v = .slice (some ⟨g', 0, none⟩) j c' ∧ Own w.heap.size wr (some ⟨g', 0, none⟩) j c' L) ∧ Src wr g A n c ∧ w.grownBy wr (some g)) (fun _ i _ => k - (intOf i).toNat)
  case atStart => exact ⟨0, Nat.zero_le _, rfl, ⟨w.heap.size, 0, [], rfl, Own.emptyAt Y0.out (Nat.le_refl _)⟩, HS0.out, HG0.out⟩
  case round =>
    obtain ⟨j, hj, rfl, ⟨g', c', L', rfl, ho⟩, hs, hg⟩ := hrel
    have O1 := Lib.hid ho
    have HS1 := Lib.hid hs
    have HG1 := Lib.hid hg
    have hs1 := hg.size
    have hcap := OwnG.cap ho
    have HLn := Lib.hid (Own.len ho)
    clear ho hs hg Y0 HS0 HG0
    unfold maxLen at hcap
    by_cases hjk : j < k
    · have hj1 : (j : Int) < (k : Int) := by omega
      go_wp2_with fail
      refine (l01Next_calls g A n c ((j : Int) + 1) _ hn HS1.out).mono ?_
      rintro e w3 ⟨x, rfl, hx, hS, hG⟩
      obtain ⟨q, rfl⟩ := Int.eq_ofNat_of_zero_le hx.1
      have hq : q ≤ j := by omega
      have O3 := Lib.hid (O1.out.kept hG (own_src O1.out HS1.out))
      have HS3 := Lib.hid hS
      have HG3 := Lib.hid (HG1.out.trans hG)
      have HTk : Hid ((L'.take q).length = q) := by unfold Hid; rw [List.length_take, HLn.out]; omega
      have hLn := HLn.out
      clear hx hS hG O1 HS1 HG1
      have b1 : 0 ≤ (q : Int) ∧ (q : Int) ≤ (c' : Int) := by omega
      have b2 : 0 ≤ (q : Int) ∧ (q : Int) ≤ (j : Int) := by omega
      by_cases hqj : q = j
      · subst hqj
        by_cases hqc : q = c'
        · subst hqc
          go_wp2_with fail
          refine wp_region_noPanic ?_
          refine wp_region_held_drew (S := (fun _ => True)) (by kernel_rfl) trivial (fun hHeld => ?_)
          have O := Lib.hid (Own.drewO O3.out)
          have S := Lib.hid (HS3.out.drews)
          have G := Lib.hid (grown_drewO HG3.out)
          clear O3 HS3 HG3
          generalize w3.drew = V0 at *
          refine wpAnyH_take (i := 0) (v := ?_) (ops_getP _ _ _ rfl) (by kernel_rfl) (by kernel_rfl) (by kernel_rfl) (fun _ _ _ h => h) (Or.inl ⟨by rfl, ?_⟩) (by assumption) ?_
          rotate_left
          · intro w5 hSw
            (try dsimp only at hSw)
            go_simp
            all_goals (with_reducible rfl)
          try simp only [Act.put, List.setIfInBounds_toArray, List.set_cons_zero, List.set_cons_succ]
          refine wpAnyH_take (i := 1) (v := ?_) (ops_getP _ _ _ rfl) (by kernel_rfl) (by kernel_rfl) (by kernel_rfl) (fun _ _ _ h => h) (Or.inl ⟨by rfl, ?_⟩) (by assumption) ?_
          rotate_left
          · intro w5 hSw
            (try dsimp only at hSw)
            go_simp
            all_goals (with_reducible rfl)
          try simp only [Act.put, List.setIfInBounds_toArray, List.set_cons_zero, List.set_cons_succ]
          refine wpAnyH_take (i := 2) (v := ?_) (ops_getP _ _ _ rfl) (by kernel_rfl) (by kernel_rfl) (by kernel_rfl) (fun _ _ _ h => h) (Or.inl ⟨by rfl, ?_⟩) (by assumption) ?_
          rotate_left
          · intro w5 hSw
            (try dsimp only at hSw)
            go_simp
            all_goals (with_reducible rfl)
          try simp only [Act.put, List.setIfInBounds_toArray, List.set_cons_zero, List.set_cons_succ]
          refine wpAnyH_take (i := 4) (v := ?_) (ops_getP _ _ _ rfl) (by kernel_rfl) (by kernel_rfl) (by kernel_rfl) (fun _ _ _ h => h) (Or.inl ⟨by rfl, ?_⟩) (by assumption) ?_
          rotate_left
          · intro w5 hSw
            (try dsimp only at hSw)
            go_simp
            all_goals (with_reducible rfl)
          try simp only [Act.put, List.setIfInBounds_toArray, List.set_cons_zero, List.set_cons_succ]
          refine wpAnyH_take (i := 7) (v := ?_) (ops_getP _ _ _ rfl) (by kernel_rfl) (by kernel_rfl) (by kernel_rfl) (fun _ _ _ h => h) (Or.inl ⟨by rfl, ?_⟩) (by assumption) ?_
          rotate_left
          · intro w5 hSw
            (try dsimp only at hSw)
            go_simp
            all_goals (with_reducible rfl)
          try simp only [Act.put, List.setIfInBounds_toArray, List.set_cons_zero, List.set_cons_succ]
          refine wpAnyH_take (i := 8) (v := ?_) (ops_getP _ _ _ rfl) (by kernel_rfl) (by kernel_rfl) (by kernel_rfl) (fun _ _ _ h => h) (Or.inl ⟨by rfl, ?_⟩) (by assumption) ?_
          rotate_left
          · intro w5 hSw
            (try dsimp only at hSw)
            go_simp
            all_goals (with_reducible rfl)
          try simp only [Act.put, List.setIfInBounds_toArray, List.set_cons_zero, List.set_cons_succ]
          refine wpAnyH_take (i := 9) (v := ?_) (ops_getP _ _ _ rfl) (by kernel_rfl) (by kernel_rfl) (by kernel_rfl) (fun _ _ _ h => h) (Or.inl ⟨by rfl, ?_⟩) (by assumption) ?_
          rotate_left
          · intro w5 hSw
            (try dsimp only at hSw)
            go_simp
            all_goals (with_reducible rfl)
          try simp only [Act.put, List.setIfInBounds_toArray, List.set_cons_zero, List.set_cons_succ]
          refine wpAnyH_ready (rs := [3, 5]) (by kernel_rfl) (by simp) ?_
          refine AllReadyH.cons (ops_getP _ _ _ rfl) (fun K hK => ?_) (AllReadyH.cons (ops_getP _ _ _ rfl) (fun K hK => ?_) AllReadyH.nil)
          · go_simp
            refine (l01Own_calls (some ⟨g', 0, none⟩) q q (L'.take q) V0 HTk.out (by omega) (fun e => by cases e) (ints_take O.out.ints)).mono ?_
            rintro e V1 ⟨Ad, cd, rfl, hO, hb⟩
            have hsd : w.heap.size ≤ V0.heap.size := G.out.size
            have hDa := Lib.hid (own_apart O.out hO (Nat.le_refl _))
            have On := Lib.hid (O.out.below hb)
            clear O
            have O := On
            clear On
            have Sn := Lib.hid (S.out.below hb)
            clear S
            have S := Sn
            clear Sn
            have Gn := Lib.hid (grown_then G.out (row2 := none) ⟨hb.os, hb.tape, hb.output, hb.size, fun k hk _ => hb.block k hk⟩ (fun k hk => by cases hk))
            clear G
            have G := Gn
            clear Gn
            have D := Lib.hid hO
            clear hO hb
            try go_simp
            refine hK.out _ _ ?_ (fun hHeld => ?_)
            · exact trivial
            clear hK K
            refine wpAnyH_ready (rs := [5]) (by kernel_rfl) (by simp) ?_
            refine AllReadyH.cons (ops_getP _ _ _ rfl) (fun K hK => ?_) AllReadyH.nil
            go_simp
            have hal : Below V1.heap.size V1 (V1.alloc (.cells #[.int .i64 (q : Int)] 2)) := (Below.refl _ _).alloc (Nat.le_refl _) _
            have hN := Box.new V1 2 #[.int .i64 (q : Int)]
            have On := Lib.hid (O.out.below hal)
            clear O
            have O := On
            clear On
            have Sn := Lib.hid (S.out.below hal)
            clear S
            have S := Sn
            clear Sn
            have Dn := Lib.hid (D.out.below hal)
            clear D
            have D := Dn
            clear Dn
            have Gn := Lib.hid (grown_then G.out (row2 := none) ⟨hal.os, hal.tape, hal.output, hal.size, fun k hk _ => hal.block k hk⟩ (fun k hk => by cases hk))
            clear G
            have G := Gn
            clear Gn
            have N := Lib.hid hN
            generalize V1.alloc (.cells #[.int .i64 (q : Int)] 2) = V2 at *
            generalize V1.heap.size = bN at *
            clear hal hN
            refine hK.out _ _ ?_ (fun hHeld => ?_)
            · exact trivial
            clear hK K
            refine wpAnyH_ready (rs := [6]) (by kernel_rfl) (by simp) ?_
            refine AllReadyH.cons (ops_getP _ _ _ rfl) (fun K hK => ?_) AllReadyH.nil
            skip
            refine step_append_lies _ (by rfl) _ _ _ (by rfl) w.heap.size 2 i0 (.int .i64 0) 1 8 Try.underlying24 hi hz0 hz1q hz2 rfl (by decide) (.slice Ad q cd) q ((L'.take q).map (Value.int .i64)) (by rfl) (show OwnG 2 1 w.heap.size V2 Ad q cd ((L'.take q).map (Value.int .i64)) from OwnG.mono (e := 2) (size := 1) D.out hsd) ⟨bN, 0, none⟩ 1 1 [.int .i64 (q : Int)] (by rfl) (by rfl) (World.news_of_block (cs := #[.int .i64 (q : Int)]) (t := 2) (fr := (0, 0)) N.out) (by simp [Value.oneCell']) (by omega) (by unfold maxLen; omega) (by omega) G.out.size V2.heap.size rfl ?_
            intro gg cap V3 hown hgrow hat hlt
            have hDbk : ∀ k, (Value.slice Ad q cd).ownBlock = some k → w.heap.size ≤ k := fun k hk => Nat.le_trans hsd (own_bk D.out k hk)
            have On := Lib.hid (O.out.kept hgrow (fun g2 h2 e => own_apart_ne hDa.out h2 e))
            clear O
            have O := On
            clear On
            have Sn := Lib.hid (S.out.grownHi hgrow (fun k hk => Nat.lt_of_lt_of_le hgw (hDbk k hk)))
            clear S
            have S := Sn
            clear Sn
            have Gn := Lib.hid (grown_then G.out hgrow hDbk)
            clear G
            have G := Gn
            clear Gn
            have P := Lib.hid (show OwnG 2 1 w.heap.size V3 (some ⟨gg, 0, none⟩) (q + 1) cap (((L'.take q) ++ [(q : Int)]).map (Value.int .i64)) from by rw [List.map_append]; exact hown)
            clear hown hgrow hat hlt D N
            refine hK.out _ _ ?_ (fun hHeld => ?_)
            · exact trivial
            clear hK K
            refine wpAnyH_ready (rs := [10]) (by kernel_rfl) (by simp) ?_
            refine AllReadyH.cons (ops_getP _ _ _ rfl) (fun K hK => ?_) AllReadyH.nil
            have hcap := OwnG.cap P.out
            refine step_append_room (by rfl) _ _ _ (by rfl) 2 i0 1 Try.underlying24 hi hz1q gg 0 (q + 1) cap (by rfl) ⟨g', 0, none⟩ 0 0 [] (by rfl) (by rfl) (fun _ _ h => by simp at h) (fun _ h => by simp at h) (by omega) (fun _ h => by simp at h) ?_
            have hset : World.setCells V3 gg (0 + (q + 1) * 1) [] = V3 := setCells_nil _ _ _
            rw [hset]
            have Fn := Lib.hid (show OwnG 2 1 w.heap.size V3 (some ⟨gg, 0, none⟩) (q + 1) cap (((L'.take q) ++ [(q : Int)]).map (Value.int .i64)) from P.out)
            generalize V3 = V4 at *
            refine hK.out _ _ ?_ (fun hHeld => ?_)
            · exact trivial
            clear hK K
            refine wpAnyH_take (i := 11) (v := ?_) (ops_getP _ _ _ rfl) (by kernel_rfl) (by kernel_rfl) (by kernel_rfl) (fun _ _ _ h => h) (Or.inl ⟨by rfl, ?_⟩) (by assumption) ?_
            rotate_left
            · intro w5 hSw
              (try dsimp only at hSw)
              go_simp
              all_goals (with_reducible rfl)
            try simp only [Act.put, List.setIfInBounds_toArray, List.set_cons_zero, List.set_cons_succ]
            refine wpAnyH_done (by kernel_rfl) ?_ _
            refine NoPanic.normal ?_
            go_wp2
            go_roundw
            case rel => exact ⟨q + 1, by omega, by go_num, ⟨gg, cap, _, rfl, Fn.out⟩, S.out, G.out⟩
            case measure => simp [intOf]; omega
          · go_simp
            have hal : Below V0.heap.size V0 (V0.alloc (.cells #[.int .i64 (q : Int)] 2)) := (Below.refl _ _).alloc (Nat.le_refl _) _
            have hN := Box.new V0 2 #[.int .i64 (q : Int)]
            have On := Lib.hid (O.out.below hal)
            clear O
            have O := On
            clear On
            have Sn := Lib.hid (S.out.below hal)
            clear S
            have S := Sn
            clear Sn
            have Gn := Lib.hid (grown_then G.out (row2 := none) ⟨hal.os, hal.tape, hal.output, hal.size, fun k hk _ => hal.block k hk⟩ (fun k hk => by cases hk))
            clear G
            have G := Gn
            clear Gn
            have N := Lib.hid hN
            generalize V0.alloc (.cells #[.int .i64 (q : Int)] 2) = V1 at *
            generalize V0.heap.size = bN at *
            clear hal hN
            refine hK.out _ _ ?_ (fun hHeld => ?_)
            · exact trivial
            clear hK K
            refine wpAnyH_ready (rs := [3]) (by kernel_rfl) (by simp) ?_
            refine AllReadyH.cons (ops_getP _ _ _ rfl) (fun K hK => ?_) AllReadyH.nil
            go_simp
            refine (l01Own_calls (some ⟨g', 0, none⟩) q q (L'.take q) V1 HTk.out (by omega) (fun e => by cases e) (ints_take O.out.ints)).mono ?_
            rintro e V2 ⟨Ad, cd, rfl, hO, hb⟩
            have hsd : w.heap.size ≤ V1.heap.size := G.out.size
            have hDa := Lib.hid (own_apart O.out hO (Nat.le_refl _))
            have On := Lib.hid (O.out.below hb)
            clear O
            have O := On
            clear On
            have Sn := Lib.hid (S.out.below hb)
            clear S
            have S := Sn
            clear Sn
            have Nn := Lib.hid (N.out.below hb N.out.lt)
            clear N
            have N := Nn
            clear Nn
            have Gn := Lib.hid (grown_then G.out (row2 := none) ⟨hb.os, hb.tape, hb.output, hb.size, fun k hk _ => hb.block k hk⟩ (fun k hk => by cases hk))
            clear G
            have G := Gn
            clear Gn
            have D := Lib.hid hO
            clear hO hb
            try go_simp
            refine hK.out _ _ ?_ (fun hHeld => ?_)
            · exact trivial
            clear hK K
            refine wpAnyH_ready (rs := [6]) (by kernel_rfl) (by simp) ?_
            refine AllReadyH.cons (ops_getP _ _ _ rfl) (fun K hK => ?_) AllReadyH.nil
            skip
            refine step_append_lies _ (by rfl) _ _ _ (by rfl) w.heap.size 2 i0 (.int .i64 0) 1 8 Try.underlying24 hi hz0 hz1q hz2 rfl (by decide) (.slice Ad q cd) q ((L'.take q).map (Value.int .i64)) (by rfl) (show OwnG 2 1 w.heap.size V2 Ad q cd ((L'.take q).map (Value.int .i64)) from OwnG.mono (e := 2) (size := 1) D.out hsd) ⟨bN, 0, none⟩ 1 1 [.int .i64 (q : Int)] (by rfl) (by rfl) (World.news_of_block (cs := #[.int .i64 (q : Int)]) (t := 2) (fr := (0, 0)) N.out) (by simp [Value.oneCell']) (by omega) (by unfold maxLen; omega) (by omega) G.out.size V2.heap.size rfl ?_
            intro gg cap V3 hown hgrow hat hlt
            have hDbk : ∀ k, (Value.slice Ad q cd).ownBlock = some k → w.heap.size ≤ k := fun k hk => Nat.le_trans hsd (own_bk D.out k hk)
            have On := Lib.hid (O.out.kept hgrow (fun g2 h2 e => own_apart_ne hDa.out h2 e))
            clear O
            have O := On
            clear On
            have Sn := Lib.hid (S.out.grownHi hgrow (fun k hk => Nat.lt_of_lt_of_le hgw (hDbk k hk)))
            clear S
            have S := Sn
            clear Sn
            have Gn := Lib.hid (grown_then G.out hgrow hDbk)
            clear G
            have G := Gn
            clear Gn
            have P := Lib.hid (show OwnG 2 1 w.heap.size V3 (some ⟨gg, 0, none⟩) (q + 1) cap (((L'.take q) ++ [(q : Int)]).map (Value.int .i64)) from by rw [List.map_append]; exact hown)
            clear hown hgrow hat hlt D N
            refine hK.out _ _ ?_ (fun hHeld => ?_)
            · exact trivial
            clear hK K
            refine wpAnyH_ready (rs := [10]) (by kernel_rfl) (by simp) ?_
            refine AllReadyH.cons (ops_getP _ _ _ rfl) (fun K hK => ?_) AllReadyH.nil
            have hcap := OwnG.cap P.out
            refine step_append_room (by rfl) _ _ _ (by rfl) 2 i0 1 Try.underlying24 hi hz1q gg 0 (q + 1) cap (by rfl) ⟨g', 0, none⟩ 0 0 [] (by rfl) (by rfl) (fun _ _ h => by simp at h) (fun _ h => by simp at h) (by omega) (fun _ h => by simp at h) ?_
            have hset : World.setCells V3 gg (0 + (q + 1) * 1) [] = V3 := setCells_nil _ _ _
            rw [hset]
            have Fn := Lib.hid (show OwnG 2 1 w.heap.size V3 (some ⟨gg, 0, none⟩) (q + 1) cap (((L'.take q) ++ [(q : Int)]).map (Value.int .i64)) from P.out)
            generalize V3 = V4 at *
            refine hK.out _ _ ?_ (fun hHeld => ?_)
            · exact trivial
            clear hK K
            refine wpAnyH_take (i := 11) (v := ?_) (ops_getP _ _ _ rfl) (by kernel_rfl) (by kernel_rfl) (by kernel_rfl) (fun _ _ _ h => h) (Or.inl ⟨by rfl, ?_⟩) (by assumption) ?_
            rotate_left
            · intro w5 hSw
              (try dsimp only at hSw)
              go_simp
              all_goals (with_reducible rfl)
            try simp only [Act.put, List.setIfInBounds_toArray, List.set_cons_zero, List.set_cons_succ]
            refine wpAnyH_done (by kernel_rfl) ?_ _
            refine NoPanic.normal ?_
            go_wp2
            go_roundw
            case rel => exact ⟨q + 1, by omega, by go_num, ⟨gg, cap, _, rfl, Fn.out⟩, S.out, G.out⟩
            case measure => simp [intOf]; omega
        · have hqc2 : ¬ c' = q := fun e => hqc e.symm
          go_wp2_with fail
          refine wp_region_noPanic ?_
          refine wp_region_held_drew (S := (fun _ => True)) (by kernel_rfl) trivial (fun hHeld => ?_)
          have O := Lib.hid (Own.drewO O3.out)
          have S := Lib.hid (HS3.out.drews)
          have G := Lib.hid (grown_drewO HG3.out)
          clear O3 HS3 HG3
          generalize w3.drew = V0 at *
          refine wpAnyH_take (i := 0) (v := ?_) (ops_getP _ _ _ rfl) (by kernel_rfl) (by kernel_rfl) (by kernel_rfl) (fun _ _ _ h => h) (Or.inl ⟨by rfl, ?_⟩) (by assumption) ?_
          rotate_left
          · intro w5 hSw
            (try dsimp only at hSw)
            go_simp
            all_goals (with_reducible rfl)
          try simp only [Act.put, List.setIfInBounds_toArray, List.set_cons_zero, List.set_cons_succ]
          refine wpAnyH_take (i := 1) (v := ?_) (ops_getP _ _ _ rfl) (by kernel_rfl) (by kernel_rfl) (by kernel_rfl) (fun _ _ _ h => h) (Or.inl ⟨by rfl, ?_⟩) (by assumption) ?_
          rotate_left
          · intro w5 hSw
            (try dsimp only at hSw)
            go_simp
            all_goals (with_reducible rfl)
          try simp only [Act.put, List.setIfInBounds_toArray, List.set_cons_zero, List.set_cons_succ]
          refine wpAnyH_take (i := 2) (v := ?_) (ops_getP _ _ _ rfl) (by kernel_rfl) (by kernel_rfl) (by kernel_rfl) (fun _ _ _ h => h) (Or.inl ⟨by rfl, ?_⟩) (by assumption) ?_
          rotate_left
          · intro w5 hSw
            (try dsimp only at hSw)
            go_simp
            all_goals (with_reducible rfl)
          try simp only [Act.put, List.setIfInBounds_toArray, List.set_cons_zero, List.set_cons_succ]
          refine wpAnyH_take (i := 4) (v := ?_) (ops_getP _ _ _ rfl) (by kernel_rfl) (by kernel_rfl) (by kernel_rfl) (fun _ _ _ h => h) (Or.inl ⟨by rfl, ?_⟩) (by assumption) ?_
          rotate_left
          · intro w5 hSw
            (try dsimp only at hSw)
            go_simp
            all_goals (with_reducible rfl)
          try simp only [Act.put, List.setIfInBounds_toArray, List.set_cons_zero, List.set_cons_succ]
          refine wpAnyH_take (i := 7) (v := ?_) (ops_getP _ _ _ rfl) (by kernel_rfl) (by kernel_rfl) (by kernel_rfl) (fun _ _ _ h => h) (Or.inl ⟨by rfl, ?_⟩) (by assumption) ?_
          rotate_left
          · intro w5 hSw
            (try dsimp only at hSw)
            go_simp
            all_goals (with_reducible rfl)
          try simp only [Act.put, List.setIfInBounds_toArray, List.set_cons_zero, List.set_cons_succ]
          refine wpAnyH_take (i := 8) (v := ?_) (ops_getP _ _ _ rfl) (by kernel_rfl) (by kernel_rfl) (by kernel_rfl) (fun _ _ _ h => h) (Or.inl ⟨by rfl, ?_⟩) (by assumption) ?_
          rotate_left
          · intro w5 hSw
            (try dsimp only at hSw)
            go_simp
            all_goals (with_reducible rfl)
          try simp only [Act.put, List.setIfInBounds_toArray, List.set_cons_zero, List.set_cons_succ]
          refine wpAnyH_take (i := 9) (v := ?_) (ops_getP _ _ _ rfl) (by kernel_rfl) (by kernel_rfl) (by kernel_rfl) (fun _ _ _ h => h) (Or.inl ⟨by rfl, ?_⟩) (by assumption) ?_
          rotate_left
          · intro w5 hSw
            (try dsimp only at hSw)
            go_simp
            all_goals (with_reducible rfl)
          try simp only [Act.put, List.setIfInBounds_toArray, List.set_cons_zero, List.set_cons_succ]
          refine wpAnyH_ready (rs := [3, 5]) (by kernel_rfl) (by simp) ?_
          refine AllReadyH.cons (ops_getP _ _ _ rfl) (fun K hK => ?_) (AllReadyH.cons (ops_getP _ _ _ rfl) (fun K hK => ?_) AllReadyH.nil)
          · go_simp
            refine (l01Own_calls (some ⟨g', 0, none⟩) q c' (L'.take q) V0 HTk.out (by omega) (fun e => by cases e) (ints_take O.out.ints)).mono ?_
            rintro e V1 ⟨Ad, cd, rfl, hO, hb⟩
            have hsd : w.heap.size ≤ V0.heap.size := G.out.size
            have hDa := Lib.hid (own_apart O.out hO (Nat.le_refl _))
            have On := Lib.hid (O.out.below hb)
            clear O
            have O := On
            clear On
            have Sn := Lib.hid (S.out.below hb)
            clear S
            have S := Sn
            clear Sn
            have Gn := Lib.hid (grown_then G.out (row2 := none) ⟨hb.os, hb.tape, hb.output, hb.size, fun k hk _ => hb.block k hk⟩ (fun k hk => by cases hk))
            clear G
            have G := Gn
            clear Gn
            have D := Lib.hid hO
            clear hO hb
            try go_simp
            refine hK.out _ _ ?_ (fun hHeld => ?_)
            · exact trivial
            clear hK K
            refine wpAnyH_ready (rs := [5]) (by kernel_rfl) (by simp) ?_
            refine AllReadyH.cons (ops_getP _ _ _ rfl) (fun K hK => ?_) AllReadyH.nil
            go_simp
            have hal : Below V1.heap.size V1 (V1.alloc (.cells #[.int .i64 (q : Int)] 2)) := (Below.refl _ _).alloc (Nat.le_refl _) _
            have hN := Box.new V1 2 #[.int .i64 (q : Int)]
            have On := Lib.hid (O.out.below hal)
            clear O
            have O := On
            clear On
            have Sn := Lib.hid (S.out.below hal)
            clear S
            have S := Sn
            clear Sn
            have Dn := Lib.hid (D.out.below hal)
            clear D
            have D := Dn
            clear Dn
            have Gn := Lib.hid (grown_then G.out (row2 := none) ⟨hal.os, hal.tape, hal.output, hal.size, fun k hk _ => hal.block k hk⟩ (fun k hk => by cases hk))
            clear G
            have G := Gn
            clear Gn
            have N := Lib.hid hN
            generalize V1.alloc (.cells #[.int .i64 (q : Int)] 2) = V2 at *
            generalize V1.heap.size = bN at *
            clear hal hN
            refine hK.out _ _ ?_ (fun hHeld => ?_)
            · exact trivial
            clear hK K
            refine wpAnyH_ready (rs := [6]) (by kernel_rfl) (by simp) ?_
            refine AllReadyH.cons (ops_getP _ _ _ rfl) (fun K hK => ?_) AllReadyH.nil
            skip
            refine step_append_lies _ (by rfl) _ _ _ (by rfl) w.heap.size 2 i0 (.int .i64 0) 1 8 Try.underlying24 hi hz0 hz1q hz2 rfl (by decide) (.slice Ad q cd) q ((L'.take q).map (Value.int .i64)) (by rfl) (show OwnG 2 1 w.heap.size V2 Ad q cd ((L'.take q).map (Value.int .i64)) from OwnG.mono (e := 2) (size := 1) D.out hsd) ⟨bN, 0, none⟩ 1 1 [.int .i64 (q : Int)] (by rfl) (by rfl) (World.news_of_block (cs := #[.int .i64 (q : Int)]) (t := 2) (fr := (0, 0)) N.out) (by simp [Value.oneCell']) (by omega) (by unfold maxLen; omega) (by omega) G.out.size V2.heap.size rfl ?_
            intro gg cap V3 hown hgrow hat hlt
            have hDbk : ∀ k, (Value.slice Ad q cd).ownBlock = some k → w.heap.size ≤ k := fun k hk => Nat.le_trans hsd (own_bk D.out k hk)
            have On := Lib.hid (O.out.kept hgrow (fun g2 h2 e => own_apart_ne hDa.out h2 e))
            clear O
            have O := On
            clear On
            have Sn := Lib.hid (S.out.grownHi hgrow (fun k hk => Nat.lt_of_lt_of_le hgw (hDbk k hk)))
            clear S
            have S := Sn
            clear Sn
            have Gn := Lib.hid (grown_then G.out hgrow hDbk)
            clear G
            have G := Gn
            clear Gn
            have P := Lib.hid (show OwnG 2 1 w.heap.size V3 (some ⟨gg, 0, none⟩) (q + 1) cap (((L'.take q) ++ [(q : Int)]).map (Value.int .i64)) from by rw [List.map_append]; exact hown)
            clear hown hgrow hat hlt D N
            refine hK.out _ _ ?_ (fun hHeld => ?_)
            · exact trivial
            clear hK K
            refine wpAnyH_ready (rs := [10]) (by kernel_rfl) (by simp) ?_
            refine AllReadyH.cons (ops_getP _ _ _ rfl) (fun K hK => ?_) AllReadyH.nil
            have hcap := OwnG.cap P.out
            refine step_append_room (by rfl) _ _ _ (by rfl) 2 i0 1 Try.underlying24 hi hz1q gg 0 (q + 1) cap (by rfl) ⟨g', q, none⟩ 0 (c' - q) [] (by rfl) (by rfl) (fun _ _ h => by simp at h) (fun _ h => by simp at h) (by omega) (fun _ h => by simp at h) ?_
            have hset : World.setCells V3 gg (0 + (q + 1) * 1) [] = V3 := setCells_nil _ _ _
            rw [hset]
            have Fn := Lib.hid (show OwnG 2 1 w.heap.size V3 (some ⟨gg, 0, none⟩) (q + 1) cap (((L'.take q) ++ [(q : Int)]).map (Value.int .i64)) from P.out)
            generalize V3 = V4 at *
            refine hK.out _ _ ?_ (fun hHeld => ?_)
            · exact trivial
            clear hK K
            refine wpAnyH_take (i := 11) (v := ?_) (ops_getP _ _ _ rfl) (by kernel_rfl) (by kernel_rfl) (by kernel_rfl) (fun _ _ _ h => h) (Or.inl ⟨by rfl, ?_⟩) (by assumption) ?_
            rotate_left
            · intro w5 hSw
              (try dsimp only at hSw)
              go_simp
              all_goals (with_reducible rfl)
            try simp only [Act.put, List.setIfInBounds_toArray, List.set_cons_zero, List.set_cons_succ]
            refine wpAnyH_done (by kernel_rfl) ?_ _
            refine NoPanic.normal ?_
            go_wp2
            go_roundw
            case rel => exact ⟨q + 1, by omega, by go_num, ⟨gg, cap, _, rfl, Fn.out⟩, S.out, G.out⟩
            case measure => simp [intOf]; omega
          · go_simp
            have hal : Below V0.heap.size V0 (V0.alloc (.cells #[.int .i64 (q : Int)] 2)) := (Below.refl _ _).alloc (Nat.le_refl _) _
            have hN := Box.new V0 2 #[.int .i64 (q : Int)]
            have On := Lib.hid (O.out.below hal)
            clear O
            have O := On
            clear On
            have Sn := Lib.hid (S.out.below hal)
            clear S
            have S := Sn
            clear Sn
            have Gn := Lib.hid (grown_then G.out (row2 := none) ⟨hal.os, hal.tape, hal.output, hal.size, fun k hk _ => hal.block k hk⟩ (fun k hk => by cases hk))
            clear G
            have G := Gn
            clear Gn
            have N := Lib.hid hN
            generalize V0.alloc (.cells #[.int .i64 (q : Int)] 2) = V1 at *
            generalize V0.heap.size = bN at *
            clear hal hN
            refine hK.out _ _ ?_ (fun hHeld => ?_)
            · exact trivial
            clear hK K
            refine wpAnyH_ready (rs := [3]) (by kernel_rfl) (by simp) ?_
            refine AllReadyH.cons (ops_getP _ _ _ rfl) (fun K hK => ?_) AllReadyH.nil
            go_simp
            refine (l01Own_calls (some ⟨g', 0, none⟩) q c' (L'.take q) V1 HTk.out (by omega) (fun e => by cases e) (ints_take O.out.ints)).mono ?_
            rintro e V2 ⟨Ad, cd, rfl, hO, hb⟩
            have hsd : w.heap.size ≤ V1.heap.size := G.out.size
            have hDa := Lib.hid (own_apart O.out hO (Nat.le_refl _))
            have On := Lib.hid (O.out.below hb)
            clear O
            have O := On
            clear On
            have Sn := Lib.hid (S.out.below hb)
            clear S
            have S := Sn
            clear Sn
            have Nn := Lib.hid (N.out.below hb N.out.lt)
            clear N
            have N := Nn
            clear Nn
            have Gn := Lib.hid (grown_then G.out (row2 := none) ⟨hb.os, hb.tape, hb.output, hb.size, fun k hk _ => hb.block k hk⟩ (fun k hk => by cases hk))
            clear G
            have G := Gn
            clear Gn
            have D := Lib.hid hO
            clear hO hb
            try go_simp
            refine hK.out _ _ ?_ (fun hHeld => ?_)
            · exact trivial
            clear hK K
            refine wpAnyH_ready (rs := [6]) (by kernel_rfl) (by simp) ?_
            refine AllReadyH.cons (ops_getP _ _ _ rfl) (fun K hK => ?_) AllReadyH.nil
            skip
            refine step_append_lies _ (by rfl) _ _ _ (by rfl) w.heap.size 2 i0 (.int .i64 0) 1 8 Try.underlying24 hi hz0 hz1q hz2 rfl (by decide) (.slice Ad q cd) q ((L'.take q).map (Value.int .i64)) (by rfl) (show OwnG 2 1 w.heap.size V2 Ad q cd ((L'.take q).map (Value.int .i64)) from OwnG.mono (e := 2) (size := 1) D.out hsd) ⟨bN, 0, none⟩ 1 1 [.int .i64 (q : Int)] (by rfl) (by rfl) (World.news_of_block (cs := #[.int .i64 (q : Int)]) (t := 2) (fr := (0, 0)) N.out) (by simp [Value.oneCell']) (by omega) (by unfold maxLen; omega) (by omega) G.out.size V2.heap.size rfl ?_
            intro gg cap V3 hown hgrow hat hlt
            have hDbk : ∀ k, (Value.slice Ad q cd).ownBlock = some k → w.heap.size ≤ k := fun k hk => Nat.le_trans hsd (own_bk D.out k hk)
            have On := Lib.hid (O.out.kept hgrow (fun g2 h2 e => own_apart_ne hDa.out h2 e))
            clear O
            have O := On
            clear On
            have Sn := Lib.hid (S.out.grownHi hgrow (fun k hk => Nat.lt_of_lt_of_le hgw (hDbk k hk)))
            clear S
            have S := Sn
            clear Sn
            have Gn := Lib.hid (grown_then G.out hgrow hDbk)
            clear G
            have G := Gn
            clear Gn
            have P := Lib.hid (show OwnG 2 1 w.heap.size V3 (some ⟨gg, 0, none⟩) (q + 1) cap (((L'.take q) ++ [(q : Int)]).map (Value.int .i64)) from by rw [List.map_append]; exact hown)
            clear hown hgrow hat hlt D N
            refine hK.out _ _ ?_ (fun hHeld => ?_)
            · exact trivial
            clear hK K
            refine wpAnyH_ready (rs := [10]) (by kernel_rfl) (by simp) ?_
            refine AllReadyH.cons (ops_getP _ _ _ rfl) (fun K hK => ?_) AllReadyH.nil
            have hcap := OwnG.cap P.out
            refine step_append_room (by rfl) _ _ _ (by rfl) 2 i0 1 Try.underlying24 hi hz1q gg 0 (q + 1) cap (by rfl) ⟨g', q, none⟩ 0 (c' - q) [] (by rfl) (by rfl) (fun _ _ h => by simp at h) (fun _ h => by simp at h) (by omega) (fun _ h => by simp at h) ?_
            have hset : World.setCells V3 gg (0 + (q + 1) * 1) [] = V3 := setCells_nil _ _ _
            rw [hset]
            have Fn := Lib.hid (show OwnG 2 1 w.heap.size V3 (some ⟨gg, 0, none⟩) (q + 1) cap (((L'.take q) ++ [(q : Int)]).map (Value.int .i64)) from P.out)
            generalize V3 = V4 at *
            refine hK.out _ _ ?_ (fun hHeld => ?_)
            · exact trivial
            clear hK K
            refine wpAnyH_take (i := 11) (v := ?_) (ops_getP _ _ _ rfl) (by kernel_rfl) (by kernel_rfl) (by kernel_rfl) (fun _ _ _ h => h) (Or.inl ⟨by rfl, ?_⟩) (by assumption) ?_
            rotate_left
            · intro w5 hSw
              (try dsimp only at hSw)
              go_simp
              all_goals (with_reducible rfl)
            try simp only [Act.put, List.setIfInBounds_toArray, List.set_cons_zero, List.set_cons_succ]
            refine wpAnyH_done (by kernel_rfl) ?_ _
            refine NoPanic.normal ?_
            go_wp2
            go_roundw
            case rel => exact ⟨q + 1, by omega, by go_num, ⟨gg, cap, _, rfl, Fn.out⟩, S.out, G.out⟩
            case measure => simp [intOf]; omega
      · have hqc : ¬ c' = q := by omega
        go_wp2_with fail
        refine wp_region_noPanic ?_
        refine wp_region_held_drew (S := (fun _ => True)) (by kernel_rfl) trivial (fun hHeld => ?_)
        have O := Lib.hid (Own.drewO O3.out)
        have S := Lib.hid (HS3.out.drews)
        have G := Lib.hid (grown_drewO HG3.out)
        clear O3 HS3 HG3
        generalize w3.drew = V0 at *
        refine wpAnyH_take (i := 0) (v := ?_) (ops_getP _ _ _ rfl) (by kernel_rfl) (by kernel_rfl) (by kernel_rfl) (fun _ _ _ h => h) (Or.inl ⟨by rfl, ?_⟩) (by assumption) ?_
        rotate_left
        · intro w5 hSw
          (try dsimp only at hSw)
          go_simp
          all_goals (with_reducible rfl)
        try simp only [Act.put, List.setIfInBounds_toArray, List.set_cons_zero, List.set_cons_succ]
        refine wpAnyH_take (i := 1) (v := ?_) (ops_getP _ _ _ rfl) (by kernel_rfl) (by kernel_rfl) (by kernel_rfl) (fun _ _ _ h => h) (Or.inl ⟨by rfl, ?_⟩) (by assumption) ?_
        rotate_left
        · intro w5 hSw
          (try dsimp only at hSw)
          go_simp
          all_goals (with_reducible rfl)
        try simp only [Act.put, List.setIfInBounds_toArray, List.set_cons_zero, List.set_cons_succ]
        refine wpAnyH_take (i := 2) (v := ?_) (ops_getP _ _ _ rfl) (by kernel_rfl) (by kernel_rfl) (by kernel_rfl) (fun _ _ _ h => h) (Or.inl ⟨by rfl, ?_⟩) (by assumption) ?_
        rotate_left
        · intro w5 hSw
          (try dsimp only at hSw)
          go_simp
          all_goals (with_reducible rfl)
        try simp only [Act.put, List.setIfInBounds_toArray, List.set_cons_zero, List.set_cons_succ]
        refine wpAnyH_take (i := 4) (v := ?_) (ops_getP _ _ _ rfl) (by kernel_rfl) (by kernel_rfl) (by kernel_rfl) (fun _ _ _ h => h) (Or.inl ⟨by rfl, ?_⟩) (by assumption) ?_
        rotate_left
        · intro w5 hSw
          (try dsimp only at hSw)
          go_simp
          all_goals (with_reducible rfl)
        try simp only [Act.put, List.setIfInBounds_toArray, List.set_cons_zero, List.set_cons_succ]
        refine wpAnyH_take (i := 7) (v := ?_) (ops_getP _ _ _ rfl) (by kernel_rfl) (by kernel_rfl) (by kernel_rfl) (fun _ _ _ h => h) (Or.inl ⟨by rfl, ?_⟩) (by assumption) ?_
        rotate_left
        · intro w5 hSw
          (try dsimp only at hSw)
          go_simp
          all_goals (with_reducible rfl)
        try simp only [Act.put, List.setIfInBounds_toArray, List.set_cons_zero, List.set_cons_succ]
        refine wpAnyH_take (i := 8) (v := ?_) (ops_getP _ _ _ rfl) (by kernel_rfl) (by kernel_rfl) (by kernel_rfl) (fun _ _ _ h => h) (Or.inl ⟨by rfl, ?_⟩) (by assumption) ?_
        rotate_left
        · intro w5 hSw
          (try dsimp only at hSw)
          go_simp
          all_goals (with_reducible rfl)
        try simp only [Act.put, List.setIfInBounds_toArray, List.set_cons_zero, List.set_cons_succ]
        refine wpAnyH_take (i := 9) (v := ?_) (ops_getP _ _ _ rfl) (by kernel_rfl) (by kernel_rfl) (by kernel_rfl) (fun _ _ _ h => h) (Or.inl ⟨by rfl, ?_⟩) (by assumption) ?_
        rotate_left
        · intro w5 hSw
          (try dsimp only at hSw)
          go_simp
          all_goals (with_reducible rfl)
        try simp only [Act.put, List.setIfInBounds_toArray, List.set_cons_zero, List.set_cons_succ]
        refine wpAnyH_ready (rs := [3, 5]) (by kernel_rfl) (by simp) ?_
        refine AllReadyH.cons (ops_getP _ _ _ rfl) (fun K hK => ?_) (AllReadyH.cons (ops_getP _ _ _ rfl) (fun K hK => ?_) AllReadyH.nil)
        · go_simp
          refine (l01Own_calls (some ⟨g', 0, none⟩) q c' (L'.take q) V0 HTk.out (by omega) (fun e => by cases e) (ints_take O.out.ints)).mono ?_
          rintro e V1 ⟨Ad, cd, rfl, hO, hb⟩
          have hsd : w.heap.size ≤ V0.heap.size := G.out.size
          have hDa := Lib.hid (own_apart O.out hO (Nat.le_refl _))
          have On := Lib.hid (O.out.below hb)
          clear O
          have O := On
          clear On
          have Sn := Lib.hid (S.out.below hb)
          clear S
          have S := Sn
          clear Sn
          have Gn := Lib.hid (grown_then G.out (row2 := none) ⟨hb.os, hb.tape, hb.output, hb.size, fun k hk _ => hb.block k hk⟩ (fun k hk => by cases hk))
          clear G
          have G := Gn
          clear Gn
          have D := Lib.hid hO
          clear hO hb
          try go_simp
          refine hK.out _ _ ?_ (fun hHeld => ?_)
          · exact trivial
          clear hK K
          refine wpAnyH_ready (rs := [5]) (by kernel_rfl) (by simp) ?_
          refine AllReadyH.cons (ops_getP _ _ _ rfl) (fun K hK => ?_) AllReadyH.nil
          go_simp
          have hal : Below V1.heap.size V1 (V1.alloc (.cells #[.int .i64 (j : Int)] 2)) := (Below.refl _ _).alloc (Nat.le_refl _) _
          have hN := Box.new V1 2 #[.int .i64 (j : Int)]
          have On := Lib.hid (O.out.below hal)
          clear O
          have O := On
          clear On
          have Sn := Lib.hid (S.out.below hal)
          clear S
          have S := Sn
          clear Sn
          have Dn := Lib.hid (D.out.below hal)
          clear D
          have D := Dn
          clear Dn
          have Gn := Lib.hid (grown_then G.out (row2 := none) ⟨hal.os, hal.tape, hal.output, hal.size, fun k hk _ => hal.block k hk⟩ (fun k hk => by cases hk))
          clear G
          have G := Gn
          clear Gn
          have N := Lib.hid hN
          generalize V1.alloc (.cells #[.int .i64 (j : Int)] 2) = V2 at *
          generalize V1.heap.size = bN at *
          clear hal hN
          refine hK.out _ _ ?_ (fun hHeld => ?_)
          · exact trivial
          clear hK K
          refine wpAnyH_ready (rs := [6]) (by kernel_rfl) (by simp) ?_
          refine AllReadyH.cons (ops_getP _ _ _ rfl) (fun K hK => ?_) AllReadyH.nil
          skip
          refine step_append_lies _ (by rfl) _ _ _ (by rfl) w.heap.size 2 i0 (.int .i64 0) 1 8 Try.underlying24 hi hz0 hz1q hz2 rfl (by decide) (.slice Ad q cd) q ((L'.take q).map (Value.int .i64)) (by rfl) (show OwnG 2 1 w.heap.size V2 Ad q cd ((L'.take q).map (Value.int .i64)) from OwnG.mono (e := 2) (size := 1) D.out hsd) ⟨bN, 0, none⟩ 1 1 [.int .i64 (j : Int)] (by rfl) (by rfl) (World.news_of_block (cs := #[.int .i64 (j : Int)]) (t := 2) (fr := (0, 0)) N.out) (by simp [Value.oneCell']) (by omega) (by unfold maxLen; omega) (by omega) G.out.size V2.heap.size rfl ?_
          intro gg cap V3 hown hgrow hat hlt
          have hDbk : ∀ k, (Value.slice Ad q cd).ownBlock = some k → w.heap.size ≤ k := fun k hk => Nat.le_trans hsd (own_bk D.out k hk)
          have On := Lib.hid (O.out.kept hgrow (fun g2 h2 e => own_apart_ne hDa.out h2 e))
          clear O
          have O := On
          clear On
          have Sn := Lib.hid (S.out.grownHi hgrow (fun k hk => Nat.lt_of_lt_of_le hgw (hDbk k hk)))
          clear S
          have S := Sn
          clear Sn
          have Gn := Lib.hid (grown_then G.out hgrow hDbk)
          clear G
          have G := Gn
          clear Gn
          have P := Lib.hid (show OwnG 2 1 w.heap.size V3 (some ⟨gg, 0, none⟩) (q + 1) cap (((L'.take q) ++ [(j : Int)]).map (Value.int .i64)) from by rw [List.map_append]; exact hown)
          clear hown hgrow hat hlt D N
          refine hK.out _ _ ?_ (fun hHeld => ?_)
          · exact trivial
          clear hK K
          refine wpAnyH_ready (rs := [10]) (by kernel_rfl) (by simp) ?_
          refine AllReadyH.cons (ops_getP _ _ _ rfl) (fun K hK => ?_) AllReadyH.nil
          refine step_append_lies _ (by rfl) _ _ _ (by rfl) w.heap.size 2 i0 (.int .i64 0) 1 8 Try.underlying24 hi hz0 hz1q hz2 rfl (by decide) (.slice (some ⟨gg, 0, none⟩) (q + 1) cap) (q + 1) (((L'.take q) ++ [(j : Int)]).map (Value.int .i64)) (by rfl) P.out ⟨g', q, none⟩ (j - q) (c' - q) ((L'.drop q).map (Value.int .i64)) (by rfl) (by simp; omega) (news_drop O.out) (fun u hu => by obtain ⟨x, _, rfl⟩ := List.mem_map.1 hu; rfl) (by omega) (by unfold maxLen; omega) (by omega) G.out.size V3.heap.size rfl ?_
          intro g3 cap3 V4 hown hgrow hat hlt
          have hPbk : ∀ k, (Value.slice (some ⟨gg, 0, none⟩) (q + 1) cap).ownBlock = some k → w.heap.size ≤ k := fun k hk => by simp only [Value.ownBlock, Option.some.injEq] at hk; subst hk; exact ownG_ge P.out
          have Sn := Lib.hid (S.out.grownHi hgrow (fun k hk => Nat.lt_of_lt_of_le hgw (hPbk k hk)))
          clear S
          have S := Sn
          clear Sn
          have Gn := Lib.hid (grown_then G.out hgrow hPbk)
          clear G
          have G := Gn
          clear Gn
          have Fn := Lib.hid (show OwnG 2 1 w.heap.size V4 (some ⟨g3, 0, none⟩) (q + 1 + (j - q)) cap3 (((L'.take q) ++ [(j : Int)] ++ L'.drop q).map (Value.int .i64)) from by rw [List.map_append]; exact hown)
          clear hown hgrow hat hlt O
          refine hK.out _ _ ?_ (fun hHeld => ?_)
          · exact trivial
          clear hK K
          refine wpAnyH_take (i := 11) (v := ?_) (ops_getP _ _ _ rfl) (by kernel_rfl) (by kernel_rfl) (by kernel_rfl) (fun _ _ _ h => h) (Or.inl ⟨by rfl, ?_⟩) (by assumption) ?_
          rotate_left
          · intro w5 hSw
            (try dsimp only at hSw)
            go_simp
            all_goals (with_reducible rfl)
          try simp only [Act.put, List.setIfInBounds_toArray, List.set_cons_zero, List.set_cons_succ]
          refine wpAnyH_done (by kernel_rfl) ?_ _
          refine NoPanic.normal ?_
          have hqq : q + 1 + (j - q) = j + 1 := by omega
          rw [hqq] at Fn
          go_wp2
          try rw [hqq]
          go_roundw
          case rel => exact ⟨j + 1, by omega, by go_num, ⟨g3, cap3, _, rfl, Fn.out⟩, S.out, G.out⟩
          case measure => simp [intOf]; omega
        · go_simp
          have hal : Below V0.heap.size V0 (V0.alloc (.cells #[.int .i64 (j : Int)] 2)) := (Below.refl _ _).alloc (Nat.le_refl _) _
          have hN := Box.new V0 2 #[.int .i64 (j : Int)]
          have On := Lib.hid (O.out.below hal)
          clear O
          have O := On
          clear On
          have Sn := Lib.hid (S.out.below hal)
          clear S
          have S := Sn
          clear Sn
          have Gn := Lib.hid (grown_then G.out (row2 := none) ⟨hal.os, hal.tape, hal.output, hal.size, fun k hk _ => hal.block k hk⟩ (fun k hk => by cases hk))
          clear G
          have G := Gn
          clear Gn
          have N := Lib.hid hN
          generalize V0.alloc (.cells #[.int .i64 (j : Int)] 2) = V1 at *
          generalize V0.heap.size = bN at *
          clear hal hN
          refine hK.out _ _ ?_ (fun hHeld => ?_)
          · exact trivial
          clear hK K
          refine wpAnyH_ready (rs := [3]) (by kernel_rfl) (by simp) ?_
          refine AllReadyH.cons (ops_getP _ _ _ rfl) (fun K hK => ?_) AllReadyH.nil
          go_simp
          refine (l01Own_calls (some ⟨g', 0, none⟩) q c' (L'.take q) V1 HTk.out (by omega) (fun e => by cases e) (ints_take O.out.ints)).mono ?_
          rintro e V2 ⟨Ad, cd, rfl, hO, hb⟩
          have hsd : w.heap.size ≤ V1.heap.size := G.out.size
          have hDa := Lib.hid (own_apart O.out hO (Nat.le_refl _))
          have On := Lib.hid (O.out.below hb)
          clear O
          have O := On
          clear On
          have Sn := Lib.hid (S.out.below hb)
          clear S
          have S := Sn
          clear Sn
          have Nn := Lib.hid (N.out.below hb N.out.lt)
          clear N
          have N := Nn
          clear Nn
          have Gn := Lib.hid (grown_then G.out (row2 := none) ⟨hb.os, hb.tape, hb.output, hb.size, fun k hk _ => hb.block k hk⟩ (fun k hk => by cases hk))
          clear G
          have G := Gn
          clear Gn
          have D := Lib.hid hO
          clear hO hb
          try go_simp
          refine hK.out _ _ ?_ (fun hHeld => ?_)
          · exact trivial
          clear hK K
          refine wpAnyH_ready (rs := [6]) (by kernel_rfl) (by simp) ?_
          refine AllReadyH.cons (ops_getP _ _ _ rfl) (fun K hK => ?_) AllReadyH.nil
          skip
          refine step_append_lies _ (by rfl) _ _ _ (by rfl) w.heap.size 2 i0 (.int .i64 0) 1 8 Try.underlying24 hi hz0 hz1q hz2 rfl (by decide) (.slice Ad q cd) q ((L'.take q).map (Value.int .i64)) (by rfl) (show OwnG 2 1 w.heap.size V2 Ad q cd ((L'.take q).map (Value.int .i64)) from OwnG.mono (e := 2) (size := 1) D.out hsd) ⟨bN, 0, none⟩ 1 1 [.int .i64 (j : Int)] (by rfl) (by rfl) (World.news_of_block (cs := #[.int .i64 (j : Int)]) (t := 2) (fr := (0, 0)) N.out) (by simp [Value.oneCell']) (by omega) (by unfold maxLen; omega) (by omega) G.out.size V2.heap.size rfl ?_
          intro gg cap V3 hown hgrow hat hlt
          have hDbk : ∀ k, (Value.slice Ad q cd).ownBlock = some k → w.heap.size ≤ k := fun k hk => Nat.le_trans hsd (own_bk D.out k hk)
          have On := Lib.hid (O.out.kept hgrow (fun g2 h2 e => own_apart_ne hDa.out h2 e))
          clear O
          have O := On
          clear On
          have Sn := Lib.hid (S.out.grownHi hgrow (fun k hk => Nat.lt_of_lt_of_le hgw (hDbk k hk)))
          clear S
          have S := Sn
          clear Sn
          have Gn := Lib.hid (grown_then G.out hgrow hDbk)
          clear G
          have G := Gn
          clear Gn
          have P := Lib.hid (show OwnG 2 1 w.heap.size V3 (some ⟨gg, 0, none⟩) (q + 1) cap (((L'.take q) ++ [(j : Int)]).map (Value.int .i64)) from by rw [List.map_append]; exact hown)
          clear hown hgrow hat hlt D N
          refine hK.out _ _ ?_ (fun hHeld => ?_)
          · exact trivial
          clear hK K
          refine wpAnyH_ready (rs := [10]) (by kernel_rfl) (by simp) ?_
          refine AllReadyH.cons (ops_getP _ _ _ rfl) (fun K hK => ?_) AllReadyH.nil
          refine step_append_lies _ (by rfl) _ _ _ (by rfl) w.heap.size 2 i0 (.int .i64 0) 1 8 Try.underlying24 hi hz0 hz1q hz2 rfl (by decide) (.slice (some ⟨gg, 0, none⟩) (q + 1) cap) (q + 1) (((L'.take q) ++ [(j : Int)]).map (Value.int .i64)) (by rfl) P.out ⟨g', q, none⟩ (j - q) (c' - q) ((L'.drop q).map (Value.int .i64)) (by rfl) (by simp; omega) (news_drop O.out) (fun u hu => by obtain ⟨x, _, rfl⟩ := List.mem_map.1 hu; rfl) (by omega) (by unfold maxLen; omega) (by omega) G.out.size V3.heap.size rfl ?_
          intro g3 cap3 V4 hown hgrow hat hlt
          have hPbk : ∀ k, (Value.slice (some ⟨gg, 0, none⟩) (q + 1) cap).ownBlock = some k → w.heap.size ≤ k := fun k hk => by simp only [Value.ownBlock, Option.some.injEq] at hk; subst hk; exact ownG_ge P.out
          have Sn := Lib.hid (S.out.grownHi hgrow (fun k hk => Nat.lt_of_lt_of_le hgw (hPbk k hk)))
          clear S
          have S := Sn
          clear Sn
          have Gn := Lib.hid (grown_then G.out hgrow hPbk)
          clear G
          have G := Gn
          clear Gn
          have Fn := Lib.hid (show OwnG 2 1 w.heap.size V4 (some ⟨g3, 0, none⟩) (q + 1 + (j - q)) cap3 (((L'.take q) ++ [(j : Int)] ++ L'.drop q).map (Value.int .i64)) from by rw [List.map_append]; exact hown)
          clear hown hgrow hat hlt O
          refine hK.out _ _ ?_ (fun hHeld => ?_)
          · exact trivial
          clear hK K
          refine wpAnyH_take (i := 11) (v := ?_) (ops_getP _ _ _ rfl) (by kernel_rfl) (by kernel_rfl) (by kernel_rfl) (fun _ _ _ h => h) (Or.inl ⟨by rfl, ?_⟩) (by assumption) ?_
          rotate_left
          · intro w5 hSw
            (try dsimp only at hSw)
            go_simp
            all_goals (with_reducible rfl)
          try simp only [Act.put, List.setIfInBounds_toArray, List.set_cons_zero, List.set_cons_succ]
          refine wpAnyH_done (by kernel_rfl) ?_ _
          refine NoPanic.normal ?_
          have hqq : q + 1 + (j - q) = j + 1 := by omega
          rw [hqq] at Fn
          go_wp2
          try rw [hqq]
          go_roundw
          case rel => exact ⟨j + 1, by omega, by go_num, ⟨g3, cap3, _, rfl, Fn.out⟩, S.out, G.out⟩
          case measure => simp [intOf]; omega
    · obtain rfl : j = k := by omega
      go_wp2_with fail
      refine (l01Next_calls g A n c 24 _ hn HS1.out).mono ?_
      rintro e w9 ⟨x, rfl, hx, hS, hG⟩
      have O9a := Lib.hid (O1.out.kept hG (own_src O1.out HS1.out))
      have HS9 := Lib.hid hS
      have HG9 := Lib.hid (HG1.out.trans hG)
      have hs9 := HG9.out.size
      clear hx hS hG O1 HS1 HG1
      by_cases x0 : x = 0
      · subst x0
        obtain ⟨A9, hA9⟩ : ∃ A9, A9 = (some ⟨g', 0, none⟩ : Option Addr) := ⟨_, rfl⟩
        have O9 : Hid (Own w.heap.size w9 A9 j c' L') := by rw [hA9]; exact O9a
        have HA9 := Lib.hid hA9
        clear O9a hA9
        rw [← HA9.out]
        go_wp2_with (at_builtin; refine wpList_append_own _ rfl _ _ 24 rfl w.heap.size 2 i0 (.int .i64 0) 1 8 Try.underlying24 hi hz0 hz1q hz2 rfl (by decide) _ _ _ rfl (OwnG.alloc (show OwnG 2 1 w.heap.size w9 A9 j c' (L'.map (Value.int .i64)) from O9.out) _) ⟨w9.heap.size, 0, none⟩ 1 1 [.int .i64 0] rfl rfl (cell_one_new _ _ _) (by simp [Value.oneCell']) (by unfold maxLen; omega) (by omega) (by simp; omega) ?_; intro v' w6 hown' hgrow _; obtain ⟨A6, c6, rfl⟩ := ownG_shape hown'; have HP := Lib.hid (Own.pushed O9.out hgrow hown'); have HS6 := Lib.hid (HS9.out.grownRow O9.out (by omega) hgrow); have HGR := Lib.hid hgrow; clear hown' hgrow)
        go_wp2
        go_ret
        exact ⟨_, _, _, _, rfl, HP.out.1, by omega, HS6.out, grown_then (grown_alloc HG9.out _) HGR.out (fun k hk => by have := own_bk O9.out k hk; omega)⟩
      · have e0 : (x == 0) = false := by simpa using x0
        clear x0
        by_cases x1 : x = 1
        · subst x1
          obtain ⟨ad, hA, had, hcl⟩ := O9a.out.ints (j - 1) (by have := HLn.out; omega)
          injection hA with hA
          subst hA
          have ec : ((j : Int) - 1) = ((j - 1 : Nat) : Int) := by omega
          have hj0 : (0 : Int) ≤ ((j - 1 : Nat) : Int) := by omega
          have hj1 : ((j - 1 : Nat) : Int) < (j : Int) := by omega
          have ew : IntKind.i64.wrap ((j : Int) - 1) = ((j - 1 : Nat) : Int) := by rw [ec]; exact IntWalk.i64_in _ (by omega)
          have ew2 : wrap64 ((j : Int) - 1) = ((j - 1 : Nat) : Int) := by rw [ec]; exact IntWalk.wrap64_in _ (by omega)
          rw [add_zeroO] at hcl
          generalize L'.getD (j - 1) 0 = lv at *
          have EC := Lib.hid ec
          clear ec
          go_wp2_with fail
          have hlt9 := HS9.out.lt
          refine (l01Pick_calls g A n c _ 3 _ [-1, (j : Int), lv] _ hn (by omega) (by omega) rfl (ints_new w9 2 _) (fun ad e => by injection e with e; subst e; simp only; omega) (HS9.out.alloc _)).mono ?_
          rintro e w10 ⟨pp, rfl, _, hS, hG⟩
          have O10a := O9a.out.below ((Below.refl _ _).alloc (Nat.le_refl _) (.cells (([-1, (j : Int), lv] : List Int).map (Value.int .i64)).toArray 2))
          have O10 := Lib.hid (O10a.kept hG (own_src O10a (HS9.out.alloc _)))
          have HS10 := Lib.hid hS
          have HG10 := Lib.hid ((grown_alloc HG9.out _).trans hG)
          clear hS hG O10a hcl
          have hst := World.ownsRow.stored O10.out 0 (.int .i64 pp)
          have hg9 := ownG_ge (e := 2) (size := 1) O10.out
          obtain ⟨s1, s2⟩ := hst
          rw [← List.map_set] at s1
          have HS1' := Lib.hid (show Own w.heap.size (w10.setCell ⟨g', 0, none⟩ (.int .i64 pp)) (some ⟨g', 0, none⟩) j c' (L'.set 0 pp) from s1)
          have HS2' := Lib.hid (HS10.out.grownHi s2 (fun k hk => by injection hk with hk; omega))
          have HG2' := Lib.hid (grown_then HG10.out s2 (fun k hk => by injection hk with hk; omega))
          obtain ⟨ad2, hA2, _, hcl2⟩ := O10.out.ints 0 (by have := HLn.out; omega)
          injection hA2 with hA2
          subst hA2
          rw [add_zeroO] at hcl2
          have hfz := World.ownsRow.frozenAt O10.out 0
          have hj00 : (0 : Nat) < j := by omega
          have hj01 : (0 : Int) < (j : Int) := by omega
          generalize L'.getD 0 0 = l0 at *
          clear s1 s2
          go_wp2
          go_ret
          exact ⟨_, _, _, _, rfl, HS1'.out, by omega, HS2'.out, HG2'.out⟩
        · have e1 : (x == 1) = false := by simpa using x1
          clear x1
          go_wp2
          go_ret
          exact ⟨_, _, _, _, rfl, O9a.out, by omega, HS9.out, HG9.out⟩

end Go.Proofs.Ytfdjlgpdbgmdkaa
