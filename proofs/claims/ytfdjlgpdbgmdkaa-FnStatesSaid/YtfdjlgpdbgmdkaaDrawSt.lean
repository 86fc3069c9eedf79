/- Contracts: the states that a law draws from its code. -/
import Derived.Test.YtfdjlgpdbgmdkaaDraw
import Derived.Test.YtfdjlgpdbgmdkaaPerfect
import Derived.Test.YtfdjlgpdbgmdkaaOwnG
import Derived.Deep.AppendLies
import Derived.Deep.RegionLaw
namespace Go.Proofs.Ytfdjlgpdbgmdkaa
open Go.RowKit
set_option linter.unusedVariables false

theorem grown_then {w w1 w2 : World} {row row2 : Option Nat} (h : w.grownBy w1 row) (h2 : w1.grownBy w2 row2) (hr : ∀ k, row2 = some k → w.heap.size ≤ k) : w.grownBy w2 row :=
  ⟨h2.os.trans h.os, h2.tape.trans h.tape, h2.output.trans h.output, Nat.le_trans h.size h2.size, fun k hk hne => (h2.block k (Nat.lt_of_lt_of_le hk h.size) (fun e => by have := hr k e.symm; omega)).trans (h.block k hk hne)⟩
theorem grown_setNew {w w1 : World} {row : Option Nat} (h : w.grownBy w1 row) {b i : Nat} (hb : w.heap.size ≤ b) (u : Value) : w.grownBy (w1.setCell ⟨b, i, none⟩ u) row :=
  grown_then h (grown_set w1 b i u) (fun k hk => by injection hk with hk; omega)
theorem grown_alloc {w w1 : World} {row : Option Nat} (h : w.grownBy w1 row) (o : Obj) : w.grownBy (w1.alloc o) row := h.trans (World.grownBy_alloc _ _ _)
theorem own_src {B g n c m d : Nat} {w : World} {A A' : Option Addr} {L : List Int} (h : Own B w A' m d L) (hs : Src w g A n c) : ∀ g', A' = some ⟨g', 0, none⟩ → some g ≠ some g' := by
  obtain ⟨k, x, hk, hx, hB, hA, hl⟩ := hs
  rintro g' rfl he
  injection he with he
  exact h.ne_box hB (by decide) he.symm
theorem Src.grownRow {g n c B : Nat} {w w1 : World} {A A' : Option Addr} {m d : Nat} {L : List Int} {o : Obj} (hs : Src w g A n c) (h : Own B w A' m d L) (hB : g < B) (hg : (w.alloc o).grownBy w1 (Value.slice A' m d).ownBlock) : Src w1 g A n c := by
  obtain ⟨k, x, hk, hx, hX, hA, hl⟩ := hs
  refine ⟨k, x, hk, hx, OwnG.grown_box (show OwnG 2 1 B w A' m d (L.map (Value.int .i64)) from h) hg hX (by decide), ?_, hl⟩
  have hA2 := hA.below ((Below.refl w.heap.size w).alloc (Nat.le_refl _) o)
  intro j hj
  obtain ⟨ad, rfl, hlt, b, hb8, hc⟩ := hA2 j hj
  refine ⟨ad, rfl, Nat.lt_of_lt_of_le hlt hg.size, b, hb8, hg.cell hc ?_⟩
  rw [add_block]
  intro e
  have := own_bk h _ e.symm
  have := hl _ rfl (by omega)
  omega
theorem Src.setNew {g n c b i : Nat} {w : World} {A : Option Addr} (hs : Src w g A n c) (hb : b ≠ g) (hlt : g < b) (u : Value) : Src (w.setCell ⟨b, i, none⟩ u) g A n c := by
  obtain ⟨k, x, hk, hx, hX, hA, hl⟩ := hs
  exact ⟨k, x, hk, hx, hX.other (fun e => hb e.symm) u, hA.grown (grown_set w b i u) (fun ad e h0 => by have := hl ad e h0; omega), hl⟩

set_option maxHeartbeats 400000 in
theorem l01DrawSize_calls (g : Nat) (A : Option Addr) (n c : Nat) (w : World) (hn : n ≤ 4096) (h : Src w g A n c) :
    Calls Try.prog 54 #[.pointer (some ⟨g, 0, none⟩)] w fun e w' => ∃ k m : Int, e = .returned (.tuple #[.int .i64 k, .int .i64 m]) ∧ (3 ≤ k ∧ k ≤ 5) ∧ (0 ≤ m ∧ m ≤ 8) ∧ Src w' g A n c ∧ w.grownBy w' (some g) := by
  have HS0 := Lib.hid h
  clear h
  go_enter Try.func54, Try.ntmps54
  go_wp2_with fail
  have hlt := HS0.out.lt
  refine (l01Pick_calls g A n c _ 6 _ [3, 3, 3, 4, 4, 5] _ hn (by omega) (by omega) rfl (ints_new w 2 _) (fun ad e => by injection e with e; subst e; simp only; omega) (HS0.out.alloc _)).mono ?_
  rintro e w1 ⟨k, rfl, hx, hS, hG⟩
  have HS1 := Lib.hid hS
  have HG1 := Lib.hid ((World.grownBy_alloc w (.cells (([3, 3, 3, 4, 4, 5] : List Int).map (Value.int .i64)).toArray 2) _).trans hG)
  have hk : 3 ≤ k ∧ k ≤ 5 := by simp only [List.mem_cons, List.not_mem_nil, or_false] at hx; omega
  clear hx hS hG hlt HS0
  go_wp2_with fail
  have hlt := HS1.out.lt
  refine (l01Pick_calls g A n c _ 3 _ [4, 5, 5] _ hn (by omega) (by omega) rfl (ints_new w1 2 _) (fun ad e => by injection e with e; subst e; simp only; omega) (HS1.out.alloc _)).mono ?_
  rintro e w2 ⟨v, rfl, hx, hS, hG⟩
  have HS2 := Lib.hid hS
  have HG2 := Lib.hid ((grown_alloc HG1.out _).trans hG)
  have hv : 4 ≤ v ∧ v ≤ 8 := by simp only [List.mem_cons, List.not_mem_nil, or_false] at hx; omega
  clear hx hS hG hlt HS1 HG1
  by_cases h3 : k = 3
  · subst h3
    go_wp2_with fail
    have hlt := HS2.out.lt
    refine (l01Pick_calls g A n c _ 3 _ [4, 6, 8] _ hn (by omega) (by omega) rfl (ints_new w2 2 _) (fun ad e => by injection e with e; subst e; simp only; omega) (HS2.out.alloc _)).mono ?_
    rintro e w3 ⟨v2, rfl, hx, hS, hG⟩
    have HS3 := Lib.hid hS
    have HG3 := Lib.hid ((grown_alloc HG2.out _).trans hG)
    have hv2 : 4 ≤ v2 ∧ v2 ≤ 8 := by simp only [List.mem_cons, List.not_mem_nil, or_false] at hx; omega
    clear hx hS hG hlt HS2 HG2 hv
    go_wp2_with fail
    refine (l01Next_calls g A n c (v2 + 1) _ hn HS3.out).mono ?_
    rintro e w4 ⟨x, rfl, hx, hS, hG⟩
    have HS4 := Lib.hid hS
    have HG4 := Lib.hid (HG3.out.trans hG)
    clear hS hG
    go_wp2
    go_ret2
    exact ⟨_, _, rfl, by omega, by omega, HS4.out, HG4.out⟩
  · have hd : (k == 3) = false := by simpa using h3
    go_wp2_with fail
    refine (l01Next_calls g A n c (v + 1) _ hn HS2.out).mono ?_
    rintro e w4 ⟨x, rfl, hx, hS, hG⟩
    have HS4 := Lib.hid hS
    have HG4 := Lib.hid (HG2.out.trans hG)
    clear hS hG
    go_wp2
    go_ret2
    exact ⟨_, _, rfl, by omega, by omega, HS4.out, HG4.out⟩

set_option maxHeartbeats 4000000 in
theorem l01DrawOf_calls (g : Nat) (A : Option Addr) (n c : Nat) (k : Int) (m : Nat) (w : World) (hn : n ≤ 4096) (h : Src w g A n c) (hk : 1 ≤ k ∧ k ≤ 5) (hm : m ≤ 9) :
    Calls Try.prog 75 #[.pointer (some ⟨g, 0, none⟩), .int .i64 k, .int .i64 m] w fun e w' => ∃ A' c' L, e = .returned (.agg #[.int .i64 k, .slice A' m c']) ∧ Own w.heap.size w' A' m c' L ∧ (∀ x ∈ L, 0 ≤ x ∧ x ≤ k - 1) ∧ Src w' g A n c ∧ w.grownBy w' (some g) := by
  obtain ⟨i0, hi, hz0, hz1q, hz2⟩ := info_parts Try.infoI
  have hgw := h.lt
  have HS0 := Lib.hid ((h.alloc (.cells #[.int .i64 0, .slice none 0 0] 26)).alloc (.cells #[] 2))
  have X0 := Lib.hid ((Box.new w 26 #[.int .i64 0, .slice none 0 0]).alloc (.cells #[] 2))
  have Y0 : Hid (Box ((w.alloc (.cells #[.int .i64 0, .slice none 0 0] 26)).alloc (.cells #[] 2)) (w.heap.size + 1) 2 #[]) := by
    have := Box.new (w.alloc (.cells #[.int .i64 0, .slice none 0 0] 26)) 2 #[]
    rw [World.size_alloc] at this
    exact this
  have HG0 := Lib.hid (grown_alloc (grown_alloc (World.grownBy.refl w (some g)) (.cells #[.int .i64 0, .slice none 0 0] 26)) (.cells #[] 2))
  have hs0 : ((w.alloc (.cells #[.int .i64 0, .slice none 0 0] 26)).alloc (.cells #[] 2)).heap.size = w.heap.size + 2 := by simp
  clear h
  go_enter Try.func75, Try.ntmps75
  go_wp2_with fail
  generalize (w.alloc (.cells #[.int .i64 0, .slice none 0 0] 26)).alloc (.cells #[] 2) = W0 at *
  refine (l01Next_calls g A n c k _ hn HS0.out).mono ?_
  rintro e w1 ⟨v, rfl, hv, hS, hG⟩
  have hv1 : 0 ≤ v ∧ v ≤ k - 1 := by omega
  have BX := Lib.hid (Box.new w1 26 #[.int .i64 k, .slice (some ⟨w.heap.size + 1, 0, none⟩) 0 0])
  have X1 := Lib.hid ((X0.out.grown hG (by intro e; injection e with e; omega)).alloc (.cells #[.int .i64 k, .slice (some ⟨w.heap.size + 1, 0, none⟩) 0 0] 26))
  have Y1 := Lib.hid ((Y0.out.grown hG (by intro e; injection e with e; omega)).alloc (.cells #[.int .i64 k, .slice (some ⟨w.heap.size + 1, 0, none⟩) 0 0] 26))
  have HS1 := Lib.hid (hS.alloc (.cells #[.int .i64 k, .slice (some ⟨w.heap.size + 1, 0, none⟩) 0 0] 26))
  have HG1 := Lib.hid (grown_alloc (HG0.out.trans hG) (.cells #[.int .i64 k, .slice (some ⟨w.heap.size + 1, 0, none⟩) 0 0] 26))
  have hs1 : w.heap.size + 2 ≤ w1.heap.size := by have := hG.size; omega
  clear hv hS hG X0 Y0 HS0 HG0
  go_wp2_with fail
  generalize hW1 : w1.alloc (.cells #[.int .i64 k, .slice (some ⟨w.heap.size + 1, 0, none⟩) 0 0] 26) = W1 at *
  have hz1 : W1.heap.size = w1.heap.size + 1 := by rw [← hW1, World.size_alloc]
  clear hW1
  generalize w1.heap.size = bx at *
  have hlt := HS1.out.lt
  refine (l01Pick_calls g A n c _ 4 _ [1, 1, 2, 5] _ hn (by omega) (by omega) rfl (by have := ints_new W1 2 [1, 1, 2, 5]; rw [hz1] at this; exact this) (fun ad e => by injection e with e; subst e; simp only; omega) (HS1.out.alloc _)).mono ?_
  rintro e w2 ⟨st, rfl, hx, hS, hG⟩
  have HS2 := Lib.hid hS
  have BX2 := Lib.hid ((BX.out.alloc _).grown hG (by intro e; injection e with e; omega))
  have X2 := Lib.hid ((X1.out.alloc _).grown hG (by intro e; injection e with e; omega))
  have Y2 := Lib.hid ((Y1.out.alloc _).grown hG (by intro e; injection e with e; omega))
  have HG2 := Lib.hid ((grown_alloc HG1.out _).trans hG)
  clear hx hS hG hlt X1 Y1 BX HS1 HG1
  go_wp2
  go_loopw [2, 8] (fun q v wr => ∃ (j : Nat) (u : Int), j ≤ m ∧ q = .int .i64 ((m : Int) - j) ∧ v = .int .i64 u ∧ (0 ≤ u ∧ u ≤ k - 1) ∧ (∃ A' c' L, Box wr bx 26 #[.int .i64 k, .slice A' j c'] ∧ Own (w.heap.size + 1) wr A' j c' L ∧ ∀ x ∈ L, 0 ≤ x ∧ x ≤ k - 1) ∧ Box wr w.heap.size 26 #[.int .i64 0, .slice none 0 0] ∧ Src wr g A n c ∧ w.grownBy wr (some g)) (fun q _ _ => (intOf q).toNat)
  case atStart => exact ⟨0, v, Nat.zero_le _, by simp, rfl, hv1, ⟨_, _, [], BX2.out, Own.emptyAt Y2.out (Nat.le_refl _), fun x hx => absurd hx (by simp)⟩, X2.out, HS2.out, HG2.out⟩
  case round =>
    obtain ⟨j, u, hj, rfl, rfl, hu, ⟨A', c', L, hb, ho, hl⟩, hx, hs, hg⟩ := hrel
    have BX := Lib.hid hb
    have O := Lib.hid ho
    have HLM := Lib.hid hl
    have X := Lib.hid hx
    have HS := Lib.hid hs
    have HG := Lib.hid hg
    have hsz := hg.size
    clear hb ho hl hx hs hg BX2 X2 Y2 HS2 HG2
    by_cases hlt : j < m
    · have hlt2 : (0 : Int) < (m : Int) - j := by omega
      go_wp2_with fail
      refine (l01Next_calls g A n c st _ hn HS.out).mono ?_
      rintro e w3 ⟨x, rfl, hx, hS, hG⟩
      have hne : ∀ b, g < b → some b ≠ some g := fun b hb e => by injection e with e; omega
      have HS3 := Lib.hid hS
      have BX3 := Lib.hid (BX.out.grown hG (hne _ (by omega)))
      have X3 := Lib.hid (X.out.grown hG (hne _ hgw))
      have O3 := Lib.hid (O.out.kept hG (own_src O.out HS.out))
      have HG3 := Lib.hid (HG.out.trans hG)
      have hsz3 := HG3.out.size
      clear hx hS hG BX X O HS HG
      by_cases hx0 : x = 0
      · have ht : (x == 0) = true := by simpa using hx0
        clear hx0
        go_wp2_with fail
        refine (l01Next_calls g A n c k _ hn HS3.out).mono ?_
        rintro e w4 ⟨u2, rfl, hx, hS, hG⟩
        have hu2 : 0 ≤ u2 ∧ u2 ≤ k - 1 := by omega
        have HS4 := Lib.hid hS
        have BX4 := Lib.hid (BX3.out.grown hG (hne _ (by omega)))
        have X4 := Lib.hid (X3.out.grown hG (hne _ hgw))
        have O4 := Lib.hid (O3.out.kept hG (own_src O3.out HS3.out))
        have HG4 := Lib.hid (HG3.out.trans hG)
        have hsz4 := HG4.out.size
        clear hx hS hG BX3 X3 O3 HS3 HG3 ht
        obtain ⟨b0, b1, bf0, bf1⟩ := BX4.out.two
        go_wp2_with (at_builtin; refine wpList_append_own _ rfl _ _ 24 rfl (w.heap.size + 1) 2 i0 (.int .i64 0) 1 8 Try.underlying24 hi hz0 hz1q hz2 rfl (by decide) _ _ _ rfl (OwnG.alloc (show OwnG 2 1 (w.heap.size + 1) w4 A' j c' (L.map (Value.int .i64)) from O4.out) _) ⟨w4.heap.size, 0, none⟩ 1 1 [.int .i64 u2] rfl rfl (cell_one_new _ _ _) (by simp [Value.oneCell']) (by unfold maxLen; omega) (by omega) (by simp; omega) ?_; intro v' w6 hown' hgrow _; obtain ⟨A6, c6, rfl⟩ := ownG_shape hown'; have HP := Lib.hid (Own.pushed O4.out hgrow hown'); have HS6 := Lib.hid (HS4.out.grownRow O4.out (by omega) hgrow); have HGR := Lib.hid hgrow; have HBc := (HP.out.2.1 _ _ _ BX4.out (by decide)).two; clear hown' hgrow)
        obtain ⟨d0, d1, df0, df1⟩ := HBc
        go_wp2
        go_roundw
        case rel =>
          refine ⟨j + 1, u2, by omega, by go_num, rfl, hu2, ⟨A6, c6, L ++ [u2], (HP.out.2.1 _ _ _ BX4.out (by decide)).set 1 _, HP.out.1.setBoxed (HP.out.2.1 _ _ _ BX4.out (by decide)) (by decide) _ _, ?_⟩, (HP.out.2.1 _ _ _ X4.out (by decide)).other (by show w.heap.size ≠ bx; omega) _, HS6.out.setNew (by omega) (by omega) _, ?_⟩
          · intro x hx
            rcases List.mem_append.1 hx with h | h
            · exact HLM.out x h
            · simp only [List.mem_singleton] at h
              rw [h]
              exact hu2
          · exact grown_setNew (grown_then (grown_alloc HG4.out _) HGR.out (fun k hk => by have := own_bk O4.out k hk; omega)) (by omega) _
        case measure => simp [intOf]; omega
      · have ht : (x == 0) = false := by simpa using hx0
        clear hx0
        obtain ⟨b0, b1, bf0, bf1⟩ := BX3.out.two
        go_wp2_with (at_builtin; refine wpList_append_own _ rfl _ _ 24 rfl (w.heap.size + 1) 2 i0 (.int .i64 0) 1 8 Try.underlying24 hi hz0 hz1q hz2 rfl (by decide) _ _ _ rfl (OwnG.alloc (show OwnG 2 1 (w.heap.size + 1) w3 A' j c' (L.map (Value.int .i64)) from O3.out) _) ⟨w3.heap.size, 0, none⟩ 1 1 [.int .i64 u] rfl rfl (cell_one_new _ _ _) (by simp [Value.oneCell']) (by unfold maxLen; omega) (by omega) (by simp; omega) ?_; intro v' w6 hown' hgrow _; obtain ⟨A6, c6, rfl⟩ := ownG_shape hown'; have HP := Lib.hid (Own.pushed O3.out hgrow hown'); have HS6 := Lib.hid (HS3.out.grownRow O3.out (by omega) hgrow); have HGR := Lib.hid hgrow; have HBc := (HP.out.2.1 _ _ _ BX3.out (by decide)).two; clear hown' hgrow)
        obtain ⟨d0, d1, df0, df1⟩ := HBc
        go_wp2
        go_roundw
        case rel =>
          refine ⟨j + 1, u, by omega, by go_num, rfl, hu, ⟨A6, c6, L ++ [u], (HP.out.2.1 _ _ _ BX3.out (by decide)).set 1 _, HP.out.1.setBoxed (HP.out.2.1 _ _ _ BX3.out (by decide)) (by decide) _ _, ?_⟩, (HP.out.2.1 _ _ _ X3.out (by decide)).other (by show w.heap.size ≠ bx; omega) _, HS6.out.setNew (by omega) (by omega) _, ?_⟩
          · intro x hx
            rcases List.mem_append.1 hx with h | h
            · exact HLM.out x h
            · simp only [List.mem_singleton] at h
              rw [h]
              exact hu
          · exact grown_setNew (grown_then (grown_alloc HG3.out _) HGR.out (fun k hk => by have := own_bk O3.out k hk; omega)) (by omega) _
        case measure => simp [intOf]; omega
    · obtain rfl : j = m := by omega
      have hlt2 : ¬ (0 : Int) < (j : Int) - j := by omega
      obtain ⟨b0, b1, _, _⟩ := BX.out.two
      obtain ⟨r0, r1, rf0, rf1⟩ := X.out.two
      go_wp2
      refine bodyPost_ret (v := .agg #[.int .i64 k, .slice A' j c']) (by simp [results, Try.results75, go_sem, r0, r1]) rfl ⟨A', c', rfl, L, ?_, HLM.out, ?_, ?_⟩
      · exact ((O.out.setBoxed X.out (by decide) _ _).setBoxed (X.out.set _ _) (by decide) _ _).mono (by omega)
      · exact (HS.out.setNew (by omega) hgw _).setNew (by omega) hgw _
      · exact grown_setNew (grown_setNew HG.out (Nat.le_refl _) _) (Nat.le_refl _) _

/-- A state that has been drawn into memory of the call's own. -/
def RetDr (w : World) (g : Nat) (A : Option Addr) (n c : Nat) (Q : Int → List Int → Prop) (e : Ending) (w' : World) : Prop :=
  ∃ (p : Int) (A' : Option Addr) (m c' : Nat) (L : List Int), e = .returned (.agg #[.int .i64 p, .slice A' m c']) ∧ Own w.heap.size w' A' m c' L ∧ m ≤ 10 ∧ Q p L ∧ Src w' g A n c ∧ w.grownBy w' (some g)
def okDr (p : Int) (L : List Int) : Prop := (3 ≤ p ∧ p ≤ 5) ∧ (∀ x ∈ L, 0 ≤ x ∧ x ≤ p - 1) ∧ L.length ≤ 8

set_option maxHeartbeats 1000000 in
theorem l01Draw_ret (g : Nat) (A : Option Addr) (n c : Nat) (w : World) (hn : n ≤ 4096) (h : Src w g A n c) :
    Calls Try.prog 67 #[.pointer (some ⟨g, 0, none⟩)] w (RetDr w g A n c okDr) := by
  have hgw := h.lt
  have HS0 := Lib.hid (h.alloc (.cells #[.int .i64 0, .slice none 0 0] 26))
  have X0 := Lib.hid (Box.new w 26 #[.int .i64 0, .slice none 0 0])
  have HG0 := Lib.hid (grown_alloc (World.grownBy.refl w (some g)) (.cells #[.int .i64 0, .slice none 0 0] 26))
  have hne : some w.heap.size ≠ some g := fun e => by injection e with e; omega
  clear h
  go_enter Try.func67, Try.ntmps67
  go_wp2_with fail
  refine (l01DrawSize_calls g A n c _ hn HS0.out).mono ?_
  rintro e w1 ⟨k, m, rfl, hk, hm, hS, hG⟩
  have HS1 := Lib.hid hS
  have X1 := Lib.hid (X0.out.grown hG hne)
  have HG1 := Lib.hid (HG0.out.trans hG)
  have hs1 := HG1.out.size
  clear hS hG HS0 X0 HG0
  obtain ⟨j, rfl⟩ := Int.eq_ofNat_of_zero_le hm.1
  go_wp2_with fail
  refine (l01DrawOf_calls g A n c k j _ hn HS1.out (by omega) (by omega)).mono ?_
  rintro e w2 ⟨A', c', L, rfl, hO, hl, hS, hG⟩
  have HS2 := Lib.hid hS
  have X2 := Lib.hid (X1.out.grown hG hne)
  have HG2 := Lib.hid (HG1.out.trans hG)
  have O2 := Lib.hid (hO.mono hs1)
  have HLM := Lib.hid hl
  have HLn := Lib.hid (Own.len hO)
  clear hS hG hO hl HS1 X1 HG1
  obtain ⟨r0, r1, rf0, rf1⟩ := X2.out.two
  go_wp2
  refine bodyPost_ret (v := .agg #[.int .i64 k, .slice A' j c']) (by simp [results, Try.results67, go_sem, r0, r1]) rfl ⟨k, A', j, c', L, rfl, ?_, by omega, ⟨hk, HLM.out, by have := HLn.out; omega⟩, ?_, ?_⟩
  · exact (O2.out.setBoxed X2.out (by decide) _ _).setBoxed (X2.out.set _ _) (by decide) _ _
  · exact (HS2.out.setNew (by omega) hgw _).setNew (by omega) hgw _
  · exact grown_setNew (grown_setNew HG2.out (Nat.le_refl _) _) (Nat.le_refl _) _

end Go.Proofs.Ytfdjlgpdbgmdkaa
