/- Contracts: what the law FnDistances draws from its code: two states. · FnTop: two states under the draw: what stays so behind a throw and an append. · Contracts: the great laws' helpers over moves and states. · Contracts: the walk of the great law FnTop, of a code of at most 4096 bytes. -/
import Derived.Test.YtbcgomimfgggnaaPk10
import Derived.Test.YtbcgomimfgggnaaPk7
import Derived.Test.YtbcgomimfgggnaaPk1
import Derived.Deep.Cut
import Derived.Deep.RegionLaw
import Derived.BigQuiet
import Derived.Test.YtbcgomimfgggnaaPk4
import Derived.IntWalk
import Derived.Deep.RegionHeld3
import Derived.Deep.AppendLies
namespace Go.Proofs.Ytbcgomimfgggnaa
open Go.RowKit
set_option linter.unusedVariables false
set_option maxRecDepth 100000

/-- Two states that have been drawn. -/
def RetTw2 (w : World) (e : Ending) (w' : World) : Prop :=
  ∃ (p : Int) (A' : Option Addr) (m c' : Nat) (L : List Int) (q : Int) (B' : Option Addr) (k d' : Nat) (M : List Int), e = .returned (.tuple #[.agg #[.int .i64 p, .slice A' m c'], .agg #[.int .i64 q, .slice B' k d']]) ∧ Own w.heap.size w' A' m c' L ∧ m ≤ 10 ∧ Own w.heap.size w' B' k d' M ∧ k ≤ 10 ∧ Below w.heap.size w w'
theorem put2t {B r s : Nat} {w : World} {A : Option Addr} {n c : Nat} {xs : List Value} {cs ds : Array Value} {u0 u1 v0 v1 : Value} (h : OwnG 2 1 B w A n c xs) (hR : Box w r 30 cs) (hS : Box w s 30 ds) (hne : s ≠ r) :
    OwnG 2 1 B ((((w.setCell ⟨r, 0, none⟩ u0).setCell ⟨r, 1, none⟩ u1).setCell ⟨s, 0, none⟩ v0).setCell ⟨s, 1, none⟩ v1) A n c xs := by
  have h2 := (h.setBoxed hR (by decide) 0 u0).setBoxed (hR.set 0 u0) (by decide) 1 u1
  have s2 := (hS.other (a := ⟨r, 0, none⟩) hne u0).other (a := ⟨r, 1, none⟩) hne u1
  exact (h2.setBoxed s2 (by decide) 0 v0).setBoxed (s2.set 0 v0) (by decide) 1 v1
theorem state_len9 {p : Int} {L : List Int} (h : stateB p L = true) : L.length ≤ 8 := (state_facts h rfl).2.2.1

set_option maxHeartbeats 40000000 in
theorem l02Two_ret (A : Option Addr) (n c : Nat) (w : World) (hn : n ≤ 4096) (hA : By w A n) (hl : ∀ ad, A = some ad → 0 < n → ad.block < w.heap.size) :
    Calls Try.prog 49 #[.slice A n c] w (RetTw2 w) := by
  have hbal : Below w.heap.size w ((w.alloc (.cells #[.int .i64 0, .slice none 0 0] 30)).alloc (.cells #[.int .i64 0, .slice none 0 0] 30)) := ((Below.refl _ _).alloc (Nat.le_refl _) _).alloc (by simp) _
  have x0 := (Box.new w 30 #[.int .i64 0, .slice none 0 0]).alloc (.cells #[.int .i64 0, .slice none 0 0] 30)
  have y0 : Box ((w.alloc (.cells #[.int .i64 0, .slice none 0 0] 30)).alloc (.cells #[.int .i64 0, .slice none 0 0] 30)) (w.heap.size + 1) 30 #[.int .i64 0, .slice none 0 0] := by
    have := Box.new (w.alloc (.cells #[.int .i64 0, .slice none 0 0] 30)) 30 #[.int .i64 0, .slice none 0 0]
    rw [World.size_alloc] at this
    exact this
  have hs0 : ((w.alloc (.cells #[.int .i64 0, .slice none 0 0] 30)).alloc (.cells #[.int .i64 0, .slice none 0 0] 30)).heap.size = w.heap.size + 2 := by simp
  have R0 := Lib.hid x0
  have S0 := Lib.hid y0
  have HB0 := Lib.hid hbal
  have HN := Lib.hid hn
  have hA0 := Lib.hid (hA.below hbal)
  have hl0 : Hid (∀ ad, A = some ad → 0 < n → ad.block < ((w.alloc (.cells #[.int .i64 0, .slice none 0 0] 30)).alloc (.cells #[.int .i64 0, .slice none 0 0] 30)).heap.size) := fun ad e h0 => by rw [hs0]; have := hl ad e h0; omega
  clear x0 y0 hbal hA hl hn
  go_enter Try.func49, Try.ntmps49
  go_wp2_with fail
  generalize ((w.alloc (.cells #[.int .i64 0, .slice none 0 0] 30)).alloc (.cells #[.int .i64 0, .slice none 0 0] 30)) = W0 at *
  refine (l01From_calls A n c W0 HN.out hA0.out hl0.out).mono ?_
  rintro e w1 ⟨g, rfl, hgB, hS, hb⟩
  rw [hs0] at hgB
  have HS1 := Lib.hid hS
  have R1 := Lib.hid (R0.out.below hb R0.out.lt)
  have S1 := Lib.hid (S0.out.below hb S0.out.lt)
  have HB1 := Lib.hid (HB0.out.trans (hb.mono HB0.out.size))
  clear hS hb R0 S0 HB0 hA0 hl0 hs0
  go_wp2_with fail
  refine (l02Draw_ret g A n c w1 HN.out HS1.out).mono ?_
  rintro e w2 ⟨p, Ax, m, cx, L, rfl, hO, hm, _, hS, hG⟩
  have hal : Below w2.heap.size w2 (w2.alloc (.cells #[.int .i64 p, .slice Ax m cx] 30)) := (Below.refl _ _).alloc (Nat.le_refl _) _
  have hbx := Box.new w2 30 #[.int .i64 p, .slice Ax m cx]
  have HS2 := Lib.hid (hS.below hal)
  have r2 := R1.out.grown hG (by intro e; injection e with e; omega)
  have s2 := S1.out.grown hG (by intro e; injection e with e; omega)
  have R2 := Lib.hid (r2.below hal r2.lt)
  have S2 := Lib.hid (s2.below hal s2.lt)
  have hb2 := HB1.out.trans (grown_below hG (by omega) HB1.out.size)
  have HB2 := Lib.hid (hb2.trans (hal.mono hb2.size))
  have O2 := Lib.hid (OwnG.alloc (OwnG.mono (show OwnG 2 1 w1.heap.size w2 Ax m cx (L.map (Value.int .i64)) from hO) HB1.out.size) (.cells #[.int .i64 p, .slice Ax m cx] 30))
  have X2 := Lib.hid hbx
  have HLL := Lib.hid (show L.length = m from Own.len hO)
  have hgx : g < w2.heap.size := hS.lt
  clear hO hb2 hal hbx HS1 R1 S1 HB1 hS hG r2 s2
  obtain ⟨x0, x1, xf0, xf1⟩ := X2.out.two
  go_wp2_with fail
  generalize hW2 : w2.alloc (.cells #[.int .i64 p, .slice Ax m cx] 30) = W2 at *
  have hzX : W2.heap.size = w2.heap.size + 1 := by rw [← hW2, World.size_alloc]
  clear hW2
  generalize w2.heap.size = bx at *
  refine (l01Is_calls Ax m cx p L W2 HLL.out (by omega) (intsW O2.out)).mono ?_
  rintro e w3 ⟨rfl, hb⟩
  have HS3 := Lib.hid (HS2.out.below hb)
  have R3 := Lib.hid (R2.out.below hb R2.out.lt)
  have S3 := Lib.hid (S2.out.below hb S2.out.lt)
  have X3 := Lib.hid (X2.out.below hb X2.out.lt)
  have O3 := Lib.hid (OwnG.below O2.out hb)
  have HB3 := Lib.hid (HB2.out.trans (hb.mono HB2.out.size))
  have hz3 := hb.size
  clear hb x0 x1 xf0 xf1 HS2 R2 S2 X2 O2 HB2
  cases hst : stateB p L with
  | false =>
    obtain ⟨x0, x1, xf0, xf1⟩ := X3.out.two
    go_wp2_with fail
    go_upto_region 4 with (fail)
    go_region_law (go_simp; go_at_call 78; refine (l02Draw_ret g A n c w3.drew HN.out (Src.drews HS3.out)).mono ?_; rintro e w' ⟨q, Bd, kk, cd, LL, rfl, hO, hkk, _, hS, hG⟩; have Rn := R3.out.grown (w' := w') (w := w3.drew) hG (by intro e; injection e with e; omega); have Sn := S3.out.grown (w' := w') (w := w3.drew) hG (by intro e; injection e with e; omega); have Xn := X3.out.grown (w' := w') (w := w3.drew) hG (by intro e; injection e with e; omega); obtain ⟨q0, q1, _, _⟩ := Xn.two; obtain ⟨r0, r1, rf0, rf1⟩ := Rn.two; obtain ⟨s0, s1, sf0, sf1⟩ := Sn.two; try dsimp only)
    all_goals (
      have Rm := Lib.hid Rn
      have Sm := Lib.hid Sn
      have HBm := Lib.hid (HB3.out.drew.trans (grown_below hG (by omega) (show w.heap.size ≤ w3.drew.heap.size from HB3.out.size)))
      have Lm := Lib.hid (OwnG.kept (show Own w.heap.size w3.drew Ax m cx L from O3.out) hG (own_src (show Own w.heap.size w3.drew Ax m cx L from O3.out) (Src.drews HS3.out)))
      have Pm := Lib.hid (OwnG.mono hO (show w.heap.size ≤ w3.drew.heap.size from HB3.out.size))
      clear Rn Sn Xn hG hO x0 x1 xf0 xf1 q0 q1
      go_wp2
      all_goals (refine bodyPost_ret (v := .tuple #[.agg #[.int .i64 p, .slice Ax m cx], .agg #[.int .i64 q, .slice Bd kk cd]]) (by simp [results, Try.results49, go_sem, r0, r1, s0, s1]) rfl ⟨p, Ax, m, cx, L, q, Bd, kk, cd, LL, rfl, put2t Lm.out Rm.out Sm.out (by omega), hm, put2t Pm.out Rm.out Sm.out (by omega), hkk, (((HBm.out.setCell (Nat.le_refl _) _).setCell (Nat.le_refl _) _).setCell (Nat.le_succ _) _).setCell (Nat.le_succ _) _⟩))
  | true =>
    have h8 := state_len9 hst
    rw [HLL.out] at h8
    go_wp2_with fail
    refine (l01Next_calls g A n c 24 _ HN.out HS3.out).mono ?_
    rintro e w4 ⟨v, rfl, hv, hS, hG⟩
    have HS4 := Lib.hid hS
    have R4 := Lib.hid (R3.out.grown hG (by intro e; injection e with e; omega))
    have S4 := Lib.hid (S3.out.grown hG (by intro e; injection e with e; omega))
    have X4 := Lib.hid (X3.out.grown hG (by intro e; injection e with e; omega))
    have O4 := Lib.hid (OwnG.kept O3.out hG (own_src (show Own w.heap.size w3 Ax m cx L from O3.out) HS3.out))
    have HB4 := Lib.hid (HB3.out.trans (grown_below hG (by omega) HB3.out.size))
    have hz4 := hG.size
    clear hS hG HS3 R3 S3 X3 O3 HB3 hst
    obtain ⟨x0, x1, xf0, xf1⟩ := X4.out.two
    by_cases h0 : v = 0
    · subst h0
      go_wp2_with fail
      go_upto_region 4 with (fail)
      go_region_law (go_simp; go_at_call 78; refine (l02Draw_ret g A n c w4.drew HN.out (Src.drews HS4.out)).mono ?_; rintro e w' ⟨q, Bd, kk, cd, LL, rfl, hO, hkk, _, hS, hG⟩; have Rn := R4.out.grown (w' := w') (w := w4.drew) hG (by intro e; injection e with e; omega); have Sn := S4.out.grown (w' := w') (w := w4.drew) hG (by intro e; injection e with e; omega); have Xn := X4.out.grown (w' := w') (w := w4.drew) hG (by intro e; injection e with e; omega); obtain ⟨q0, q1, _, _⟩ := Xn.two; obtain ⟨r0, r1, rf0, rf1⟩ := Rn.two; obtain ⟨s0, s1, sf0, sf1⟩ := Sn.two; try dsimp only)
      all_goals (
        have Rm := Lib.hid Rn
        have Sm := Lib.hid Sn
        have HBm := Lib.hid (HB4.out.drew.trans (grown_below hG (by omega) (show w.heap.size ≤ w4.drew.heap.size from HB4.out.size)))
        have Lm := Lib.hid (OwnG.kept (show Own w.heap.size w4.drew Ax m cx L from O4.out) hG (own_src (show Own w.heap.size w4.drew Ax m cx L from O4.out) (Src.drews HS4.out)))
        have Pm := Lib.hid (OwnG.mono hO (show w.heap.size ≤ w4.drew.heap.size from HB4.out.size))
        clear Rn Sn Xn hG hO x0 x1 xf0 xf1 q0 q1
        go_wp2
        all_goals (refine bodyPost_ret (v := .tuple #[.agg #[.int .i64 p, .slice Ax m cx], .agg #[.int .i64 q, .slice Bd kk cd]]) (by simp [results, Try.results49, go_sem, r0, r1, s0, s1]) rfl ⟨p, Ax, m, cx, L, q, Bd, kk, cd, LL, rfl, put2t Lm.out Rm.out Sm.out (by omega), hm, put2t Pm.out Rm.out Sm.out (by omega), hkk, (((HBm.out.setCell (Nat.le_refl _) _).setCell (Nat.le_refl _) _).setCell (Nat.le_succ _) _).setCell (Nat.le_succ _) _⟩))
    · have ht : (v == 0) = false := by simpa using h0
      clear h0
      go_wp2_with fail
      go_upto_region 5 with (fail)
      go_region_law (go_simp; go_at_call 80; refine (l01DrawOf_calls g A n c 3 m w4.drew HN.out (Src.drews HS4.out) (by omega) (by omega)).mono ?_; rintro e w' ⟨Bd, cd, LL, rfl, hO, _, hS, hG⟩; have Rn := R4.out.grown (w' := w') (w := w4.drew) hG (by intro e; injection e with e; omega); have Sn := S4.out.grown (w' := w') (w := w4.drew) hG (by intro e; injection e with e; omega); have Xn := X4.out.grown (w' := w') (w := w4.drew) hG (by intro e; injection e with e; omega); obtain ⟨q0, q1, _, _⟩ := Xn.two; obtain ⟨r0, r1, rf0, rf1⟩ := Rn.two; obtain ⟨s0, s1, sf0, sf1⟩ := Sn.two; try dsimp only)
      all_goals (
        have Rm := Lib.hid Rn
        have Sm := Lib.hid Sn
        have HBm := Lib.hid (HB4.out.drew.trans (grown_below hG (by omega) (show w.heap.size ≤ w4.drew.heap.size from HB4.out.size)))
        have Lm := Lib.hid (OwnG.kept (show Own w.heap.size w4.drew Ax m cx L from O4.out) hG (own_src (show Own w.heap.size w4.drew Ax m cx L from O4.out) (Src.drews HS4.out)))
        have Pm := Lib.hid (OwnG.mono hO (show w.heap.size ≤ w4.drew.heap.size from HB4.out.size))
        clear Rn Sn Xn hG hO x0 x1 xf0 xf1 q0 q1
        go_wp2
        all_goals (refine bodyPost_ret (v := .tuple #[.agg #[.int .i64 p, .slice Ax m cx], .agg #[.int .i64 3, .slice Bd m cd]]) (by simp [results, Try.results49, go_sem, r0, r1, s0, s1]) rfl ⟨p, Ax, m, cx, L, 3, Bd, m, cd, LL, rfl, put2t Lm.out Rm.out Sm.out (by omega), hm, put2t Pm.out Rm.out Sm.out (by omega), hm, (((HBm.out.setCell (Nat.le_refl _) _).setCell (Nat.le_refl _) _).setCell (Nat.le_succ _) _).setCell (Nat.le_succ _) _⟩))

set_option maxHeartbeats 4000000 in
theorem DrawWayBetween_ret (A : Option Addr) (n c : Nat) (w : World) (hn : n ≤ 4096) (hA : By w A n) (hl : ∀ ad, A = some ad → 0 < n → ad.block < w.heap.size) :
    Calls Try.prog 17 #[.slice A n c] w (RetTw2 w) := by
  have hbal : Below w.heap.size w ((w.alloc (.cells #[.int .i64 0, .slice none 0 0] 30)).alloc (.cells #[.int .i64 0, .slice none 0 0] 30)) := ((Below.refl _ _).alloc (Nat.le_refl _) _).alloc (by simp) _
  have x0 := (Box.new w 30 #[.int .i64 0, .slice none 0 0]).alloc (.cells #[.int .i64 0, .slice none 0 0] 30)
  have y0 : Box ((w.alloc (.cells #[.int .i64 0, .slice none 0 0] 30)).alloc (.cells #[.int .i64 0, .slice none 0 0] 30)) (w.heap.size + 1) 30 #[.int .i64 0, .slice none 0 0] := by
    have := Box.new (w.alloc (.cells #[.int .i64 0, .slice none 0 0] 30)) 30 #[.int .i64 0, .slice none 0 0]
    rw [World.size_alloc] at this
    exact this
  have hs0 : ((w.alloc (.cells #[.int .i64 0, .slice none 0 0] 30)).alloc (.cells #[.int .i64 0, .slice none 0 0] 30)).heap.size = w.heap.size + 2 := by simp
  have R0 := Lib.hid x0
  have S0 := Lib.hid y0
  have HB0 := Lib.hid hbal
  have hA0 := Lib.hid (hA.below hbal)
  have hl0 : Hid (∀ ad, A = some ad → 0 < n → ad.block < ((w.alloc (.cells #[.int .i64 0, .slice none 0 0] 30)).alloc (.cells #[.int .i64 0, .slice none 0 0] 30)).heap.size) := fun ad e h0 => by rw [hs0]; have := hl ad e h0; omega
  clear x0 y0 hbal hA hl
  go_enter Try.func17, Try.ntmps17
  go_wp2_with fail
  generalize ((w.alloc (.cells #[.int .i64 0, .slice none 0 0] 30)).alloc (.cells #[.int .i64 0, .slice none 0 0] 30)) = W0 at *
  refine (l02Two_ret A n c W0 hn hA0.out hl0.out).mono ?_
  rintro e w1 ⟨p, A', m, c', L, q, B', k, d', M, rfl, hO, hm, hP, hk, hb⟩
  have R1 := Lib.hid (R0.out.below hb R0.out.lt)
  have S1 := Lib.hid (S0.out.below hb S0.out.lt)
  have HB1 := Lib.hid (HB0.out.trans (hb.mono HB0.out.size))
  have O1 := Lib.hid (OwnG.mono (show OwnG 2 1 W0.heap.size w1 A' m c' (L.map (Value.int .i64)) from hO) HB0.out.size)
  have P1 := Lib.hid (OwnG.mono (show OwnG 2 1 W0.heap.size w1 B' k d' (M.map (Value.int .i64)) from hP) HB0.out.size)
  clear hO hP hb R0 S0 HB0 hA0 hl0 hs0
  obtain ⟨r0, r1, rf0, rf1⟩ := R1.out.two
  obtain ⟨s0, s1, sf0, sf1⟩ := S1.out.two
  go_wp2
  refine bodyPost_ret (v := .tuple #[.agg #[.int .i64 p, .slice A' m c'], .agg #[.int .i64 q, .slice B' k d']]) (by simp [results, Try.results17, go_sem, r0, r1, s0, s1]) rfl ⟨p, A', m, c', L, q, B', k, d', M, rfl, put2t O1.out R1.out S1.out (by omega), hm, put2t P1.out R1.out S1.out (by omega), hk, (((HB1.out.setCell (Nat.le_refl _) _).setCell (Nat.le_refl _) _).setCell (Nat.le_succ _) _).setCell (Nat.le_succ _) _⟩

set_option maxHeartbeats 4000000 in
theorem DrawDistanceByRule_ret (A : Option Addr) (n c : Nat) (w : World) (hn : n ≤ 4096) (hA : By w A n) (hl : ∀ ad, A = some ad → 0 < n → ad.block < w.heap.size) :
    Calls Try.prog 20 #[.slice A n c] w (RetTw2 w) := by
  have hbal : Below w.heap.size w ((w.alloc (.cells #[.int .i64 0, .slice none 0 0] 30)).alloc (.cells #[.int .i64 0, .slice none 0 0] 30)) := ((Below.refl _ _).alloc (Nat.le_refl _) _).alloc (by simp) _
  have x0 := (Box.new w 30 #[.int .i64 0, .slice none 0 0]).alloc (.cells #[.int .i64 0, .slice none 0 0] 30)
  have y0 : Box ((w.alloc (.cells #[.int .i64 0, .slice none 0 0] 30)).alloc (.cells #[.int .i64 0, .slice none 0 0] 30)) (w.heap.size + 1) 30 #[.int .i64 0, .slice none 0 0] := by
    have := Box.new (w.alloc (.cells #[.int .i64 0, .slice none 0 0] 30)) 30 #[.int .i64 0, .slice none 0 0]
    rw [World.size_alloc] at this
    exact this
  have hs0 : ((w.alloc (.cells #[.int .i64 0, .slice none 0 0] 30)).alloc (.cells #[.int .i64 0, .slice none 0 0] 30)).heap.size = w.heap.size + 2 := by simp
  have R0 := Lib.hid x0
  have S0 := Lib.hid y0
  have HB0 := Lib.hid hbal
  have hA0 := Lib.hid (hA.below hbal)
  have hl0 : Hid (∀ ad, A = some ad → 0 < n → ad.block < ((w.alloc (.cells #[.int .i64 0, .slice none 0 0] 30)).alloc (.cells #[.int .i64 0, .slice none 0 0] 30)).heap.size) := fun ad e h0 => by rw [hs0]; have := hl ad e h0; omega
  clear x0 y0 hbal hA hl
  go_enter Try.func20, Try.ntmps20
  go_wp2_with fail
  generalize ((w.alloc (.cells #[.int .i64 0, .slice none 0 0] 30)).alloc (.cells #[.int .i64 0, .slice none 0 0] 30)) = W0 at *
  refine (l02Two_ret A n c W0 hn hA0.out hl0.out).mono ?_
  rintro e w1 ⟨p, A', m, c', L, q, B', k, d', M, rfl, hO, hm, hP, hk, hb⟩
  have R1 := Lib.hid (R0.out.below hb R0.out.lt)
  have S1 := Lib.hid (S0.out.below hb S0.out.lt)
  have HB1 := Lib.hid (HB0.out.trans (hb.mono HB0.out.size))
  have O1 := Lib.hid (OwnG.mono (show OwnG 2 1 W0.heap.size w1 A' m c' (L.map (Value.int .i64)) from hO) HB0.out.size)
  have P1 := Lib.hid (OwnG.mono (show OwnG 2 1 W0.heap.size w1 B' k d' (M.map (Value.int .i64)) from hP) HB0.out.size)
  clear hO hP hb R0 S0 HB0 hA0 hl0 hs0
  obtain ⟨r0, r1, rf0, rf1⟩ := R1.out.two
  obtain ⟨s0, s1, sf0, sf1⟩ := S1.out.two
  go_wp2
  refine bodyPost_ret (v := .tuple #[.agg #[.int .i64 p, .slice A' m c'], .agg #[.int .i64 q, .slice B' k d']]) (by simp [results, Try.results20, go_sem, r0, r1, s0, s1]) rfl ⟨p, A', m, c', L, q, B', k, d', M, rfl, put2t O1.out R1.out S1.out (by omega), hm, put2t P1.out R1.out S1.out (by omega), hk, (((HB1.out.setCell (Nat.le_refl _) _).setCell (Nat.le_refl _) _).setCell (Nat.le_succ _) _).setCell (Nat.le_succ _) _⟩

end Go.Proofs.Ytbcgomimfgggnaa

namespace Go.Proofs.Ytbcgomimfgggnaa
open Go.RowKit
set_option linter.unusedVariables false
set_option maxRecDepth 100000

/-- Two states under the draw, each in a box, their lists apart; the dice in block g. -/
def TopR (B0 : Nat) (V : World) (B g bx bY : Nat) (A : Option Addr) (n c : Nat) (W : World) (Ax : Option Addr) (j cx : Nat) (L : List Int) (Ay : Option Addr) (k cy : Nat) (M : List Int) : Prop :=
  Box W bx 30 #[.int .i64 3, .slice Ax j cx] ∧ Box W bY 30 #[.int .i64 3, .slice Ay k cy] ∧ Own B W Ax j cx L ∧ Own B W Ay k cy M ∧ (∀ b, Ax = some ⟨b, 0, none⟩ → Ay ≠ some ⟨b, 0, none⟩) ∧ Dic W g A n c ∧ Below B0 V W ∧ (B ≤ W.heap.size ∧ B0 ≤ g ∧ g < B ∧ B ≤ bx ∧ B ≤ bY ∧ bx ≠ bY)
section
variable {B0 : Nat} {V : World} {B g bx bY : Nat} {A : Option Addr} {n c : Nat} {W W' : World} {Ax : Option Addr} {j cx : Nat} {L : List Int} {Ay : Option Addr} {k cy : Nat} {M : List Int}
theorem TopR.swap (h : TopR B0 V B g bx bY A n c W Ax j cx L Ay k cy M) : TopR B0 V B g bY bx A n c W Ay k cy M Ax j cx L := by
  obtain ⟨h1, h2, h3, h4, h5, h6, h7, h8⟩ := h
  exact ⟨h2, h1, h4, h3, fun b e e' => h5 b e' e, h6, h7, by omega⟩
theorem own_dic {B g n c m d : Nat} {w : World} {A A' : Option Addr} {L : List Int} (h : Own B w A' m d L) (hs : Dic w g A n c) : ∀ g', A' = some ⟨g', 0, none⟩ → some g ≠ some g' := by
  obtain ⟨k, x, hk, hx, hB, hA, hl⟩ := hs
  rintro g' rfl he
  injection he with he
  exact h.ne_box hB (by decide) he.symm
theorem Dic.grownRow {g n c B : Nat} {w w1 : World} {A A' : Option Addr} {m d : Nat} {L : List Int} {o : Obj} (hs : Dic w g A n c) (h : Own B w A' m d L) (hB : g < B) (hg : (w.alloc o).grownBy w1 (Value.slice A' m d).ownBlock) : Dic w1 g A n c := by
  obtain ⟨k, x, hk, hx, hX, hA, hl⟩ := hs
  have hlt := hX.lt
  have hb : Below (g + 1) w w1 := by
    refine ((Below.refl (g + 1) w).alloc (by omega) o).grown hg (by simp; omega) (fun q hq => ?_)
    have := own_bk h q hq
    omega
  exact ⟨k, x, hk, hx, hX.below hb (by omega), hA.belowAt (fun ad e h0 => by have := hl ad e h0; omega) hb, hl⟩
theorem Dic.setNew {g n c b i : Nat} {w : World} {A : Option Addr} (hs : Dic w g A n c) (hb : b ≠ g) (hlt : g < b) (u : Value) : Dic (w.setCell ⟨b, i, none⟩ u) g A n c := by
  obtain ⟨k, x, hk, hx, hX, hA, hl⟩ := hs
  exact ⟨k, x, hk, hx, hX.other (fun e => hb e.symm) u, hA.grown (grown_set w b i u) (fun ad e h0 => by have := hl ad e h0; omega), hl⟩
theorem TopR.drew (h : TopR B0 V B g bx bY A n c W Ax j cx L Ay k cy M) : TopR B0 V B g bx bY A n c W.drew Ax j cx L Ay k cy M := by
  obtain ⟨h1, h2, h3, h4, h5, h6, h7, h8⟩ := h
  exact ⟨h1, h2, h3, h4, h5, h6, h7.drew, h8⟩
/-- Behind a throw of the dice. -/
theorem TopR.thrown (h : TopR B0 V B g bx bY A n c W Ax j cx L Ay k cy M) (hG : W.grownBy W' (some g)) (hD : Dic W' g A n c) : TopR B0 V B g bx bY A n c W' Ax j cx L Ay k cy M := by
  obtain ⟨h1, h2, h3, h4, h5, h6, h7, h8⟩ := h
  have hs := hG.size
  refine ⟨h1.grown hG (by intro e; injection e with e; omega), h2.grown hG (by intro e; injection e with e; omega), h3.kept hG (own_dic h3 h6), h4.kept hG (own_dic h4 h6), h5, hD, h7.trans (grown_below hG h8.2.1 (by omega : B0 ≤ W.heap.size)), by omega⟩
/-- Behind an append to the first list, and the store. -/
theorem TopR.pushed {x : Int} {gg cap : Nat} (h : TopR B0 V B g bx bY A n c W Ax j cx L Ay k cy M) (hG : (W.alloc (.cells #[.int .i64 x] 2)).grownBy W' (Value.slice Ax j cx).ownBlock)
    (ho : W'.ownsRow B 2 1 (.slice (some ⟨gg, 0, none⟩) (j + 1) cap) (j + 1) (L.map (Value.int .i64) ++ [.int .i64 x])) (hat : (Value.slice Ax j cx).ownBlock = some gg ∨ gg = W.heap.size + 1) :
    TopR B0 V B g bx bY A n c (W'.setCell ⟨bx, 1, none⟩ (.slice (some ⟨gg, 0, none⟩) (j + 1) cap)) (some ⟨gg, 0, none⟩) (j + 1) cap (L ++ [x]) Ay k cy M ∧ Box W' bx 30 #[.int .i64 3, .slice Ax j cx] := by
  obtain ⟨h1, h2, h3, h4, h5, h6, h7, h8⟩ := h
  obtain ⟨p1, p2, p3, p4⟩ := Own.pushed h3 hG ho
  have b1 := p2 _ _ _ h1 (by decide)
  have b2 := p2 _ _ _ h2 (by decide)
  have hne : ∀ q, Ay = some ⟨q, 0, none⟩ → (Value.slice Ax j cx).ownBlock ≠ some q := by
    intro q hq hr
    rcases h3.form with ⟨rfl, rfl, rfl⟩ | ⟨q', rfl, hB, _⟩
    · simp [Value.ownBlock] at hr
    · simp only [Value.ownBlock, Option.some.injEq] at hr
      subst hr
      exact h5 _ rfl hq
  have h4' : Own B W' Ay k cy M := Own.kept (h4.below ((Below.refl _ _).alloc (Nat.le_refl _) _)) hG hne
  have hsz : B0 ≤ W.heap.size := by omega
  refine ⟨⟨b1.set 1 _, b2.other (by show bY ≠ bx; omega) _, p1.setBoxed b1 (by decide) _ _, h4'.setBoxed b1 (by decide) _ _, ?_, (h6.grownRow h3 h8.2.2.1 hG).setNew (by omega) (by omega) _, (h7.trans (p4 B0 (by omega) hsz)).setCell (by show B0 ≤ bx; omega) _, by rw [World.size_setCell]; omega⟩, b1⟩
  intro b e e'
  injection e with e
  injection e with e
  subst e
  rcases hat with hat | hat
  · exact hne _ e' hat
  · rcases h4.form with ⟨rfl, _⟩ | ⟨q, rfl, _, hlt⟩
    · cases e'
    · injection e' with e'
      injection e' with e'
      omega
end

theorem pegs_more {L : List Int} {x : Int} (h : pegsOk L) (hx : 0 ≤ x ∧ x ≤ 2) : pegsOk (L ++ [x]) := by
  intro y hy
  rcases List.mem_append.1 hy with h1 | h1
  · exact h y h1
  · rw [List.mem_singleton] at h1
    rw [h1]
    exact hx
theorem top_start {g : Nat} {A : Option Addr} {n c : Nat} {w w2 : World} (hS : Dic w2 g A n c) (hB : Below w.heap.size w w2) (hg : w.heap.size ≤ g) (hg2 : g < w2.heap.size) :
    TopR w.heap.size w w2.heap.size g (w2.heap.size + 1 + 1) (w2.heap.size + 1 + 1 + 1) A n c ((((w2.alloc (.cells #[] 2)).alloc (.cells #[] 2)).alloc (.cells #[.int .i64 3, .slice (some ⟨w2.heap.size, 0, none⟩) 0 0] 30)).alloc (.cells #[.int .i64 3, .slice (some ⟨w2.heap.size + 1, 0, none⟩) 0 0] 30)) (some ⟨w2.heap.size, 0, none⟩) 0 0 [] (some ⟨w2.heap.size + 1, 0, none⟩) 0 0 [] := by
  have a1 := Box.new w2 2 #[]
  have a2 := Box.new (w2.alloc (.cells #[] 2)) 2 #[]
  have a3 := Box.new ((w2.alloc (.cells #[] 2)).alloc (.cells #[] 2)) 30 #[.int .i64 3, .slice (some ⟨w2.heap.size, 0, none⟩) 0 0]
  have a4 := Box.new (((w2.alloc (.cells #[] 2)).alloc (.cells #[] 2)).alloc (.cells #[.int .i64 3, .slice (some ⟨w2.heap.size, 0, none⟩) 0 0] 30)) 30 #[.int .i64 3, .slice (some ⟨w2.heap.size + 1, 0, none⟩) 0 0]
  simp only [World.size_alloc] at a2 a3 a4
  refine ⟨a3.alloc _, a4, Own.emptyAt (((a1.alloc _).alloc _).alloc _) (Nat.le_refl _), Own.emptyAt ((a2.alloc _).alloc _) (by omega), ?_, (((hS.alloc _).alloc _).alloc _).alloc _, (((hB.alloc hB.size _).alloc (by simp; have := hB.size; omega) _).alloc (by simp; have := hB.size; omega) _).alloc (by simp; have := hB.size; omega) _, by simp; omega⟩
  intro b e e'
  injection e with e
  injection e with e
  injection e' with e'
  injection e' with e'
  omega

end Go.Proofs.Ytbcgomimfgggnaa

namespace Go.Proofs.Ytbcgomimfgggnaa
open Go.RowKit
set_option linter.unusedVariables false
set_option maxRecDepth 100000

theorem move_same (a b c : Int) (w : World) : (Op.equalIn 10000 69 (.agg #[.int .i64 a, .int .i64 b, .int .i64 c]) (.agg #[.int .i64 a, .int .i64 b, .int .i64 c])).run Try.prog w = .ok true w := by
  rw [show (10000 : Nat) = 9999 + 1 from rfl, run_equalIn_struct w 9999 69 _ _ (by kernel_rfl) (by kernel_rfl)]
  simp only [Program.fieldsOf, Try.underlying69]
  have u := Try.underlying2
  go_simp

set_option maxHeartbeats 1000000 in
theorem moves9_same (A A' : Option Addr) (n c c' : Nat) (M : List Mv) (w : World) (hL : M.length = n) (hn : n ≤ 1048576) (hI : Mvs w A M) (hJ : Mvs w A' M) :
    Calls Try.prog 19 #[.slice A n c, .slice A' n c'] w fun e w' => e = .returned (.bool true) ∧ ∃ m, w' = w.drewN m := by
  have HL := Lib.hid hL
  have HI := Lib.hid hI
  have HJ := Lib.hid hJ
  clear hL hI hJ
  go_enter Try.func19, Try.ntmps19
  go_wp2
  go_loopw [5] (fun i wr => ∃ k : Nat, k ≤ n ∧ i = .int .i64 k ∧ ∃ m, wr = w.drewN m) (fun i _ => n - (intOf i).toNat)
  case atStart => exact ⟨0, Nat.zero_le _, rfl, 0, rfl⟩
  case round =>
    obtain ⟨k, hk, rfl, m, rfl⟩ := hrel
    by_cases hlt : k < n
    · obtain ⟨g, rfl, hg, m0, m1, m2⟩ := HI.out k (by rw [HL.out]; exact hlt)
      obtain ⟨g', rfl, hg', q0, q1, q2⟩ := HJ.out k (by rw [HL.out]; exact hlt)
      generalize M[k]?.getD (0, 0, 0) = x at *
      obtain ⟨x1, x2, x3⟩ := x
      simp only at m0 m1 m2 q0 q1 q2
      have hi0 : (0 : Int) ≤ (k : Int) := by omega
      have hi1 : (k : Int) < (n : Int) := by omega
      have heq := move_same x1 x2 x3
      go_wp2_with fail
      go_quiet (fail)
      go_wp2
      go_roundw
      case rel => exact ⟨k + 1, by omega, by go_num, by first | exact ⟨_, rfl⟩ | exact ⟨_, World.drewN_drewN _ _ _⟩⟩
      case measure => simp [intOf]; omega
    · obtain rfl : k = n := by omega
      go_wp2
      go_ret
      exact ⟨rfl, _, rfl⟩

theorem state9_same (A A' : Option Addr) (n c c' : Nat) (p : Int) (L : List Int) (w : World) (hL : L.length = n) (hn : n ≤ 1048576) (hI : Ints w A L) (hJ : Ints w A' L) :
    Calls Try.prog 15 #[.agg #[.int .i64 p, .slice A n c], .agg #[.int .i64 p, .slice A' n c']] w fun e w' => e = .returned (.bool true) ∧ Below w.heap.size w w' := by
  have HB0 := Lib.hid (((Below.refl w.heap.size w).alloc (Nat.le_refl _) (.cells #[.int .i64 p, .slice A n c] 30)).alloc (by simp) (.cells #[.int .i64 p, .slice A' n c'] 30))
  have HI := Lib.hid (hI.below HB0.out)
  have HJ := Lib.hid (hJ.below HB0.out)
  go_enter Try.func15, Try.ntmps15
  go_wp2_with fail
  refine (likeInts_calls A A' n c n c' L L _ hL hL hn hn HI.out HJ.out).mono ?_
  rintro e w1 ⟨rfl, d, rfl⟩
  rw [show decide (L = L) = true by simp]
  go_wp2
  go_ret
  exact ⟨rfl, belowDraws HB0.out _⟩

end Go.Proofs.Ytbcgomimfgggnaa

namespace Go.Proofs.Ytbcgomimfgggnaa
open Go.RowKit
set_option linter.unusedVariables false
set_option maxRecDepth 100000

set_option maxHeartbeats 40000000 in
theorem fnTop_core (A : Option Addr) (n c : Nat) (w : World) (hn : n ≤ 4096) (hA : By w A n) (hl : ∀ ad, A = some ad → 0 < n → ad.block < w.heap.size) :
    Calls Try.prog 3 #[.slice A n c] w fun e w' => e = .returned (.bool true) ∧ Below w.heap.size w w' := by
  obtain ⟨i0, hi, hz0, hz1q, hz2⟩ := info_parts Try.infoI
  have HN := Lib.hid hn
  have HA0 := Lib.hid hA
  have HLc := Lib.hid hl
  clear hn hA hl
  go_enter Try.func3, Try.ntmps3
  go_wp2_with fail
  refine (big_no A n c _ HN.out).mono ?_
  rintro e w0 ⟨rfl, rfl⟩
  go_wp2_with fail
  refine (roll_calls A n c _ HN.out HA0.out HLc.out).mono ?_
  rintro e w1 ⟨g, rfl, hg, hS, hb⟩
  have hgl := hS.lt
  go_wp2_with fail
  refine (below_calls g A n c 7 _ HN.out hS).mono ?_
  rintro e w2 ⟨nn, rfl, ⟨hn0, _, hn7⟩, hS2, hG⟩
  have hn6 : nn ≤ 6 := by omega
  obtain ⟨N, rfl⟩ := Int.eq_ofNat_of_zero_le hn0
  have hN : N ≤ 6 := by omega
  have HB2 := Lib.hid (hb.trans (grown_below hG hg hb.size))
  have HS2 := Lib.hid hS2
  have hg2 : g < w2.heap.size := hS2.lt
  clear hb hS hS2 hG hn0 hn6 hn7 hgl HA0 HLc
  go_wp2
  generalize hW : (((w2.alloc (.cells #[] 2)).alloc (.cells #[] 2)).alloc (.cells #[.int .i64 3, .slice (some ⟨w2.heap.size, 0, none⟩) 0 0] 30)).alloc (.cells #[.int .i64 3, .slice (some ⟨w2.heap.size + 1, 0, none⟩) 0 0] 30) = W0 at *
  have h0 : TopR w.heap.size w w2.heap.size g (w2.heap.size + 1 + 1) (w2.heap.size + 1 + 1 + 1) A n c W0 (some ⟨w2.heap.size, 0, none⟩) 0 0 [] (some ⟨w2.heap.size + 1, 0, none⟩) 0 0 [] := by
    subst hW
    exact top_start HS2.out HB2.out hg hg2
  clear hW HS2 HB2
  have H0 := Lib.hid h0
  clear h0
  generalize hbx : w2.heap.size + 1 + 1 = bx at *
  generalize hby : bx + 1 = bY at *
  go_loopw [7] (fun q wr => ∃ j : Nat, j ≤ N ∧ q = .int .i64 (j : Int) ∧ ∃ (Ax : Option Addr) (cx : Nat) (L : List Int) (Ay : Option Addr) (cy : Nat) (M : List Int), Hid (TopR w.heap.size w w2.heap.size g bx bY A n c wr Ax j cx L Ay j cy M) ∧ Hid (pegsOk L) ∧ Hid (pegsOk M)) (fun q _ => N - (intOf q).toNat)
  case atStart => exact ⟨0, Nat.zero_le _, rfl, _, _, _, _, _, _, H0, Lib.hid (fun x hx => absurd hx (by simp)), Lib.hid (fun x hx => absurd hx (by simp))⟩
  case round =>
    obtain ⟨j, hj, rfl, Ax, cx, L, Ay, cy, M, HT, HP, HQ⟩ := hrel
    clear H0
    obtain ⟨xa0, xb0, xc0, xd0⟩ := HT.out.1.two
    obtain ⟨ya0, yb0, yc0, yd0⟩ := HT.out.2.1.two
    by_cases hlt : j < N
    · have hlt2 : (j : Int) < (N : Int) := by omega
      go_wp2_with fail
      go_upto_region 9 with (fail)
      go_region_law (first | (refine step_append_lies _ (by rfl) _ _ _ (by rfl) w2.heap.size 2 i0 _ 1 8 Try.underlying28 hi hz0 hz1q hz2 rfl (by decide) (.slice Ax j cx) j (L.map (Value.int .i64)) (by rfl) (OwnG.alloc (show OwnG 2 1 w2.heap.size v1 Ax j cx (L.map (Value.int .i64)) from T1.out.2.2.1) _) ⟨v1.heap.size, 0, none⟩ 1 1 [.int .i64 x] (by rfl) (by rfl) (World.news_of_block (cs := #[.int .i64 x]) (t := 2) (fr := (0, 0)) (heap_alloc_new v1 _)) (by simp [Value.oneCell']) (by omega) (by unfold maxLen; omega) (by omega) (by simp; omega) (v1.heap.size + 1) (by simp) ?_; intro g1 cap1 v2 hown1 hgrow hat hlt2; have hpu := T1.out.pushed hgrow hown1 hat; have U1 := Lib.hid hpu.1; obtain ⟨d0, d1, df0, df1⟩ := hpu.2.two; clear hpu hown1 hgrow hat hlt2) | (go_simp; go_at_call 8; refine (below_calls g A n c 3 _ HN.out (Dic.drews HT.out.2.2.2.2.2.1)).mono ?_; rintro e v1 ⟨x, rfl, ⟨hx0, _, hx3⟩, hS, hG⟩; have PX := Lib.hid (show 0 ≤ x ∧ x ≤ 2 by omega); have T1 := Lib.hid (TopR.thrown (TopR.drew HT.out) hG hS); obtain ⟨c0, c1, _, _⟩ := T1.out.1.two; obtain ⟨e0, e1, _, _⟩ := (Box.alloc T1.out.1 (.cells #[.int .i64 x] 2)).two; have hzv1 := T1.out.2.2.2.2.2.2.2.1; clear hx0 hx3 hS hG))
      all_goals (
        have V1 := U1
        clear U1 T1 HT xa0 xb0 xc0 xd0 ya0 yb0 yc0 yd0 c0 c1 e0 e1 d0 d1 df0 df1
        generalize v2.setCell ⟨bx, 1, none⟩ (.slice (some ⟨g1, 0, none⟩) (j + 1) cap1) = X1 at *
        obtain ⟨ya0, yb0, yc0, yd0⟩ := V1.out.2.1.two
        go_wp2_with fail
        go_upto_region 10 with (fail)
        go_region_law (first | (refine step_append_lies _ (by rfl) _ _ _ (by rfl) w2.heap.size 2 i0 _ 1 8 Try.underlying28 hi hz0 hz1q hz2 rfl (by decide) (.slice Ay j cy) j (M.map (Value.int .i64)) (by rfl) (OwnG.alloc (show OwnG 2 1 w2.heap.size v3 Ay j cy (M.map (Value.int .i64)) from T2.out.2.2.2.1) _) ⟨v3.heap.size, 0, none⟩ 1 1 [.int .i64 y] (by rfl) (by rfl) (World.news_of_block (cs := #[.int .i64 y]) (t := 2) (fr := (0, 0)) (heap_alloc_new v3 _)) (by simp [Value.oneCell']) (by omega) (by unfold maxLen; omega) (by omega) (by simp; omega) (v3.heap.size + 1) (by simp) ?_; intro g2 cap2 v4 hown1 hgrow hat hlt2; have hpu := T2.out.swap.pushed hgrow hown1 hat; have U2 := Lib.hid hpu.1; obtain ⟨d0, d1, df0, df1⟩ := hpu.2.two; clear hpu hown1 hgrow hat hlt2) | (go_simp; go_at_call 8; refine (below_calls g A n c 3 _ HN.out (Dic.drews V1.out.2.2.2.2.2.1)).mono ?_; rintro e v3 ⟨y, rfl, ⟨hx0, _, hx3⟩, hS, hG⟩; have PY := Lib.hid (show 0 ≤ y ∧ y ≤ 2 by omega); have T2 := Lib.hid (TopR.thrown (TopR.drew V1.out) hG hS); obtain ⟨c0, c1, _, _⟩ := T2.out.2.1.two; obtain ⟨e0, e1, _, _⟩ := (Box.alloc T2.out.2.1 (.cells #[.int .i64 y] 2)).two; have hzv3 := T2.out.2.2.2.2.2.2.2.1; clear hx0 hx3 hS hG))
        all_goals (
          go_wp2
          go_roundw
          case rel => exact ⟨j + 1, by omega, by go_num, _, _, _, _, _, _, Lib.hid U2.out.swap, Lib.hid (pegs_more HP.out PX.out), Lib.hid (pegs_more HQ.out PY.out)⟩
          case measure => simp [intOf]; omega))
    · obtain rfl : j = N := by omega
      have hnlt : ¬ (j : Int) < (j : Int) := by omega
      have HB0 := Lib.hid HT.out.2.2.2.2.2.2.1
      have HL := Lib.hid (Own.len HT.out.2.2.1)
      have HM := Lib.hid (Own.len HT.out.2.2.2.1)
      have hcL := own_capT HT.out.2.2.1
      have hcM := own_capT HT.out.2.2.2.1
      have X0 := Lib.hid (HT.out.1)
      have Y0 := Lib.hid (HT.out.2.1)
      have W0 := Lib.hid (HT.out.2.2.1.ints)
      have Z0 := Lib.hid (HT.out.2.2.2.1.ints)
      obtain ⟨D, W1, W2, WL, nl, ⟨l1, l2, l3, h800, hD⟩, g1, g2, g3, g4, g5, g6, g7, gT⟩ := top_all j L M HL.out HM.out hN HP.out HQ.out
      subst hD
      have C1 := Lib.hid g1
      have C2 := Lib.hid g2
      have C3 := Lib.hid g3
      have C4 := Lib.hid g4
      have C5 := Lib.hid g5
      have C6 := Lib.hid g6
      have C7 := Lib.hid g7
      have CT := Lib.hid gT
      have K1 := Lib.hid l1
      have K2 := Lib.hid l2
      have K3 := Lib.hid l3
      clear g1 g2 g3 g4 g5 g6 g7 gT l1 l2 l3
      clear HT HP HQ xa0 xb0 xc0 xd0 ya0 yb0 yc0 yd0 hbx hby
      obtain ⟨xa0, xb0, _, _⟩ := X0.out.two
      obtain ⟨xa1, xb1, _, _⟩ := Y0.out.two
      go_wp2_with fail
      refine (C1.out Ax cx Ay cy _ W0.out hcL.1 hcL.2 Z0.out hcM.1 hcM.2).mono ?_
      rintro e w1 ⟨rfl, hb⟩
      clear xa0 xb0 xa1 xb1
      have HB1 := Lib.hid (HB0.out.trans ((hb).mono HB0.out.size))
      have X1 := Lib.hid (X0.out.below hb X0.out.lt)
      have Y1 := Lib.hid (Y0.out.below hb Y0.out.lt)
      have W1 := Lib.hid (W0.out.below hb)
      have Z1 := Lib.hid (Z0.out.below hb)
      clear HB0 X0 Y0 W0 Z0
      clear hb
      obtain ⟨xa0, xb0, _, _⟩ := X1.out.two
      obtain ⟨xa1, xb1, _, _⟩ := Y1.out.two
      go_wp2_with fail
      refine (C2.out Ax cx Ay cy _ W1.out hcL.1 hcL.2 Z1.out hcM.1 hcM.2).mono ?_
      rintro e w2 ⟨rfl, hb⟩
      clear xa0 xb0 xa1 xb1
      have HB2 := Lib.hid (HB1.out.trans ((hb).mono HB1.out.size))
      have X2 := Lib.hid (X1.out.below hb X1.out.lt)
      have Y2 := Lib.hid (Y1.out.below hb Y1.out.lt)
      have W2 := Lib.hid (W1.out.below hb)
      have Z2 := Lib.hid (Z1.out.below hb)
      clear HB1 X1 Y1 W1 Z1
      clear hb
      obtain ⟨xa0, xb0, _, _⟩ := X2.out.two
      go_wp2_with fail
      refine (C3.out Ax cx _ W2.out).mono ?_
      rintro e w3 ⟨A3, c3, rfl, hO, hb⟩
      clear xa0 xb0
      have HB3 := Lib.hid (HB2.out.trans ((hb).mono HB2.out.size))
      have X3 := Lib.hid (X2.out.below hb X2.out.lt)
      have Y3 := Lib.hid (Y2.out.below hb Y2.out.lt)
      have W3 := Lib.hid (W2.out.below hb)
      have Z3 := Lib.hid (Z2.out.below hb)
      clear HB2 X2 Y2 W2 Z2
      have P0 := Lib.hid (hO.ints)
      clear hb
      have hc3 := own_capT hO
      clear hO
      obtain ⟨xa0, xb0, _, _⟩ := Y3.out.two
      go_wp2_with fail
      refine (C4.out Ay cy _ Z3.out).mono ?_
      rintro e w4 ⟨A4, c4, rfl, hO, hb⟩
      clear xa0 xb0
      have HB4 := Lib.hid (HB3.out.trans ((hb).mono HB3.out.size))
      have X4 := Lib.hid (X3.out.below hb X3.out.lt)
      have Y4 := Lib.hid (Y3.out.below hb Y3.out.lt)
      have W4 := Lib.hid (W3.out.below hb)
      have Z4 := Lib.hid (Z3.out.below hb)
      have P1 := Lib.hid (P0.out.below hb)
      clear HB3 X3 Y3 W3 Z3 P0
      have Q0 := Lib.hid (hO.ints)
      clear hb
      have hc4 := own_capT hO
      clear hO
      go_wp2_with fail
      refine (C5.out A3 c3 A4 c4 _ P1.out Q0.out hc3.1 hc4.1).mono ?_
      rintro e w5 ⟨rfl, hb⟩
      have HB5 := Lib.hid (HB4.out.trans ((hb).mono HB4.out.size))
      have X5 := Lib.hid (X4.out.below hb X4.out.lt)
      have Y5 := Lib.hid (Y4.out.below hb Y4.out.lt)
      have W5 := Lib.hid (W4.out.below hb)
      have Z5 := Lib.hid (Z4.out.below hb)
      have P2 := Lib.hid (P1.out.below hb)
      have Q1 := Lib.hid (Q0.out.below hb)
      clear HB4 X4 Y4 W4 Z4 P1 Q0
      clear hb
      clear P2
      clear Q1
      obtain ⟨xa0, xb0, _, _⟩ := X5.out.two
      obtain ⟨xa1, xb1, _, _⟩ := Y5.out.two
      go_wp2_with fail
      refine (C6.out Ax cx Ay cy _ W5.out hcL.1 hcL.2 Z5.out hcM.1 hcM.2).mono ?_
      rintro e w6 ⟨A5, c5, rfl, hO, hb⟩
      clear xa0 xb0 xa1 xb1
      have HB6 := Lib.hid (HB5.out.trans ((hb).mono HB5.out.size))
      have X6 := Lib.hid (X5.out.below hb X5.out.lt)
      have Y6 := Lib.hid (Y5.out.below hb Y5.out.lt)
      have W6 := Lib.hid (W5.out.below hb)
      have Z6 := Lib.hid (Z5.out.below hb)
      clear HB5 X5 Y5 W5 Z5
      have U0 := Lib.hid (hO.mvs)
      clear hb
      clear hO
      obtain ⟨xa0, xb0, _, _⟩ := X6.out.two
      go_wp2_with fail
      refine (C7.out Ax cx A5 c5 _ W6.out U0.out).mono ?_
      rintro e w7 ⟨A8, c8, rfl, hO, hb⟩
      clear xa0 xb0
      have HB7 := Lib.hid (HB6.out.trans ((hb).mono HB6.out.size))
      have X7 := Lib.hid (X6.out.below hb X6.out.lt)
      have Y7 := Lib.hid (Y6.out.below hb Y6.out.lt)
      have W7 := Lib.hid (W6.out.below hb)
      have Z7 := Lib.hid (Z6.out.below hb)
      have U1 := Lib.hid (U0.out.below hb)
      clear HB6 X6 Y6 W6 Z6 U0
      have W80 := Lib.hid (hO.ints)
      clear hb
      have hal : Below w7.heap.size w7 (w7.alloc (.cells #[.int .i64 3, .slice A8 j c8] 30)) := (Below.refl _ _).alloc (Nat.le_refl _) _
      have hbx := Box.new w7 30 #[.int .i64 3, .slice A8 j c8]
      have HB8 := Lib.hid (HB7.out.trans ((hal).mono HB7.out.size))
      have X8 := Lib.hid (X7.out.below hal X7.out.lt)
      have Y8 := Lib.hid (Y7.out.below hal Y7.out.lt)
      have W8 := Lib.hid (W7.out.below hal)
      have Z8 := Lib.hid (Z7.out.below hal)
      have U2 := Lib.hid (U1.out.below hal)
      have W81 := Lib.hid (W80.out.below hal)
      clear HB7 X7 Y7 W7 Z7 U1 W80
      have N80 := Lib.hid (hbx)
      clear hal hbx
      clear hO
      obtain ⟨xa0, xb0, _, _⟩ := N80.out.two
      obtain ⟨xa1, xb1, _, _⟩ := Y8.out.two
      go_wp2_with fail
      refine (state9_same A8 Ay j c8 cy 3 M _ HM.out (by omega) W81.out Z8.out).mono ?_
      rintro e w8 ⟨rfl, hb⟩
      clear xa0 xb0 xa1 xb1
      have HB9 := Lib.hid (HB8.out.trans ((hb).mono HB8.out.size))
      have X9 := Lib.hid (X8.out.below hb X8.out.lt)
      have Y9 := Lib.hid (Y8.out.below hb Y8.out.lt)
      have W9 := Lib.hid (W8.out.below hb)
      have Z9 := Lib.hid (Z8.out.below hb)
      have U3 := Lib.hid (U2.out.below hb)
      have W82 := Lib.hid (W81.out.below hb)
      have N81 := Lib.hid (N80.out.below hb N80.out.lt)
      clear HB8 X8 Y8 W8 Z8 U2 W81 N80
      clear hb
      clear W82
      clear N81
      clear U3
      clear C1 C2 C3 C4 C5 C6 C7 K1 K2 K3
      go_wp2
      go_loopw [22, 23, 24, 25, 26] (fun q _ _ _ _ wr => ∃ a : Nat, a ≤ 3 ∧ q = .int .i64 (a : Int) ∧ Box wr bx 30 #[.int .i64 3, .slice Ax j cx] ∧ Box wr bY 30 #[.int .i64 3, .slice Ay j cy] ∧ Ints wr Ax L ∧ Ints wr Ay M ∧ Below w.heap.size w wr) (fun q _ _ _ _ _ => 3 - (intOf q).toNat)
      case atStart => exact ⟨0, by omega, rfl, X9.out, Y9.out, W9.out, Z9.out, HB9.out⟩
      case round =>
        obtain ⟨a, ha, rfl, r1, r2, r3, r4, r5⟩ := hrel
        clear X9 Y9 W9 Z9 HB9
        have HB0 := Lib.hid r5
        have X0 := Lib.hid (r1)
        have Y0 := Lib.hid (r2)
        have W0 := Lib.hid (r3)
        have Z0 := Lib.hid (r4)
        clear r1 r2 r3 r4 r5
        by_cases h3 : a < 3
        · have hlt3 : (a : Int) < 3 := by omega
          obtain ⟨F, G, ⟨hF, hG, k1, k2, k3⟩, g1, g2⟩ := CT.out a (by omega) (by omega)
          have C1 := Lib.hid g1
          have C2 := Lib.hid g2
          clear g1 g2
          have q1 : wrap64 (F + G) = F + G := wrap_small _ (by omega) (by omega)
          have q2 : wrap64 ((nl : Int) + G) = nl + G := wrap_small _ (by omega) (by omega)
          have q3 : wrap64 ((nl : Int) + F) = nl + F := wrap_small _ (by omega) (by omega)
          have t1 : decide (F + G < (nl : Int)) = false := by simp; omega
          have t2 : decide ((nl : Int) + G < F) = false := by simp; omega
          have t3 : decide ((nl : Int) + F < G) = false := by simp; omega
          have s1 : ¬ F + G < (nl : Int) := by omega
          have s2 : ¬ (nl : Int) + G < F := by omega
          have s3 : ¬ (nl : Int) + F < G := by omega
          clear k1 k2 k3
          obtain ⟨xa0, xb0, _, _⟩ := X0.out.two
          go_wp2_with fail
          refine (C1.out Ax cx _ W0.out).mono ?_
          rintro e w9 ⟨rfl, hb⟩
          clear xa0 xb0
          have HB1 := Lib.hid (HB0.out.trans ((hb).mono HB0.out.size))
          have X1 := Lib.hid (X0.out.below hb X0.out.lt)
          have Y1 := Lib.hid (Y0.out.below hb Y0.out.lt)
          have W1 := Lib.hid (W0.out.below hb)
          have Z1 := Lib.hid (Z0.out.below hb)
          clear HB0 X0 Y0 W0 Z0
          clear hb
          obtain ⟨xa0, xb0, _, _⟩ := Y1.out.two
          go_wp2_with fail
          refine (C2.out Ay cy _ Z1.out).mono ?_
          rintro e w10 ⟨rfl, hb⟩
          clear xa0 xb0
          have HB2 := Lib.hid (HB1.out.trans ((hb).mono HB1.out.size))
          have X2 := Lib.hid (X1.out.below hb X1.out.lt)
          have Y2 := Lib.hid (Y1.out.below hb Y1.out.lt)
          have W2 := Lib.hid (W1.out.below hb)
          have Z2 := Lib.hid (Z1.out.below hb)
          clear HB1 X1 Y1 W1 Z1
          clear hb
          go_wp2
          go_roundw
          case rel => exact ⟨a + 1, by omega, by go_num, X2.out, Y2.out, W2.out, Z2.out, HB2.out⟩
          case measure => simp [intOf]; omega
        · have hlt3 : ¬ (a : Int) < 3 := by omega
          go_wp2
          go_ret
          exact ⟨rfl, HB0.out⟩

end Go.Proofs.Ytbcgomimfgggnaa
