/- Contracts: the states that a law draws: one that seldom is none. -/
import Derived.Test.YtfdjlgpdbgmdkaaDrawSt
import Derived.Test.YtfdjlgpdbgmdkaaDone
namespace Go.Proofs.Ytfdjlgpdbgmdkaa
open Go.RowKit
set_option linter.unusedVariables false

def RetBd (B0 : Nat) (w : World) (g : Nat) (A : Option Addr) (n c : Nat) (e : Ending) (w' : World) : Prop :=
  ∃ (p' : Int) (A' : Option Addr) (m' c' : Nat) (L' : List Int), e = .returned (.agg #[.int .i64 p', .slice A' m' c']) ∧ Own B0 w' A' m' c' L' ∧ m' ≤ 10 ∧ True ∧ Src w' g A n c ∧ w.grownBy w' (some g)
def lenVB : Value → Nat
  | .slice _ n _ => n
  | _ => 0

set_option maxHeartbeats 8000000 in
theorem l01Bad_ret (g : Nat) (A : Option Addr) (n c : Nat) (p : Int) (Ax : Option Addr) (m cx B0 : Nat) (L : List Int) (w : World) (hn : n ≤ 4096) (h : Src w g A n c) (hO : Own B0 w Ax m cx L) (hm : m ≤ 9) (hB0 : B0 ≤ w.heap.size) (hgB : g < B0) :
    Calls Try.prog 63 #[.pointer (some ⟨g, 0, none⟩), .agg #[.int .i64 p, .slice Ax m cx]] w (RetBd B0 w g A n c) := by
  obtain ⟨i0, hi, hz0, hz1q, hz2⟩ := info_parts Try.infoI
  have hgw := h.lt
  have HLn := Lib.hid (Own.len hO)
  have hAx : Ax = none → cx = 0 := fun e => by
    rcases hO.form with ⟨_, _, h3⟩ | ⟨_, h, _⟩
    · exact h3
    · rw [e] at h; cases h
  have hal : Below w.heap.size w ((w.alloc (.cells #[.int .i64 p, .slice Ax m cx] 26)).alloc (.cells #[.int .i64 0, .slice none 0 0] 26)) := ((Below.refl _ _).alloc (Nat.le_refl _) _).alloc (by simp) _
  have X0 := Lib.hid ((Box.new w 26 #[.int .i64 p, .slice Ax m cx]).alloc (.cells #[.int .i64 0, .slice none 0 0] 26))
  have Z0 : Hid (Box ((w.alloc (.cells #[.int .i64 p, .slice Ax m cx] 26)).alloc (.cells #[.int .i64 0, .slice none 0 0] 26)) (w.heap.size + 1) 26 #[.int .i64 0, .slice none 0 0]) := by
    have := Box.new (w.alloc (.cells #[.int .i64 p, .slice Ax m cx] 26)) 26 #[.int .i64 0, .slice none 0 0]
    rw [World.size_alloc] at this
    exact this
  have HS0 := Lib.hid ((h.alloc (.cells #[.int .i64 p, .slice Ax m cx] 26)).alloc (.cells #[.int .i64 0, .slice none 0 0] 26))
  have O0 := Lib.hid (hO.below hal)
  have HG0 := Lib.hid (grown_alloc (grown_alloc (World.grownBy.refl w (some g)) (.cells #[.int .i64 p, .slice Ax m cx] 26)) (.cells #[.int .i64 0, .slice none 0 0] 26))
  have hs0 : ((w.alloc (.cells #[.int .i64 p, .slice Ax m cx] 26)).alloc (.cells #[.int .i64 0, .slice none 0 0] 26)).heap.size = w.heap.size + 2 := by simp
  have hne : ∀ b, g < b → some b ≠ some g := fun b hb e => by injection e with e; omega
  clear h hO hal
  go_enter Try.func63, Try.ntmps63
  go_wp2_with fail
  generalize (w.alloc (.cells #[.int .i64 p, .slice Ax m cx] 26)).alloc (.cells #[.int .i64 0, .slice none 0 0] 26) = W0 at *
  refine (l01Own_calls Ax m cx L _ HLn.out (by omega) hAx O0.out.ints).mono ?_
  rintro e w1 ⟨Ad, cd, rfl, hO, hb⟩
  have X1 := Lib.hid (X0.out.below hb X0.out.lt)
  have Z1 := Lib.hid (Z0.out.below hb Z0.out.lt)
  have HS1 := Lib.hid (HS0.out.below hb)
  have O1 := Lib.hid (O0.out.below hb)
  have D1 := Lib.hid hO
  have HG1 := Lib.hid (grown_then HG0.out (row2 := none) ⟨hb.os, hb.tape, hb.output, hb.size, fun k hk _ => hb.block k hk⟩ (fun k hk => by cases hk))
  have hs1 := hb.size
  clear hO hb X0 Z0 HS0 O0 HG0
  go_wp2_with fail
  refine (l01Next_calls g A n c 50 _ hn HS1.out).mono ?_
  rintro e w2 ⟨x, rfl, hx, hS, hG⟩
  have HS2 := Lib.hid hS
  have X2 := Lib.hid (X1.out.grown hG (hne _ (by omega)))
  have Z2 := Lib.hid (Z1.out.grown hG (hne _ (by omega)))
  have O2 := Lib.hid (O1.out.kept hG (own_src O1.out HS1.out))
  have D2 := Lib.hid (D1.out.kept hG (own_src D1.out HS1.out))
  have HG2 := Lib.hid (HG1.out.trans hG)
  have hs2 := hG.size
  clear hS hG X1 Z1 HS1 O1 D1 HG1
  by_cases h0 : x = 0
  · subst h0
    go_wp2_with fail
    have hlt := HS2.out.lt
    refine (l01Pick_calls g A n c _ 4 _ [0, 2, 6, 1099511627776] _ hn (by omega) (by omega) rfl (ints_new w2 2 _) (fun ad e => by injection e with e; subst e; simp only; omega) (HS2.out.alloc _)).mono ?_
    rintro e w3 ⟨pp, rfl, hx3, hS, hG⟩
    have HS3 := Lib.hid hS
    have X3 := Lib.hid ((X2.out.alloc _).grown hG (hne _ (by omega)))
    have Z3 := Lib.hid ((Z2.out.alloc _).grown hG (hne _ (by omega)))
    have D3a := D2.out.below ((Below.refl _ _).alloc (Nat.le_refl _) (.cells (([0, 2, 6, 1099511627776] : List Int).map (Value.int .i64)).toArray 2))
    have D3 := Lib.hid (D3a.kept hG (own_src D3a (HS2.out.alloc _)))
    have HG3 := Lib.hid ((grown_alloc HG2.out _).trans hG)
    clear hx3 hS hG X2 Z2 HS2 O2 D2 HG2 D3a
    obtain ⟨x0, x1, _, _⟩ := X3.out.two
    obtain ⟨r0, r1, rf0, rf1⟩ := Z3.out.two
    go_wp2
    have hZ2 := Lib.hid ((Z3.out.set 0 (.int .i64 pp)).set 1 (.slice Ad m cd))
    obtain ⟨q0, q1, _, _⟩ := Box.two (show Box _ (w.heap.size + 1) 26 #[.int .i64 pp, .slice Ad m cd] from hZ2.out)
    refine bodyPost_ret (v := .agg #[.int .i64 pp, .slice Ad m cd]) (by simp [results, Try.results63, go_sem, q0, q1]) rfl ⟨pp, Ad, _, cd, L, rfl, ?_, by omega, trivial, ?_, ?_⟩
    · exact ((D3.out.mono (by omega)).setBoxed Z3.out (by decide) _ _).setBoxed (Z3.out.set _ _) (by decide) _ _
    · exact (HS3.out.setNew (by omega) (by omega) _).setNew (by omega) (by omega) _
    · exact grown_setNew (grown_setNew HG3.out (by omega) _) (by omega) _
  · have e0 : (x == 0) = false := by simpa using h0
    by_cases h1 : x = 1
    · subst h1
      obtain ⟨x0, x1, _, _⟩ := X2.out.two
      go_wp2_with (at_builtin; refine wpList_append_own _ rfl _ _ 24 rfl W0.heap.size 2 i0 (.int .i64 0) 1 8 Try.underlying24 hi hz0 hz1q hz2 rfl (by decide) _ _ _ rfl (OwnG.alloc (show OwnG 2 1 W0.heap.size w2 Ad m cd (L.map (Value.int .i64)) from D2.out) _) ⟨w2.heap.size, 0, none⟩ 1 1 [.int .i64 p] rfl rfl (cell_one_new _ _ _) (by simp [Value.oneCell']) (by unfold maxLen; omega) (by omega) (by simp; omega) ?_; intro v' w6 hown' hgrow _; obtain ⟨A6, c6, rfl⟩ := ownG_shape hown'; have HP := Lib.hid (Own.pushed D2.out hgrow hown'); have HS6 := Lib.hid (HS2.out.grownRow D2.out (by omega) hgrow); have X6 := Lib.hid (HP.out.2.1 _ _ _ X2.out (by decide)); have Z6 := Lib.hid (HP.out.2.1 _ _ _ Z2.out (by decide)); have HG6 := Lib.hid (grown_then (grown_alloc HG2.out _) hgrow (fun k hk => by have := own_bk D2.out k hk; omega)); have X6c := X6.out.two; have Z6c := Z6.out.two; clear hown' hgrow)
      obtain ⟨x0, x1, _, _⟩ := X6c
      obtain ⟨r0, r1, rf0, rf1⟩ := Z6c
      go_wp2
      have hZ2 := Lib.hid ((Z6.out.set 0 (.int .i64 p)).set 1 (.slice A6 (m + 1) c6))
      obtain ⟨q0, q1, _, _⟩ := Box.two (show Box _ (w.heap.size + 1) 26 #[.int .i64 p, .slice A6 (m + 1) c6] from hZ2.out)
      refine bodyPost_ret (v := .agg #[.int .i64 p, .slice A6 (m + 1) c6]) (by simp [results, Try.results63, go_sem, q0, q1]) rfl ⟨p, A6, _, c6, (L ++ [p]), rfl, ?_, by omega, trivial, ?_, ?_⟩
      · exact ((HP.out.1.mono (by omega)).setBoxed Z6.out (by decide) _ _).setBoxed (Z6.out.set _ _) (by decide) _ _
      · exact (HS6.out.setNew (by omega) (by omega) _).setNew (by omega) (by omega) _
      · exact grown_setNew (grown_setNew HG6.out (by omega) _) (by omega) _
    · have e1 : (x == 1) = false := by simpa using h1
      by_cases h2 : x = 2
      · subst h2
        go_wp2
        go_loopw [5] (fun v wr => ∃ (A' : Option Addr) (q c' : Nat) (L' : List Int), v = .slice A' q c' ∧ q ≤ 9 ∧ Own W0.heap.size wr A' q c' L' ∧ Box wr w.heap.size 26 #[.int .i64 p, .slice Ax m cx] ∧ Box wr (w.heap.size + 1) 26 #[.int .i64 0, .slice none 0 0] ∧ Src wr g A n c ∧ w.grownBy wr (some g) ∧ W0.heap.size ≤ wr.heap.size) (fun v _ => 9 - lenVB v)
        case atStart => exact ⟨Ad, m, cd, L, rfl, hm, D2.out, X2.out, Z2.out, HS2.out, HG2.out, by omega⟩
        case round =>
          obtain ⟨A', q, c', L', rfl, hq, hD, hX, hZ, hS, hG, hs7⟩ := hrel
          have D7 := Lib.hid hD
          have X7 := Lib.hid hX
          have Z7 := Lib.hid hZ
          have HS7 := Lib.hid hS
          have HG7 := Lib.hid hG
          clear hD hX hZ hS hG
          by_cases hlt : q < 9
          · have hlt2 : (q : Int) < 9 := by omega
            go_wp2_with (at_builtin; refine wpList_append_own _ rfl _ _ 24 rfl W0.heap.size 2 i0 (.int .i64 0) 1 8 Try.underlying24 hi hz0 hz1q hz2 rfl (by decide) _ _ _ rfl (OwnG.alloc (show OwnG 2 1 W0.heap.size wr A' q c' (L'.map (Value.int .i64)) from D7.out) _) ⟨wr.heap.size, 0, none⟩ 1 1 [.int .i64 0] rfl rfl (cell_one_new _ _ _) (by simp [Value.oneCell']) (by unfold maxLen; omega) (by omega) (by simp; omega) ?_; intro v' w6 hown' hgrow _; obtain ⟨A6, c6, rfl⟩ := ownG_shape hown'; have HP := Lib.hid (Own.pushed D7.out hgrow hown'); have HS6 := Lib.hid (HS7.out.grownRow D7.out (by omega) hgrow); have X6 := Lib.hid (HP.out.2.1 _ _ _ X7.out (by decide)); have Z6 := Lib.hid (HP.out.2.1 _ _ _ Z7.out (by decide)); have HG6 := Lib.hid (grown_then (grown_alloc HG7.out _) hgrow (fun k hk => by have := own_bk D7.out k hk; omega)); have hs6 := hgrow.size; rw [World.size_alloc] at hs6; clear hown' hgrow)
            go_roundw
            case rel => exact ⟨A6, q + 1, c6, L' ++ [0], rfl, by omega, HP.out.1, X6.out, Z6.out, HS6.out, HG6.out, by omega⟩
            case measure => simp [lenVB]; omega
          · have hlt2 : ¬ (q : Int) < 9 := by omega
            obtain ⟨x0, x1, _, _⟩ := X7.out.two
            obtain ⟨r0, r1, rf0, rf1⟩ := Z7.out.two
            go_wp2
            have hZ2 := Lib.hid ((Z7.out.set 0 (.int .i64 p)).set 1 (.slice A' q c'))
            obtain ⟨q0, q1, _, _⟩ := Box.two (show Box _ (w.heap.size + 1) 26 #[.int .i64 p, .slice A' q c'] from hZ2.out)
            refine bodyPost_ret (v := .agg #[.int .i64 p, .slice A' q c']) (by simp [results, Try.results63, go_sem, q0, q1]) rfl ⟨p, A', _, c', L', rfl, ?_, by omega, trivial, ?_, ?_⟩
            · exact ((D7.out.mono (by omega)).setBoxed Z7.out (by decide) _ _).setBoxed (Z7.out.set _ _) (by decide) _ _
            · exact (HS7.out.setNew (by omega) (by omega) _).setNew (by omega) (by omega) _
            · exact grown_setNew (grown_setNew HG7.out (by omega) _) (by omega) _
      · have e2 : (x == 2) = false := by simpa using h2
        by_cases h3 : x = 3
        · subst h3
          by_cases hm0 : 0 < m
          · have hm1 : (0 : Int) < (m : Int) := by omega
            obtain ⟨gd, rfl⟩ : ∃ gd, Ad = some ⟨gd, 0, none⟩ := by
              rcases D2.out.form with ⟨_, hh, _⟩ | ⟨gd, hh, _⟩
              · omega
              · exact ⟨gd, hh⟩
            have hgd : W0.heap.size ≤ gd := by
              rcases D2.out.form with ⟨hh, _⟩ | ⟨g', hh, hb, _⟩
              · cases hh
              · cases hh; exact hb
            obtain ⟨x0, _, _, _⟩ := X2.out.two
            go_wp2_with fail
            go_region_held3 (fun w' => w'.cell? ⟨w.heap.size, 0, none⟩ = some (.int .i64 p))
              (first | exact x0 | exact (X2.out.alloc _).two.1 | exact X3.out.two.1 | exact (X3.out.alloc _).two.1 | exact X4.out.two.1 | exact (X4.out.other (show w.heap.size ≠ gd by omega) _).two.1 | go_keep | fail)
              (first
              | (go_at_call 55; (with_reducible refine (l01Next_calls g A n c (m : Int) _ hn ?_).mono ?_); (exact (show Src w2.drew g A n c from HS2.out)); rintro e w3 ⟨y, rfl, hy, hS3, hG3⟩; obtain ⟨yn, rfl⟩ := Int.eq_ofNat_of_zero_le hy.1; have hy0 : (0 : Int) ≤ (yn : Int) := (by omega); have hy1 : (yn : Int) < (m : Int) := (by omega); have hy2 : yn < m := (by omega); have X3 := Lib.hid ((show Box w2.drew _ _ _ from X2.out).grown hG3 (hne _ (by omega))); have Z3 := Lib.hid ((show Box w2.drew _ _ _ from Z2.out).grown hG3 (hne _ (by omega))); have D3 := Lib.hid ((show Own _ w2.drew _ _ _ _ from D2.out).kept hG3 (own_src (show Own _ w2.drew _ _ _ _ from D2.out) (show Src w2.drew g A n c from HS2.out))); have HS3 := Lib.hid hS3; have HG3 := Lib.hid ((show w.grownBy w2.drew (some g) from grown_drew HG2.out).trans hG3); have hz3 := hG3.size; clear hS3)
              | (go_at_call 55; (with_reducible refine (l01Next_calls g A n c (m : Int) _ hn ?_).mono ?_); (exact (show Src (w2.drew.alloc (.cells (([-1, p] : List Int).map (Value.int .i64)).toArray 2)) g A n c from HS2.out.alloc _)); rintro e w3 ⟨y, rfl, hy, hS3, hG3⟩; obtain ⟨yn, rfl⟩ := Int.eq_ofNat_of_zero_le hy.1; have hy0 : (0 : Int) ≤ (yn : Int) := (by omega); have hy1 : (yn : Int) < (m : Int) := (by omega); have hy2 : yn < m := (by omega); have X3 := Lib.hid ((show Box (w2.drew.alloc (.cells (([-1, p] : List Int).map (Value.int .i64)).toArray 2)) _ _ _ from X2.out.alloc _).grown hG3 (hne _ (by omega))); have Z3 := Lib.hid ((show Box (w2.drew.alloc (.cells (([-1, p] : List Int).map (Value.int .i64)).toArray 2)) _ _ _ from Z2.out.alloc _).grown hG3 (hne _ (by omega))); have D3 := Lib.hid ((show Own _ (w2.drew.alloc (.cells (([-1, p] : List Int).map (Value.int .i64)).toArray 2)) _ _ _ _ from OwnG.alloc (show OwnG 2 1 W0.heap.size w2.drew (some ⟨gd, 0, none⟩) m cd (L.map (Value.int .i64)) from D2.out) _).kept hG3 (own_src (show Own _ (w2.drew.alloc (.cells (([-1, p] : List Int).map (Value.int .i64)).toArray 2)) _ _ _ _ from OwnG.alloc (show OwnG 2 1 W0.heap.size w2.drew (some ⟨gd, 0, none⟩) m cd (L.map (Value.int .i64)) from D2.out) _) (show Src (w2.drew.alloc (.cells (([-1, p] : List Int).map (Value.int .i64)).toArray 2)) g A n c from HS2.out.alloc _))); have HS3 := Lib.hid hS3; have HG3 := Lib.hid ((show w.grownBy (w2.drew.alloc (.cells (([-1, p] : List Int).map (Value.int .i64)).toArray 2)) (some g) from grown_alloc (grown_drew HG2.out) _).trans hG3); have hz3 := hG3.size; clear hS3)
              | (go_at_call 56; (with_reducible refine (l01Pick_calls g A n c _ 2 _ [-1, p] _ hn (by omega) (by omega) rfl ?_ ?_ ?_).mono ?_); (exact ints_new w3 2 [-1, p]); (intro ad e; injection e with e; subst e; simp only; have hw2d : w2.drew.heap.size = w2.heap.size := rfl; omega); (exact (show Src (w3.alloc (.cells (([-1, p] : List Int).map (Value.int .i64)).toArray 2)) g A n c from HS3.out.alloc _)); rintro e w4 ⟨v, rfl, hv, hS4, hG4⟩; have X4 := Lib.hid ((show Box (w3.alloc (.cells (([-1, p] : List Int).map (Value.int .i64)).toArray 2)) _ _ _ from X3.out.alloc _).grown hG4 (hne _ (by omega))); have Z4 := Lib.hid ((show Box (w3.alloc (.cells (([-1, p] : List Int).map (Value.int .i64)).toArray 2)) _ _ _ from Z3.out.alloc _).grown hG4 (hne _ (by omega))); have D4 := Lib.hid ((show Own _ (w3.alloc (.cells (([-1, p] : List Int).map (Value.int .i64)).toArray 2)) _ _ _ _ from OwnG.alloc (show OwnG 2 1 W0.heap.size w3 (some ⟨gd, 0, none⟩) m cd (L.map (Value.int .i64)) from D3.out) _).kept hG4 (own_src (show Own _ (w3.alloc (.cells (([-1, p] : List Int).map (Value.int .i64)).toArray 2)) _ _ _ _ from OwnG.alloc (show OwnG 2 1 W0.heap.size w3 (some ⟨gd, 0, none⟩) m cd (L.map (Value.int .i64)) from D3.out) _) (show Src (w3.alloc (.cells (([-1, p] : List Int).map (Value.int .i64)).toArray 2)) g A n c from HS3.out.alloc _))); have HS4 := Lib.hid hS4; have HG4 := Lib.hid ((show w.grownBy (w3.alloc (.cells (([-1, p] : List Int).map (Value.int .i64)).toArray 2)) (some g) from grown_alloc HG3.out _).trans hG4); have hold := World.ownsRow.cellAt D4.out yn (by omega); have hfz := World.ownsRow.frozenAt D4.out yn; rw [List.getElem?_map, List.getElem?_eq_getElem (by rw [HLn.out]; omega)] at hold; clear hS4 hv)
              | (go_at_call 56; (with_reducible refine (l01Pick_calls g A n c _ 2 _ [-1, p] _ hn (by omega) (by omega) rfl ?_ ?_ ?_).mono ?_); (exact Ints.grown (ints_new w2.drew 2 [-1, p]) hG3 (fun ad e => by injection e with e; subst e; simp only; have : w2.drew.heap.size = w2.heap.size := rfl; omega)); (intro ad e; injection e with e; subst e; simp only; have hw2d : w2.drew.heap.size = w2.heap.size := rfl; omega); (exact (show Src w3 g A n c from HS3.out)); rintro e w4 ⟨v, rfl, hv, hS4, hG4⟩; have X4 := Lib.hid ((show Box w3 _ _ _ from X3.out).grown hG4 (hne _ (by omega))); have Z4 := Lib.hid ((show Box w3 _ _ _ from Z3.out).grown hG4 (hne _ (by omega))); have D4 := Lib.hid ((show Own _ w3 _ _ _ _ from D3.out).kept hG4 (own_src (show Own _ w3 _ _ _ _ from D3.out) (show Src w3 g A n c from HS3.out))); have HS4 := Lib.hid hS4; have HG4 := Lib.hid ((show w.grownBy w3 (some g) from HG3.out).trans hG4); have hold := World.ownsRow.cellAt D4.out yn (by omega); have hfz := World.ownsRow.frozenAt D4.out yn; rw [List.getElem?_map, List.getElem?_eq_getElem (by rw [HLn.out]; omega)] at hold; clear hS4 hv)
              | fail)
            all_goals
              have D5 : Hid (Own W0.heap.size (w4.setCell ⟨gd, yn, none⟩ (.int .i64 v)) (some ⟨gd, 0, none⟩) m cd (L.set yn v)) := by
                have st := (World.ownsRow.stored D4.out yn (.int .i64 v)).1
                rw [← List.map_set] at st
                exact st
              have X5 := Lib.hid (X4.out.other (a := ⟨gd, yn, none⟩) (show w.heap.size ≠ gd by omega) (.int .i64 v))
              have Z5 := Lib.hid (Z4.out.other (a := ⟨gd, yn, none⟩) (show w.heap.size + 1 ≠ gd by omega) (.int .i64 v))
              have HS5 := Lib.hid (HS4.out.setNew (b := gd) (i := yn) (by omega) (by omega) (.int .i64 v))
              have HG5 := Lib.hid (grown_setNew HG4.out (b := gd) (i := yn) (by omega) (.int .i64 v))
              clear hold hfz X4 Z4 D4 HS4 HG4 X3 Z3 D3 HS3 HG3 x0
              obtain ⟨x0, x1, _, _⟩ := X5.out.two
              obtain ⟨r0, r1, rf0, rf1⟩ := Z5.out.two
              go_wp2
              have hZ2 := Lib.hid ((Z5.out.set 0 (.int .i64 p)).set 1 (.slice (some ⟨gd, 0, none⟩) m cd))
              obtain ⟨q0, q1, _, _⟩ := Box.two (show Box _ (w.heap.size + 1) 26 #[.int .i64 p, .slice (some ⟨gd, 0, none⟩) m cd] from hZ2.out)
              refine bodyPost_ret (v := .agg #[.int .i64 p, .slice (some ⟨gd, 0, none⟩) m cd]) (by simp [results, Try.results63, go_sem, q0, q1]) rfl ⟨p, (some ⟨gd, 0, none⟩), _, cd, (L.set yn v), rfl, ?_, by omega, trivial, ?_, ?_⟩
              · exact ((D5.out.mono (by omega)).setBoxed Z5.out (by decide) _ _).setBoxed (Z5.out.set _ _) (by decide) _ _
              · exact (HS5.out.setNew (by omega) (by omega) _).setNew (by omega) (by omega) _
              · exact grown_setNew (grown_setNew HG5.out (by omega) _) (by omega) _
          · obtain rfl : m = 0 := by omega
            have hm1 : ¬ (0 : Int) < ((0 : Nat) : Int) := by omega
            obtain ⟨x0, x1, _, _⟩ := X2.out.two
            obtain ⟨r0, r1, rf0, rf1⟩ := Z2.out.two
            go_wp2
            have hZ2 := Lib.hid ((Z2.out.set 0 (.int .i64 p)).set 1 (.slice Ad 0 cd))
            obtain ⟨q0, q1, _, _⟩ := Box.two (show Box _ (w.heap.size + 1) 26 #[.int .i64 p, .slice Ad 0 cd] from hZ2.out)
            refine bodyPost_ret (v := .agg #[.int .i64 p, .slice Ad 0 cd]) (by simp [results, Try.results63, go_sem, q0, q1]) rfl ⟨p, Ad, _, cd, L, rfl, ?_, by omega, trivial, ?_, ?_⟩
            · exact ((D2.out.mono (by omega)).setBoxed Z2.out (by decide) _ _).setBoxed (Z2.out.set _ _) (by decide) _ _
            · exact (HS2.out.setNew (by omega) (by omega) _).setNew (by omega) (by omega) _
            · exact grown_setNew (grown_setNew HG2.out (by omega) _) (by omega) _
        · have e3 : (x == 3) = false := by simpa using h3
          clear h0 h1 h2 h3
          obtain ⟨x0, x1, _, _⟩ := X2.out.two
          obtain ⟨r0, r1, rf0, rf1⟩ := Z2.out.two
          go_wp2
          have hZ2 := Lib.hid ((Z2.out.set 0 (.int .i64 p)).set 1 (.slice Ax m cx))
          obtain ⟨q0, q1, _, _⟩ := Box.two (show Box _ (w.heap.size + 1) 26 #[.int .i64 p, .slice Ax m cx] from hZ2.out)
          refine bodyPost_ret (v := .agg #[.int .i64 p, .slice Ax m cx]) (by simp [results, Try.results63, go_sem, q0, q1]) rfl ⟨p, Ax, _, cx, L, rfl, ?_, by omega, trivial, ?_, ?_⟩
          · exact ((O2.out).setBoxed Z2.out (by decide) _ _).setBoxed (Z2.out.set _ _) (by decide) _ _
          · exact (HS2.out.setNew (by omega) (by omega) _).setNew (by omega) (by omega) _
          · exact grown_setNew (grown_setNew HG2.out (by omega) _) (by omega) _

set_option maxHeartbeats 1000000 in
theorem l01Spoil_ret (g : Nat) (A : Option Addr) (n c : Nat) (w : World) (hn : n ≤ 4096) (h : Src w g A n c) :
    Calls Try.prog 37 #[.pointer (some ⟨g, 0, none⟩)] w (RetBd w.heap.size w g A n c) := by
  have hgw := h.lt
  have HS0 := Lib.hid (h.alloc (.cells #[.int .i64 0, .slice none 0 0] 26))
  have X0 := Lib.hid (Box.new w 26 #[.int .i64 0, .slice none 0 0])
  have HG0 := Lib.hid (grown_alloc (World.grownBy.refl w (some g)) (.cells #[.int .i64 0, .slice none 0 0] 26))
  have hne : some w.heap.size ≠ some g := fun e => by injection e with e; omega
  clear h
  go_enter Try.func37, Try.ntmps37
  go_wp2_with fail
  refine (l01Draw_ret g A n c _ hn HS0.out).mono ?_
  rintro e w1 ⟨p, A', m, c', L, rfl, hO, hm, hQ, hS, hG⟩
  have HS1 := Lib.hid hS
  have X1 := Lib.hid (X0.out.grown hG hne)
  have HG1 := Lib.hid (HG0.out.trans hG)
  have O1 := Lib.hid (hO.mono (show w.heap.size ≤ (w.alloc (.cells #[.int .i64 0, .slice none 0 0] 26)).heap.size by simp))
  have hs1 := HG1.out.size
  have hm8 : m ≤ 9 := by
    have := Own.len hO
    have := hQ.2.2
    omega
  clear hS hG hO hQ HS0 X0 HG0 hm
  go_wp2_with fail
  refine (l01Bad_ret g A n c p A' m c' w.heap.size L _ hn HS1.out O1.out hm8 hs1 hgw).mono ?_
  rintro e w2 ⟨p2, A2, m2, c2, L2, rfl, hO, hm, _, hS, hG⟩
  have HS2 := Lib.hid hS
  have X2 := Lib.hid (X1.out.grown hG hne)
  have HG2 := Lib.hid (HG1.out.trans hG)
  have O2 := Lib.hid hO
  clear hS hG hO HS1 X1 HG1 O1
  obtain ⟨r0, r1, rf0, rf1⟩ := X2.out.two
  go_wp2
  refine bodyPost_ret (v := .agg #[.int .i64 p2, .slice A2 m2 c2]) (by simp [results, Try.results37, go_sem, r0, r1]) rfl ⟨p2, A2, m2, c2, L2, rfl, ?_, hm, trivial, ?_, ?_⟩
  · exact (O2.out.setBoxed X2.out (by decide) _ _).setBoxed (X2.out.set _ _) (by decide) _ _
  · exact (HS2.out.setNew (by omega) hgw _).setNew (by omega) hgw _
  · exact grown_setNew (grown_setNew HG2.out (Nat.le_refl _) _) (Nat.le_refl _) _

end Go.Proofs.Ytfdjlgpdbgmdkaa
