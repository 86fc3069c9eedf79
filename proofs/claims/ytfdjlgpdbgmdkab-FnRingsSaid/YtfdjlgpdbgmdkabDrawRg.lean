/- Contracts: the words of rings that a law draws from its code. -/
import Derived.Test.YtfdjlgpdbgmdkabDrawSt
import Derived.Test.YtfdjlgpdbgmdkabPow2
import Derived.Test.YtfdjlgpdbgmdkabDone
namespace Go.Proofs.Ytfdjlgpdbgmdkab
open Go.RowKit
set_option linter.unusedVariables false

set_option maxHeartbeats 1000000 in
theorem l05DrawOf_calls (g : Nat) (A : Option Addr) (n c m : Nat) (w : World) (hn : n ≤ 4096) (h : Src w g A n c) (hm : m ≤ 17) :
    Calls Try.prog 49 #[.pointer (some ⟨g, 0, none⟩), .int .i64 m] w fun e w' => ∃ A' c' L, e = .returned (.slice A' m c') ∧ Own w.heap.size w' A' m c' L ∧ (∀ x ∈ L, 0 ≤ x ∧ x ≤ 1) ∧ Src w' g A n c ∧ w.grownBy w' (some g) := by
  obtain ⟨i0, hi, hz0, hz1q, hz2⟩ := info_parts Try.infoI
  have hgw := h.lt
  have HS0 := Lib.hid (h.alloc (.cells #[] 2))
  have Y0 := Lib.hid (Box.new w 2 #[])
  have HG0 := Lib.hid (grown_alloc (World.grownBy.refl w (some g)) (.cells #[] 2))
  have hs0 : (w.alloc (.cells #[] 2)).heap.size = w.heap.size + 1 := by simp
  clear h
  go_enter Try.func49, Try.ntmps49
  go_wp2_with fail
  have hlt := HS0.out.lt
  generalize w.alloc (.cells #[] 2) = W0 at *
  refine (l01Pick_calls g A n c _ 4 _ [2, 2, 4, 1] _ hn (by omega) (by omega) rfl (by have := ints_new W0 2 [2, 2, 4, 1]; rw [hs0] at this; exact this) (fun ad e => by injection e with e; subst e; simp only; omega) (HS0.out.alloc _)).mono ?_
  rintro e w2 ⟨few, rfl, hx, hS, hG⟩
  have HS2 := Lib.hid hS
  have Y2 := Lib.hid ((Y0.out.alloc _).grown hG (by intro e; injection e with e; omega))
  have HG2 := Lib.hid ((grown_alloc HG0.out _).trans hG)
  clear hx hS hG hlt Y0 HS0 HG0
  go_wp2
  go_loopw [1, 5] (fun q v wr => ∃ (j : Nat), j ≤ m ∧ q = .int .i64 ((m : Int) - j) ∧ (∃ A' c' L, v = .slice A' j c' ∧ Own w.heap.size wr A' j c' L ∧ ∀ x ∈ L, 0 ≤ x ∧ x ≤ 1) ∧ Src wr g A n c ∧ w.grownBy wr (some g)) (fun q _ _ => (intOf q).toNat)
  case atStart => exact ⟨0, Nat.zero_le _, by simp, ⟨_, _, [], rfl, Own.emptyAt Y2.out (Nat.le_refl _), fun x hx => absurd hx (by simp)⟩, HS2.out, HG2.out⟩
  case round =>
    obtain ⟨j, hj, rfl, ⟨A', c', L, rfl, ho, hl⟩, hs, hg⟩ := hrel
    have O := Lib.hid ho
    have HLM := Lib.hid hl
    have HS := Lib.hid hs
    have HG := Lib.hid hg
    have hsz := hg.size
    clear ho hl hs hg Y2 HS2 HG2
    by_cases hlt : j < m
    · have hlt2 : (0 : Int) < (m : Int) - j := by omega
      go_wp2_with fail
      refine (l01Next_calls g A n c few _ hn HS.out).mono ?_
      rintro e w3 ⟨x, rfl, hx, hS, hG⟩
      have HS3 := Lib.hid hS
      have O3 := Lib.hid (O.out.kept hG (own_src O.out HS.out))
      have HG3 := Lib.hid (HG.out.trans hG)
      have hsz3 := HG3.out.size
      clear hx hS hG O HS HG
      by_cases hx0 : x = 0
      · have ht : (x == 0) = true := by simpa using hx0
        clear hx0
        go_wp2_with (at_builtin; refine wpList_append_own _ rfl _ _ 24 rfl w.heap.size 2 i0 (.int .i64 0) 1 8 Try.underlying24 hi hz0 hz1q hz2 rfl (by decide) _ _ _ rfl (OwnG.alloc (show OwnG 2 1 w.heap.size w3 A' j c' (L.map (Value.int .i64)) from O3.out) _) ⟨w3.heap.size, 0, none⟩ 1 1 [.int .i64 1] rfl rfl (cell_one_new _ _ _) (by simp [Value.oneCell']) (by unfold maxLen; omega) (by omega) (by simp; omega) ?_; intro v' w6 hown' hgrow _; obtain ⟨A6, c6, rfl⟩ := ownG_shape hown'; have HP := Lib.hid (Own.pushed O3.out hgrow hown'); have HS6 := Lib.hid (HS3.out.grownRow O3.out (by omega) hgrow); have HGR := Lib.hid hgrow; clear hown' hgrow)
        go_roundw
        case rel =>
          refine ⟨j + 1, by omega, by go_num, ⟨A6, c6, L ++ [1], rfl, HP.out.1, ?_⟩, HS6.out, grown_then (grown_alloc HG3.out _) HGR.out (fun k hk => by have := own_bk O3.out k hk; omega)⟩
          intro x hx
          rcases List.mem_append.1 hx with h | h
          · exact HLM.out x h
          · simp only [List.mem_singleton] at h
            omega
        case measure => simp [intOf]; omega
      · have ht : (x == 0) = false := by simpa using hx0
        clear hx0
        go_wp2_with (at_builtin; refine wpList_append_own _ rfl _ _ 24 rfl w.heap.size 2 i0 (.int .i64 0) 1 8 Try.underlying24 hi hz0 hz1q hz2 rfl (by decide) _ _ _ rfl (OwnG.alloc (show OwnG 2 1 w.heap.size w3 A' j c' (L.map (Value.int .i64)) from O3.out) _) ⟨w3.heap.size, 0, none⟩ 1 1 [.int .i64 0] rfl rfl (cell_one_new _ _ _) (by simp [Value.oneCell']) (by unfold maxLen; omega) (by omega) (by simp; omega) ?_; intro v' w6 hown' hgrow _; obtain ⟨A6, c6, rfl⟩ := ownG_shape hown'; have HP := Lib.hid (Own.pushed O3.out hgrow hown'); have HS6 := Lib.hid (HS3.out.grownRow O3.out (by omega) hgrow); have HGR := Lib.hid hgrow; clear hown' hgrow)
        go_roundw
        case rel =>
          refine ⟨j + 1, by omega, by go_num, ⟨A6, c6, L ++ [0], rfl, HP.out.1, ?_⟩, HS6.out, grown_then (grown_alloc HG3.out _) HGR.out (fun k hk => by have := own_bk O3.out k hk; omega)⟩
          intro x hx
          rcases List.mem_append.1 hx with h | h
          · exact HLM.out x h
          · simp only [List.mem_singleton] at h
            omega
        case measure => simp [intOf]; omega
    · obtain rfl : j = m := by omega
      have hlt2 : ¬ (0 : Int) < (j : Int) - j := by omega
      go_wp2
      go_ret
      exact ⟨_, _, rfl, _, O.out, HLM.out, HS.out, HG.out⟩

/-- A word of rings that has been drawn into memory of the call's own. -/
def RetDg (w : World) (g : Nat) (A : Option Addr) (n c : Nat) (e : Ending) (w' : World) : Prop :=
  ∃ (A' : Option Addr) (m c' : Nat) (L : List Int), e = .returned (.slice A' m c') ∧ Own w.heap.size w' A' m c' L ∧ m ≤ 18 ∧ Src w' g A n c ∧ w.grownBy w' (some g)

def lenW : Value → Nat
  | .slice _ n _ => n
  | _ => 0
def RetDb (B0 : Nat) (w : World) (g : Nat) (A : Option Addr) (n c : Nat) (e : Ending) (w' : World) : Prop :=
  ∃ (A' : Option Addr) (m c' : Nat) (L : List Int), e = .returned (.slice A' m c') ∧ Own B0 w' A' m c' L ∧ m ≤ 18 ∧ Src w' g A n c ∧ w.grownBy w' (some g)

set_option maxHeartbeats 1000000 in
theorem l05Bad_ret (g : Nat) (A : Option Addr) (n c : Nat) (Ax : Option Addr) (m cx B0 : Nat) (L : List Int) (w : World) (hn : n ≤ 4096) (h : Src w g A n c) (hO : Own B0 w Ax m cx L) (hm : m ≤ 17) (hB0 : B0 ≤ w.heap.size) (hgB : g < B0) :
    Calls Try.prog 52 #[.pointer (some ⟨g, 0, none⟩), .slice Ax m cx] w (RetDb B0 w g A n c) := by
  obtain ⟨i0, hi, hz0, hz1q, hz2⟩ := info_parts Try.infoI
  have hgw := h.lt
  have HLn := Lib.hid (Own.len hO)
  have hAx : Ax = none → cx = 0 := fun e => by
    rcases hO.form with ⟨_, _, h3⟩ | ⟨_, h, _⟩
    · exact h3
    · rw [e] at h; cases h
  have HS0 := Lib.hid h
  have O0 := Lib.hid hO
  clear h hO
  go_enter Try.func52, Try.ntmps52
  go_wp2_with fail
  refine (l01Next_calls g A n c 40 _ hn HS0.out).mono ?_
  rintro e w1 ⟨x, rfl, hx, hS, hG⟩
  have HS1 := Lib.hid hS
  have O1 := Lib.hid (O0.out.kept hG (own_src O0.out HS0.out))
  have HG1 := Lib.hid hG
  have hs1 := hG.size
  clear hS hG HS0 O0
  by_cases h0 : x = 0
  · subst h0
    go_wp2_with fail
    refine (l01Own_calls Ax m cx L _ HLn.out (by omega) hAx O1.out.ints).mono ?_
    rintro e w2 ⟨Ad, cd, rfl, hO, hb⟩
    have HS2 := Lib.hid (HS1.out.below hb)
    have D2 := Lib.hid (hO.mono hs1)
    have HG2 := Lib.hid (grown_then HG1.out (row2 := none) ⟨hb.os, hb.tape, hb.output, hb.size, fun k hk _ => hb.block k hk⟩ (fun k hk => by cases hk))
    have hs2 := hb.size
    clear hO hb HS1 O1 HG1
    go_wp2_with fail
    have hlt := HS2.out.lt
    refine (l01Pick_calls g A n c _ 2 _ [2, -1] _ hn (by omega) (by omega) rfl (ints_new w2 2 _) (fun ad e => by injection e with e; subst e; simp only; omega) (HS2.out.alloc _)).mono ?_
    rintro e w3 ⟨pp, rfl, hx3, hS, hG⟩
    have HS3 := Lib.hid hS
    have D3a := D2.out.below (((Below.refl _ _).alloc (Nat.le_refl _) (.cells (([2, -1] : List Int).map (Value.int .i64)).toArray 2)).mono (by omega))
    have D3 := Lib.hid (D3a.kept hG (own_src D3a (HS2.out.alloc _)))
    have HG3 := Lib.hid ((grown_alloc HG2.out _).trans hG)
    have hs3 := HG3.out.size
    clear hx3 hS hG HS2 D2 HG2 D3a
    go_wp2_with (at_builtin; refine wpList_append_own _ rfl _ _ 24 rfl w.heap.size 2 i0 (.int .i64 0) 1 8 Try.underlying24 hi hz0 hz1q hz2 rfl (by decide) _ _ _ rfl (OwnG.alloc (show OwnG 2 1 w.heap.size w3 Ad m cd (L.map (Value.int .i64)) from D3.out) _) ⟨w3.heap.size, 0, none⟩ 1 1 [.int .i64 pp] rfl rfl (cell_one_new _ _ _) (by simp [Value.oneCell']) (by unfold maxLen; omega) (by omega) (by simp; omega) ?_; intro v' w6 hown' hgrow _; obtain ⟨A6, c6, rfl⟩ := ownG_shape hown'; have HP := Lib.hid (Own.pushed D3.out hgrow hown'); have HS6 := Lib.hid (HS3.out.grownRow D3.out (by omega) hgrow); have HGR := Lib.hid hgrow; clear hown' hgrow)
    go_ret
    exact ⟨_, _, _, _, rfl, HP.out.1.mono hB0, by omega, HS6.out, grown_then (grown_alloc HG3.out _) HGR.out (fun k hk => by have := own_bk D3.out k hk; omega)⟩
  · have e0 : (x == 0) = false := by simpa using h0
    by_cases h1 : x = 1
    · subst h1
      go_wp2_with fail
      refine (l01Own_calls Ax m cx L _ HLn.out (by omega) hAx O1.out.ints).mono ?_
      rintro e w2 ⟨Ad, cd, rfl, hO, hb⟩
      have HS2 := Lib.hid (HS1.out.below hb)
      have D2 := Lib.hid (hO.mono hs1)
      have HG2 := Lib.hid (grown_then HG1.out (row2 := none) ⟨hb.os, hb.tape, hb.output, hb.size, fun k hk _ => hb.block k hk⟩ (fun k hk => by cases hk))
      clear hO hb HS1 O1 HG1
      go_wp2
      go_loopw [5] (fun v wr => ∃ (A' : Option Addr) (q c' : Nat) (L' : List Int), v = .slice A' q c' ∧ q ≤ 17 ∧ Own w.heap.size wr A' q c' L' ∧ Src wr g A n c ∧ w.grownBy wr (some g)) (fun v _ => 17 - lenW v)
      case atStart => exact ⟨Ad, m, cd, L, rfl, hm, D2.out, HS2.out, HG2.out⟩
      case round =>
        obtain ⟨A', q, c', L', rfl, hq, hD, hS, hG⟩ := hrel
        have D7 := Lib.hid hD
        have HS7 := Lib.hid hS
        have HG7 := Lib.hid hG
        have hs7 := hG.size
        clear hD hS hG
        by_cases hlt : q ≤ 16
        · have hlt2 : (q : Int) ≤ 16 := by omega
          go_wp2_with (at_builtin; refine wpList_append_own _ rfl _ _ 24 rfl w.heap.size 2 i0 (.int .i64 0) 1 8 Try.underlying24 hi hz0 hz1q hz2 rfl (by decide) _ _ _ rfl (OwnG.alloc (show OwnG 2 1 w.heap.size wr A' q c' (L'.map (Value.int .i64)) from D7.out) _) ⟨wr.heap.size, 0, none⟩ 1 1 [.int .i64 1] rfl rfl (cell_one_new _ _ _) (by simp [Value.oneCell']) (by unfold maxLen; omega) (by omega) (by simp; omega) ?_; intro v' w6 hown' hgrow _; obtain ⟨A6, c6, rfl⟩ := ownG_shape hown'; have HP := Lib.hid (Own.pushed D7.out hgrow hown'); have HS6 := Lib.hid (HS7.out.grownRow D7.out (by omega) hgrow); have HGR := Lib.hid hgrow; clear hown' hgrow)
          go_roundw
          case rel => exact ⟨A6, q + 1, c6, L' ++ [1], rfl, by omega, HP.out.1, HS6.out, grown_then (grown_alloc HG7.out _) HGR.out (fun k hk => by have := own_bk D7.out k hk; omega)⟩
          case measure => simp [lenW]; omega
        · have hlt2 : ¬ (q : Int) ≤ 16 := by omega
          go_wp2
          go_ret
          exact ⟨_, _, _, _, rfl, D7.out.mono hB0, by omega, HS7.out, HG7.out⟩
    · have e1 : (x == 1) = false := by simpa using h1
      go_wp2
      go_ret
      exact ⟨_, _, _, _, rfl, O1.out, by omega, HS1.out, HG1.out⟩

set_option maxHeartbeats 1000000 in
theorem l05Draw_ret (g : Nat) (A : Option Addr) (n c : Nat) (w : World) (hn : n ≤ 4096) (h : Src w g A n c) :
    Calls Try.prog 29 #[.pointer (some ⟨g, 0, none⟩)] w (RetDg w g A n c) := by
  have hgw := h.lt
  have HS0 := Lib.hid h
  clear h
  go_enter Try.func29, Try.ntmps29
  go_wp2_with fail
  refine (l01Pick_calls g A n c _ 3 _ [4, 7, 17] _ hn (by omega) (by omega) rfl (ints_new w 2 _) (fun ad e => by injection e with e; subst e; simp only; omega) (HS0.out.alloc _)).mono ?_
  rintro e w1 ⟨k, rfl, hx, hS, hG⟩
  have hk : 4 ≤ k ∧ k ≤ 17 := by simp only [List.mem_cons, List.not_mem_nil, or_false] at hx; omega
  have HS1 := Lib.hid hS
  have HG1 := Lib.hid ((World.grownBy_alloc w (.cells (([4, 7, 17] : List Int).map (Value.int .i64)).toArray 2) _).trans hG)
  clear hx hS hG HS0
  go_wp2_with fail
  refine (l01Next_calls g A n c k _ hn HS1.out).mono ?_
  rintro e w2 ⟨x, rfl, hx, hS, hG⟩
  obtain ⟨j, rfl⟩ := Int.eq_ofNat_of_zero_le hx.1
  have hj : j ≤ 17 := by omega
  have HS2 := Lib.hid hS
  have HG2 := Lib.hid (HG1.out.trans hG)
  have hs2 := HG2.out.size
  clear hx hS hG HS1 HG1
  go_wp2_with fail
  refine (l05DrawOf_calls g A n c j _ hn HS2.out hj).mono ?_
  rintro e w3 ⟨A', c', L, rfl, hO, hl, hS, hG⟩
  have HS3 := Lib.hid hS
  have D3 := Lib.hid hO
  have HG3 := Lib.hid (HG2.out.trans hG)
  have hs3 := hG.size
  clear hO hl hS hG HS2 HG2
  go_wp2_with fail
  refine (l05Bad_ret g A n c A' j c' w.heap.size L _ hn HS3.out (D3.out.mono hs2) hj (by omega) hgw).mono ?_
  rintro e w4 ⟨A4, m4, c4, L4, rfl, hO, hm, hS, hG⟩
  have HS4 := Lib.hid hS
  have D4 := Lib.hid hO
  have HG4 := Lib.hid (HG3.out.trans hG)
  clear hO hS hG HS3 D3 HG3
  go_wp2
  go_ret
  exact ⟨_, _, _, _, rfl, D4.out, hm, HS4.out, HG4.out⟩

def RetDw (w : World) (e : Ending) (w' : World) : Prop :=
  ∃ (A' : Option Addr) (m c' : Nat) (L : List Int), e = .returned (.slice A' m c') ∧ Own w.heap.size w' A' m c' L ∧ m ≤ 18 ∧ Below w.heap.size w w'

set_option maxHeartbeats 1000000 in
theorem DrawRingsThatChange_ret (A : Option Addr) (n c : Nat) (w : World) (hn : n ≤ 4096) (hA : By w A n) (hl : ∀ ad, A = some ad → 0 < n → ad.block < w.heap.size) :
    Calls Try.prog 5 #[.slice A n c] w (RetDw w) := by
  go_enter Try.func5, Try.ntmps5
  go_wp2_with fail
  refine (l01From_calls A n c _ hn hA hl).mono ?_
  rintro e w1 ⟨g, rfl, hgB, hS, hb⟩
  have HS1 := Lib.hid hS
  have HB1 := Lib.hid hb
  have hz1 := hb.size
  clear hS hb
  go_wp2_with fail
  refine (l05Draw_ret g A n c _ hn HS1.out).mono ?_
  rintro e w2 ⟨A', m, c', L, rfl, hO, hm, hS, hG⟩
  have D2 := Lib.hid hO
  have HB2 := Lib.hid (HB1.out.trans (grown_below hG (by omega) (by omega)))
  clear hO hS hG HS1 HB1
  go_wp2
  go_ret
  exact ⟨_, _, _, _, rfl, D2.out.mono hz1, hm, HB2.out⟩

set_option maxHeartbeats 1000000 in
theorem DrawRankOfRings_ret (A : Option Addr) (n c : Nat) (w : World) (hn : n ≤ 4096) (hA : By w A n) (hl : ∀ ad, A = some ad → 0 < n → ad.block < w.heap.size) :
    Calls Try.prog 19 #[.slice A n c] w (RetDw w) := by
  go_enter Try.func19, Try.ntmps19
  go_wp2_with fail
  refine (l01From_calls A n c _ hn hA hl).mono ?_
  rintro e w1 ⟨g, rfl, hgB, hS, hb⟩
  have HS1 := Lib.hid hS
  have HB1 := Lib.hid hb
  have hz1 := hb.size
  clear hS hb
  go_wp2_with fail
  refine (l05Draw_ret g A n c _ hn HS1.out).mono ?_
  rintro e w2 ⟨A', m, c', L, rfl, hO, hm, hS, hG⟩
  have D2 := Lib.hid hO
  have HB2 := Lib.hid (HB1.out.trans (grown_below hG (by omega) (by omega)))
  clear hO hS hG HS1 HB1
  go_wp2
  go_ret
  exact ⟨_, _, _, _, rfl, D2.out.mono hz1, hm, HB2.out⟩

set_option maxHeartbeats 1000000 in
theorem DrawOppositeRings_ret (A : Option Addr) (n c : Nat) (w : World) (hn : n ≤ 4096) (hA : By w A n) (hl : ∀ ad, A = some ad → 0 < n → ad.block < w.heap.size) :
    Calls Try.prog 23 #[.slice A n c] w (RetDw w) := by
  go_enter Try.func23, Try.ntmps23
  go_wp2_with fail
  refine (l01From_calls A n c _ hn hA hl).mono ?_
  rintro e w1 ⟨g, rfl, hgB, hS, hb⟩
  have HS1 := Lib.hid hS
  have HB1 := Lib.hid hb
  have hz1 := hb.size
  clear hS hb
  go_wp2_with fail
  refine (l05Draw_ret g A n c _ hn HS1.out).mono ?_
  rintro e w2 ⟨A', m, c', L, rfl, hO, hm, hS, hG⟩
  have D2 := Lib.hid hO
  have HB2 := Lib.hid (HB1.out.trans (grown_below hG (by omega) (by omega)))
  clear hO hS hG HS1 HB1
  go_wp2
  go_ret
  exact ⟨_, _, _, _, rfl, D2.out.mono hz1, hm, HB2.out⟩

set_option maxHeartbeats 1000000 in
theorem DrawRingsText_ret (A : Option Addr) (n c : Nat) (w : World) (hn : n ≤ 4096) (hA : By w A n) (hl : ∀ ad, A = some ad → 0 < n → ad.block < w.heap.size) :
    Calls Try.prog 27 #[.slice A n c] w (RetDw w) := by
  go_enter Try.func27, Try.ntmps27
  go_wp2_with fail
  refine (l01From_calls A n c _ hn hA hl).mono ?_
  rintro e w1 ⟨g, rfl, hgB, hS, hb⟩
  have HS1 := Lib.hid hS
  have HB1 := Lib.hid hb
  have hz1 := hb.size
  clear hS hb
  go_wp2_with fail
  refine (l05Draw_ret g A n c _ hn HS1.out).mono ?_
  rintro e w2 ⟨A', m, c', L, rfl, hO, hm, hS, hG⟩
  have D2 := Lib.hid hO
  have HB2 := Lib.hid (HB1.out.trans (grown_below hG (by omega) (by omega)))
  clear hO hS hG HS1 HB1
  go_wp2
  go_ret
  exact ⟨_, _, _, _, rfl, D2.out.mono hz1, hm, HB2.out⟩

set_option maxHeartbeats 1000000 in
theorem DrawRingsOfRank_calls (A : Option Addr) (n c : Nat) (w : World) (hn : n ≤ 4096) (hA : By w A n) (hl : ∀ ad, A = some ad → 0 < n → ad.block < w.heap.size) :
    Calls Try.prog 21 #[.slice A n c] w fun e w' => ∃ v1 v2 : Int, e = .returned (.tuple #[.int .i64 v1, .int .i64 v2]) ∧ Below w.heap.size w w' := by
  go_enter Try.func21, Try.ntmps21
  go_wp2_with fail
  refine (l01From_calls A n c _ hn hA hl).mono ?_
  rintro e w1 ⟨g, rfl, hgB, hS, hb⟩
  have HS1 := Lib.hid hS
  have HB1 := Lib.hid hb
  have hz1 := hb.size
  have hgw := hS.lt
  clear hS hb
  go_wp2_with fail
  refine (l01Pick_calls g A n c _ 3 _ [4, 7, 17] _ hn (by omega) (by omega) rfl (ints_new w1 2 _) (fun ad e => by injection e with e; subst e; simp only; omega) (HS1.out.alloc _)).mono ?_
  rintro e w2 ⟨k, rfl, hx, hS, hG⟩
  have hk : 4 ≤ k ∧ k ≤ 17 := by simp only [List.mem_cons, List.not_mem_nil, or_false] at hx; omega
  have HS2 := Lib.hid hS
  have HB2 := Lib.hid ((HB1.out.alloc (by omega) _).trans (grown_below hG (by omega) (by simp; omega)))
  have hz2 := HB2.out.size
  clear hx hS hG HS1 HB1
  go_wp2_with fail
  refine (l01Next_calls g A n c k _ hn HS2.out).mono ?_
  rintro e w3 ⟨x, rfl, hx, hS, hG⟩
  obtain ⟨j, rfl⟩ := Int.eq_ofNat_of_zero_le hx.1
  have hj : j ≤ 16 := by omega
  have HS3 := Lib.hid hS
  have HB3 := Lib.hid (HB2.out.trans (grown_below hG (by omega) (by omega)))
  have hz3 := HB3.out.size
  clear hx hS hG HS2 HB2
  obtain ⟨N, hN⟩ : ∃ N, Hid (N = 2 ^ j) := ⟨_, Lib.hid rfl⟩
  have hN1 : 1 ≤ N ∧ N ≤ 65536 := by
    have h1 := Nat.one_le_two_pow (n := j)
    have h2 := Nat.pow_le_pow_right (show 0 < 2 by decide) hj
    rw [← hN.out] at h1 h2
    exact ⟨h1, h2⟩
  go_wp2_with fail
  refine (l01Size_two j N _ hj hN).mono ?_
  rintro e wq ⟨rfl, rfl⟩
  go_wp2_with fail
  refine (l01Near_calls g A n c ((N : Int) - 1) _ hn (by omega) (by omega) HS3.out).mono ?_
  rintro e w4 ⟨r, rfl, _, hS, hG⟩
  have HS4 := Lib.hid hS
  have HB4 := Lib.hid (HB3.out.trans (grown_below hG (by omega) (by omega)))
  have hz4 := HB4.out.size
  clear hS hG HS3 HB3
  go_wp2_with fail
  refine (l01Next_calls g A n c 20 _ hn HS4.out).mono ?_
  rintro e w5 ⟨x, rfl, hx, hS, hG⟩
  have HS5 := Lib.hid hS
  have HB5 := Lib.hid (HB4.out.trans (grown_below hG (by omega) (by omega)))
  have hz5 := HB5.out.size
  clear hS hG HS4 HB4
  by_cases h0 : x = 0
  · subst h0
    go_wp2_with fail
    have hlt5 := HS5.out.lt
    refine (l01Pick_calls g A n c _ 2 _ [-1, 17] _ hn (by omega) (by omega) rfl (ints_new w5 2 _) (fun ad e => by injection e with e; subst e; simp only; omega) (HS5.out.alloc _)).mono ?_
    rintro e w6 ⟨k2, rfl, _, hS, hG⟩
    have HB6 := Lib.hid ((HB5.out.alloc (by omega) _).trans (grown_below hG (by omega) (by simp; omega)))
    clear hS hG
    go_wp2
    go_ret2
    exact ⟨_, _, rfl, HB6.out⟩
  · have e0 : (x == 0) = false := by simpa using h0
    go_wp2
    go_ret2
    exact ⟨_, _, rfl, HB5.out⟩

end Go.Proofs.Ytfdjlgpdbgmdkab
