/- Contracts: what the law FnSequence draws from a code. -/
import Derived.Test.YtcicjnpnhaddcaaDoorDrawBad
import Derived.Test.YtcicjnpnhaddcaaDoorStAt
namespace Go.Proofs.YtcicjnpnhaddcaaDoor
open Go.RowKit
open Go.RowKit (wrap64)
set_option linter.unusedVariables false

theorem l01Near_big (g : Nat) (A : Option Addr) (n c : Nat) (m : Int) (w : World) (hn : n ≤ 4096) (h0 : 0 ≤ m) (hm : m ≤ 1000000000000) (h : Src w g A n c) :
    Calls Tryd.prog 51 #[.pointer (some ⟨g, 0, none⟩), .int .i64 m] w fun e w' => ∃ x : Int, e = .returned (.int .i64 x) ∧ NearIs m x ∧ Src w' g A n c ∧ w.grownBy w' (some g) := by
  have E := Lib.hid (IntWalk.wrap64_in (m + 1) (by omega))
  go_enter Tryd.func51, Tryd.ntmps51
  go_wp2_with fail
  refine (l01Next_calls g A n c 14 _ hn h).mono ?_
  rintro e w1 ⟨x, rfl, hx, hS, hG⟩
  by_cases hx0 : x = 0
  · subst hx0
    clear hx
    have hlt := hS.lt
    go_wp2_with fail
    try simp only [E.out]
    refine (l01Pick_calls g A n c _ 4 _ [-1, m + 1, 1099511627776, -4611686018427387904] _ hn (by omega) (by omega) rfl (ints_new w1 2 _) (fun ad e => by injection e with e; subst e; simp only; omega) (hS.alloc _)).mono ?_
    rintro e w2 ⟨x, rfl, hx, hS2, hG2⟩
    have HX := Lib.hid (near_pick hx)
    clear hx
    go_wp2
    go_ret
    exact ⟨_, rfl, HX.out, hS2, (hG.trans (World.grownBy_alloc _ _ _)).trans hG2⟩
  · clear hx
    go_wp2_with fail
    try simp only [E.out]
    refine (l01Next_calls g A n c (m + 1) _ hn hS).mono ?_
    rintro e w2 ⟨y, rfl, hy, hS2, hG2⟩
    go_wp2
    go_ret
    exact ⟨_, rfl, .inl (by omega), hS2, hG.trans hG2⟩


theorem l10Time_calls (g : Nat) (A : Option Addr) (n c : Nat) (w : World) (hn : n ≤ 4096) (h : Src w g A n c) :
    Calls Tryd.prog 38 #[.pointer (some ⟨g, 0, none⟩)] w fun e w' => ∃ x : Int, e = .returned (.int .i64 x) ∧ Src w' g A n c ∧ w.grownBy w' (some g) := by
  have HS0 := Lib.hid h
  have HG0 := Lib.hid (World.grownBy.refl w (some g))
  clear h
  go_enter Tryd.func38, Tryd.ntmps38
  go_wp2_with fail
  refine (l01Next_calls g A n c 40 _ hn HS0.out).mono ?_
  rintro e w1 ⟨v1, rfl, hv1, hS, hG⟩
  have HS1 := Lib.hid hS
  have HG1 := Lib.hid (HG0.out.trans hG)
  clear hS hG HS0 HG0
  have b1 : 0 ≤ v1 ∧ v1 ≤ 39 := by omega
  clear hv1
  go_wp2_with fail
  refine (l01Next_calls g A n c 1000000 _ hn HS1.out).mono ?_
  rintro e w2 ⟨v2, rfl, hv2, hS, hG⟩
  have HS2 := Lib.hid hS
  have HG2 := Lib.hid (HG1.out.trans hG)
  clear hS hG HS1 HG1
  have b2 : 0 ≤ v2 ∧ v2 ≤ 999999 := by omega
  clear hv2
  go_wp2_with fail
  refine (l01Near_big g A n c 1000000000000 _ hn (by omega) (by omega) HS2.out).mono ?_
  rintro e w3 ⟨v3, rfl, hv3, hS, hG⟩
  have HS3 := Lib.hid hS
  have HG3 := Lib.hid (HG2.out.trans hG)
  clear hS hG HS2 HG2
  go_wp2_with fail
  have hlt := HS3.out.lt
  refine (l01Pick_calls g A n c _ 5 _ [1 + v1, 1 + v2, v3, 1048576, 549755813888] _ hn (by omega) (by omega) rfl (ints_new w3 2 _) (fun ad e => by injection e with e; subst e; simp only; omega) (HS3.out.alloc _)).mono ?_
  rintro e w4 ⟨v4, rfl, hv4, hS, hG⟩
  have HS4 := Lib.hid hS
  have HG4 := Lib.hid ((grown_alloc HG3.out _).trans hG)
  clear hS hG HS3 HG3 hlt
  go_wp2
  go_ret
  exact ⟨_, rfl, HS4.out, HG4.out⟩

theorem DrawMoveAt_calls (A : Option Addr) (n c : Nat) (w : World)
    (hn : n ≤ 4096) (hA : By w A n) (hl : ∀ ad, A = some ad → 0 < n → ad.block < w.heap.size) :
    Calls Tryd.prog 12 #[.slice A n c] w fun e w' => ∃ x : Int, e = .returned (.int .i64 x) ∧ Below w.heap.size w w' := by
  have HN := Lib.hid hn
  have HA := Lib.hid hA
  have HL := Lib.hid hl
  clear hn hA hl
  go_enter Tryd.func12, Tryd.ntmps12
  go_wp2_with fail
  refine (l01From_calls A n c _ HN.out HA.out HL.out).mono ?_
  rintro e w1 ⟨g, rfl, hgB, hS, hb⟩
  have HS1 := Lib.hid hS
  have HB1 := Lib.hid hb
  have HG := Lib.hid hgB
  clear hS hb hgB
  go_wp2_with fail
  refine (l10Time_calls g A n c _ HN.out HS1.out).mono ?_
  rintro e w2 ⟨x, rfl, hS, hG⟩
  have HB2 := Lib.hid (HB1.out.trans (grown_below hG HG.out HB1.out.size))
  clear hS hG
  go_wp2
  go_ret
  exact ⟨_, rfl, HB2.out⟩

theorem DrawMovesByTurns_calls (A : Option Addr) (n c : Nat) (w : World)
    (hn : n ≤ 4096) (hA : By w A n) (hl : ∀ ad, A = some ad → 0 < n → ad.block < w.heap.size) :
    Calls Tryd.prog 17 #[.slice A n c] w fun e w' => ∃ x : Int, e = .returned (.int .i64 x) ∧ Below w.heap.size w w' := by
  have HN := Lib.hid hn
  have HA := Lib.hid hA
  have HL := Lib.hid hl
  clear hn hA hl
  go_enter Tryd.func17, Tryd.ntmps17
  go_wp2_with fail
  refine (l01From_calls A n c _ HN.out HA.out HL.out).mono ?_
  rintro e w1 ⟨g, rfl, hgB, hS, hb⟩
  have HS1 := Lib.hid hS
  have HB1 := Lib.hid hb
  have HG := Lib.hid hgB
  clear hS hb hgB
  go_wp2_with fail
  refine (l01Next_calls g A n c 10 _ HN.out HS1.out).mono ?_
  rintro e w2 ⟨v1, rfl, hx, hS, hG⟩
  have Xv1 := Lib.hid hx
  clear hx
  have HS2 := Lib.hid hS
  have HB2 := Lib.hid ((HB1.out).trans (grown_below hG HG.out (HB1.out).size))
  clear hS hG HS1 HB1
  go_wp2
  go_ret
  exact ⟨_, rfl, HB2.out⟩

set_option maxHeartbeats 1000000 in
theorem DrawCountOfDisc_calls (A : Option Addr) (n c : Nat) (w : World)
    (hn : n ≤ 4096) (hA : By w A n) (hl : ∀ ad, A = some ad → 0 < n → ad.block < w.heap.size) :
    Calls Tryd.prog 21 #[.slice A n c] w fun e w' => ∃ x y : Int, e = .returned (.tuple #[.int .i64 x, .int .i64 y]) ∧ Below w.heap.size w w' := by
  have HN := Lib.hid hn
  have HA := Lib.hid hA
  have HL := Lib.hid hl
  clear hn hA hl
  go_enter Tryd.func21, Tryd.ntmps21
  go_wp2_with fail
  refine (l01From_calls A n c _ HN.out HA.out HL.out).mono ?_
  rintro e w1 ⟨g, rfl, hgB, hS, hb⟩
  have HS1 := Lib.hid hS
  have HB1 := Lib.hid hb
  have HG := Lib.hid hgB
  clear hS hb hgB
  go_wp2_with fail
  refine (l10Time_calls g A n c _ HN.out HS1.out).mono ?_
  rintro e w2 ⟨x, rfl, hS, hG⟩
  have HB2 := Lib.hid (HB1.out.trans (grown_below hG HG.out HB1.out.size))
  have HS2 := Lib.hid hS
  clear hS hG HS1 HB1
  go_wp2_with fail
  refine (l01Next_calls g A n c 2 _ HN.out HS2.out).mono ?_
  rintro e w3 ⟨v1, rfl, hx, hS, hG⟩
  have Xv1 := Lib.hid hx
  clear hx
  have HS3 := Lib.hid hS
  have HB3 := Lib.hid ((HB2.out).trans (grown_below hG HG.out (HB2.out).size))
  clear hS hG HS2 HB2
  go_wp2_with fail
  refine (l01Near_calls g A n c 40 _ HN.out (by omega) (by omega) HS3.out).mono ?_
  rintro e w4 ⟨v2, rfl, hx, hS, hG⟩
  have Xv2 := Lib.hid hx
  clear hx
  have HS4 := Lib.hid hS
  have HB4 := Lib.hid ((HB3.out).trans (grown_below hG HG.out (HB3.out).size))
  clear hS hG HS3 HB3
  go_wp2_with fail
  have hlt := HS4.out.lt
  refine (l01Pick_calls g A n c _ 5 _ [0, 1, 2, 5, v2] _ HN.out (by omega) (by omega) rfl (ints_new w4 2 _) (fun ad e => by injection e with e; subst e; simp only; omega) (HS4.out.alloc _)).mono ?_
  rintro e w5 ⟨v3, rfl, hx, hS, hG⟩
  have Xv3 := Lib.hid hx
  clear hx hlt
  have HS5 := Lib.hid hS
  have HB5 := Lib.hid ((HB4.out.alloc HB4.out.size _).trans (grown_below hG HG.out (HB4.out.alloc HB4.out.size _).size))
  clear hS hG HS4 HB4
  go_wp2
  go_ret2
  exact ⟨_, _, rfl, HB5.out⟩

set_option maxHeartbeats 1000000 in
theorem DrawStateAt_calls (A : Option Addr) (n c : Nat) (w : World)
    (hn : n ≤ 4096) (hA : By w A n) (hl : ∀ ad, A = some ad → 0 < n → ad.block < w.heap.size) :
    Calls Tryd.prog 5 #[.slice A n c] w fun e w' => ∃ x y : Int, e = .returned (.tuple #[.int .i64 x, .int .i64 y]) ∧ Below w.heap.size w w' := by
  have HN := Lib.hid hn
  have HA := Lib.hid hA
  have HL := Lib.hid hl
  clear hn hA hl
  go_enter Tryd.func5, Tryd.ntmps5
  go_wp2_with fail
  refine (l01From_calls A n c _ HN.out HA.out HL.out).mono ?_
  rintro e w1 ⟨g, rfl, hgB, hS, hb⟩
  have HS1 := Lib.hid hS
  have HB1 := Lib.hid hb
  have HG := Lib.hid hgB
  clear hS hb hgB
  go_wp2_with fail
  refine (l01Next_calls g A n c 9 _ HN.out HS1.out).mono ?_
  rintro e w2 ⟨v1, rfl, hx, hS, hG⟩
  have Xv1 := Lib.hid hx
  clear hx
  have HS2 := Lib.hid hS
  have HB2 := Lib.hid ((HB1.out).trans (grown_below hG HG.out (HB1.out).size))
  clear hS hG HS1 HB1
  go_wp2_with fail
  refine (l01Next_calls g A n c 24 _ HN.out HS2.out).mono ?_
  rintro e w3 ⟨v2, rfl, hx, hS, hG⟩
  have Xv2 := Lib.hid hx
  clear hx
  have HS3 := Lib.hid hS
  have HB3 := Lib.hid ((HB2.out).trans (grown_below hG HG.out (HB2.out).size))
  clear hS hG HS2 HB2
  go_wp2_with fail
  refine (l01Next_calls g A n c 12 _ HN.out HS3.out).mono ?_
  rintro e w4 ⟨v3, rfl, hx, hS, hG⟩
  have Xv3 := Lib.hid hx
  clear hx
  have HS4 := Lib.hid hS
  have HB4 := Lib.hid ((HB3.out).trans (grown_below hG HG.out (HB3.out).size))
  clear hS hG HS3 HB3
  go_wp2_with fail
  refine (l01Next_calls g A n c _ _ HN.out HS4.out).mono ?_
  rintro e w5 ⟨x, rfl, hx, hS, hG⟩
  have HB5 := Lib.hid (HB4.out.trans (grown_below hG HG.out HB4.out.size))
  clear hS hG hx
  go_wp2
  go_ret2
  exact ⟨_, _, rfl, HB5.out⟩

/-- A state that has been drawn. -/
def RetDs (w : World) (e : Ending) (w' : World) : Prop :=
  ∃ (p : Int) (A' : Option Addr) (m c' : Nat) (L : List Int), e = .returned (.agg #[.int .i64 p, .slice A' m c']) ∧ Own w.heap.size w' A' m c' L ∧ m ≤ 10 ∧ Below w.heap.size w w'

set_option maxHeartbeats 2000000 in
theorem DrawTimeOf_ret (A : Option Addr) (n c : Nat) (w : World)
    (hn : n ≤ 4096) (hA : By w A n) (hl : ∀ ad, A = some ad → 0 < n → ad.block < w.heap.size) :
    Calls Tryd.prog 9 #[.slice A n c] w (RetDs w) := by
  have HN := Lib.hid hn
  have X0 := Lib.hid (Box.new w 28 #[.int .i64 0, .slice none 0 0])
  have HB0 := Lib.hid ((Below.refl w.heap.size w).alloc (Nat.le_refl _) (.cells #[.int .i64 0, .slice none 0 0] 28))
  have HA := Lib.hid (hA.below HB0.out)
  have HL := Lib.hid hl
  have hs0 : (w.alloc (.cells #[.int .i64 0, .slice none 0 0] 28)).heap.size = w.heap.size + 1 := by simp
  clear hn hA hl
  go_enter Tryd.func9, Tryd.ntmps9
  go_wp2_with fail
  generalize w.alloc (.cells #[.int .i64 0, .slice none 0 0] 28) = W0 at *
  refine (l01From_calls A n c _ HN.out HA.out (fun ad e h => by have := HL.out ad e h; omega)).mono ?_
  rintro e w1 ⟨g, rfl, hgB, hS, hb⟩
  have hgw : w.heap.size < g := by omega
  have hn := HN.out
  have hne : some w.heap.size ≠ some g := fun e => by injection e with e; omega
  have HS1 := Lib.hid hS
  have X1 := Lib.hid (X0.out.below hb X0.out.lt)
  have HB1 := Lib.hid (HB0.out.trans (hb.mono (by omega)))
  have hz1 := hb.size
  clear hS hb X0 HB0
  go_wp2_with fail
  refine (l01Next_calls g A n c 7 _ hn HS1.out).mono ?_
  rintro e w2 ⟨v, rfl, hv, hS, hG⟩
  obtain ⟨j, rfl⟩ := Int.eq_ofNat_of_zero_le hv.1
  have hj : j ≤ 6 := by omega
  have HS2 := Lib.hid hS
  have X2 := Lib.hid (X1.out.grown hG hne)
  have HB2 := Lib.hid (HB1.out.trans (grown_below hG (by omega) (by omega)))
  have hz2 := hG.size
  clear hS hG HS1 X1 HB1 hv
  go_wp2_with fail
  refine (l01Next_calls g A n c 2 _ hn HS2.out).mono ?_
  rintro e w3 ⟨x, rfl, hx, hS, hG⟩
  have HS3 := Lib.hid hS
  have X3 := Lib.hid (X2.out.grown hG hne)
  have HB3 := Lib.hid (HB2.out.trans (grown_below hG (by omega) (by omega)))
  have hz3 := hG.size
  clear hS hG HS2 X2 HB2 hx
  by_cases h0 : x = 0
  · subst h0
    obtain ⟨N, hN⟩ : ∃ N : Nat, Hid (N = 2 ^ j) := ⟨_, rfl⟩
    have hNb : 1 ≤ N ∧ N ≤ 256 := by rw [hN.out]; exact pow2n8' (by omega)
    have HW : Hid (wrap64 ((2 : Int) ^ j) = (N : Int)) := by unfold Hid; rw [hN.out]; exact wrap_pow41 (by omega)
    have hw := HW.out
    go_wp2_with fail
    clear hw
    refine (l01Next_calls g A n c _ _ hn HS3.out).mono ?_
    rintro e w4 ⟨t, rfl, ht, hS, hG⟩
    obtain ⟨q, rfl⟩ := Int.eq_ofNat_of_zero_le ht.1
    have hq : q ≤ 1024 := by omega
    have X4 := Lib.hid (X3.out.grown hG hne)
    have HB4 := Lib.hid (HB3.out.trans (grown_below hG (by omega) (by omega)))
    have hz4 := hG.size
    clear hS hG HS3 X3 HB3 ht
    go_wp2_with fail
    refine (l10State_calls q j _ (by omega) hq).mono ?_
    rintro e w5 ⟨A5, c5, rfl, hO, hb⟩
    have X5 := Lib.hid (X4.out.below hb X4.out.lt)
    have HB5 := Lib.hid (HB4.out.trans (hb.mono HB4.out.size))
    have O5 := Lib.hid (hO.mono HB4.out.size)
    clear hO hb X4 HB4
    obtain ⟨r0, r1, rf0, rf1⟩ := X5.out.two
    go_wp2
    refine bodyPost_ret (v := .agg #[.int .i64 3, .slice A5 j c5]) (by simp [results, Tryd.results9, go_sem, r0, r1]) rfl ⟨3, A5, j, c5, atL q j, rfl, ?_, by omega, ?_⟩
    · exact (O5.out.setBoxed X5.out (by decide) _ _).setBoxed (X5.out.set _ _) (by decide) _ _
    · exact (HB5.out.setCell (Nat.le_refl _) _).setCell (Nat.le_refl _) _
  · have e0 : (x == 0) = false := by simpa using h0
    go_wp2_with fail
    refine (l01Spoil_ret g A n c _ hn HS3.out).mono ?_
    rintro e w5 ⟨p, A5, m, c5, L, rfl, hO, hm, _, hS, hG⟩
    have X5 := Lib.hid (X3.out.grown hG hne)
    have HB5 := Lib.hid (HB3.out.trans (grown_below hG (by omega) (by omega)))
    have O5 := Lib.hid (hO.mono HB3.out.size)
    clear hO hS hG X3 HB3
    obtain ⟨r0, r1, rf0, rf1⟩ := X5.out.two
    go_wp2
    refine bodyPost_ret (v := .agg #[.int .i64 p, .slice A5 m c5]) (by simp [results, Tryd.results9, go_sem, r0, r1]) rfl ⟨p, A5, m, c5, L, rfl, ?_, hm, ?_⟩
    · exact (O5.out.setBoxed X5.out (by decide) _ _).setBoxed (X5.out.set _ _) (by decide) _ _
    · exact (HB5.out.setCell (Nat.le_refl _) _).setCell (Nat.le_refl _) _

end Go.Proofs.YtcicjnpnhaddcaaDoor
