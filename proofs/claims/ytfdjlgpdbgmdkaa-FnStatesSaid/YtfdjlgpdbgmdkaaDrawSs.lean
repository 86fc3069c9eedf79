/- Contracts: what the law FnStates draws from its code. -/
import Derived.Test.YtfdjlgpdbgmdkaaDrawBad
import Derived.Test.YtfdjlgpdbgmdkaaDrawOr
import Derived.Test.YtfdjlgpdbgmdkaaDrawTx
import Derived.Test.YtfdjlgpdbgmdkaaStText
import Derived.Deep.LoopGhost
import Derived.Deep.Cut
namespace Go.Proofs.Ytfdjlgpdbgmdkaa
open Go.RowKit
set_option linter.unusedVariables false

/-- A state that has been drawn. -/
def RetSx (w : World) (e : Ending) (w' : World) : Prop :=
  ∃ (p : Int) (A' : Option Addr) (m c' : Nat) (L : List Int), e = .returned (.agg #[.int .i64 p, .slice A' m c']) ∧ Own w.heap.size w' A' m c' L ∧ m ≤ 10 ∧ Below w.heap.size w w'

set_option maxHeartbeats 1000000 in
theorem DrawRankOf_ret (A : Option Addr) (n c : Nat) (w : World) (hn : n ≤ 4096) (hA : By w A n) (hl : ∀ ad, A = some ad → 0 < n → ad.block < w.heap.size) :
    Calls Try.prog 5 #[.slice A n c] w (RetSx w) := by
  have X0 := Lib.hid (Box.new w 26 #[.int .i64 0, .slice none 0 0])
  have HB0 := Lib.hid ((Below.refl w.heap.size w).alloc (Nat.le_refl _) (.cells #[.int .i64 0, .slice none 0 0] 26))
  have hA0 := Lib.hid (hA.below HB0.out)
  have hl0 : Hid (∀ ad, A = some ad → 0 < n → ad.block < (w.alloc (.cells #[.int .i64 0, .slice none 0 0] 26)).heap.size) := fun ad e h0 => by rw [World.size_alloc]; exact Nat.lt_succ_of_lt (hl ad e h0)
  have hs0 : (w.alloc (.cells #[.int .i64 0, .slice none 0 0] 26)).heap.size = w.heap.size + 1 := by simp
  go_enter Try.func5, Try.ntmps5
  go_wp2_with fail
  refine (l01From_calls A n c (w.alloc (.cells #[.int .i64 0, .slice none 0 0] 26)) hn hA0.out hl0.out).mono ?_
  rintro e w1 ⟨g, rfl, hgB, hS, hb⟩
  have HS1 := Lib.hid hS
  have hz1 := hb.size
  have X1 := Lib.hid (X0.out.below hb X0.out.lt)
  have HB1 := Lib.hid (HB0.out.trans (hb.mono HB0.out.size))
  rw [hs0] at hgB hz1
  have hne : some w.heap.size ≠ some g := fun e => by injection e with e; omega
  clear hS hb X0 HB0 hA0 hl0 hs0
  go_wp2_with fail
  refine (l01Spoil_ret g A n c _ hn HS1.out).mono ?_
  rintro e wz ⟨p, A5, m, c5, L, rfl, hO, hm, _, hS, hG⟩
  have X5 := Lib.hid (X1.out.grown hG hne)
  have HB5 := Lib.hid (HB1.out.trans (grown_below hG (by omega) (by omega)))
  have O5 := Lib.hid (hO.mono HB1.out.size)
  clear hO hS hG X1 HB1
  obtain ⟨r0, r1, rf0, rf1⟩ := X5.out.two
  go_wp2
  refine bodyPost_ret (v := .agg #[.int .i64 p, .slice A5 m c5]) (by simp [results, Try.results5, go_sem, r0, r1]) rfl ⟨p, A5, m, c5, L, rfl, ?_, hm, ?_⟩
  · exact (O5.out.setBoxed X5.out (by decide) _ _).setBoxed (X5.out.set _ _) (by decide) _ _
  · exact (HB5.out.setCell (Nat.le_refl _) _).setCell (Nat.le_refl _) _

set_option maxHeartbeats 1000000 in
theorem DrawStacksOf_ret (A : Option Addr) (n c : Nat) (w : World) (hn : n ≤ 4096) (hA : By w A n) (hl : ∀ ad, A = some ad → 0 < n → ad.block < w.heap.size) :
    Calls Try.prog 32 #[.slice A n c] w (RetSx w) := by
  have X0 := Lib.hid (Box.new w 26 #[.int .i64 0, .slice none 0 0])
  have HB0 := Lib.hid ((Below.refl w.heap.size w).alloc (Nat.le_refl _) (.cells #[.int .i64 0, .slice none 0 0] 26))
  have hA0 := Lib.hid (hA.below HB0.out)
  have hl0 : Hid (∀ ad, A = some ad → 0 < n → ad.block < (w.alloc (.cells #[.int .i64 0, .slice none 0 0] 26)).heap.size) := fun ad e h0 => by rw [World.size_alloc]; exact Nat.lt_succ_of_lt (hl ad e h0)
  have hs0 : (w.alloc (.cells #[.int .i64 0, .slice none 0 0] 26)).heap.size = w.heap.size + 1 := by simp
  go_enter Try.func32, Try.ntmps32
  go_wp2_with fail
  refine (l01From_calls A n c (w.alloc (.cells #[.int .i64 0, .slice none 0 0] 26)) hn hA0.out hl0.out).mono ?_
  rintro e w1 ⟨g, rfl, hgB, hS, hb⟩
  have HS1 := Lib.hid hS
  have hz1 := hb.size
  have X1 := Lib.hid (X0.out.below hb X0.out.lt)
  have HB1 := Lib.hid (HB0.out.trans (hb.mono HB0.out.size))
  rw [hs0] at hgB hz1
  have hne : some w.heap.size ≠ some g := fun e => by injection e with e; omega
  clear hS hb X0 HB0 hA0 hl0 hs0
  go_wp2_with fail
  refine (l01Spoil_ret g A n c _ hn HS1.out).mono ?_
  rintro e wz ⟨p, A5, m, c5, L, rfl, hO, hm, _, hS, hG⟩
  have X5 := Lib.hid (X1.out.grown hG hne)
  have HB5 := Lib.hid (HB1.out.trans (grown_below hG (by omega) (by omega)))
  have O5 := Lib.hid (hO.mono HB1.out.size)
  clear hO hS hG X1 HB1
  obtain ⟨r0, r1, rf0, rf1⟩ := X5.out.two
  go_wp2
  refine bodyPost_ret (v := .agg #[.int .i64 p, .slice A5 m c5]) (by simp [results, Try.results32, go_sem, r0, r1]) rfl ⟨p, A5, m, c5, L, rfl, ?_, hm, ?_⟩
  · exact (O5.out.setBoxed X5.out (by decide) _ _).setBoxed (X5.out.set _ _) (by decide) _ _
  · exact (HB5.out.setCell (Nat.le_refl _) _).setCell (Nat.le_refl _) _

set_option maxHeartbeats 1000000 in
theorem DrawStateText_ret (A : Option Addr) (n c : Nat) (w : World) (hn : n ≤ 4096) (hA : By w A n) (hl : ∀ ad, A = some ad → 0 < n → ad.block < w.heap.size) :
    Calls Try.prog 34 #[.slice A n c] w (RetSx w) := by
  have X0 := Lib.hid (Box.new w 26 #[.int .i64 0, .slice none 0 0])
  have HB0 := Lib.hid ((Below.refl w.heap.size w).alloc (Nat.le_refl _) (.cells #[.int .i64 0, .slice none 0 0] 26))
  have hA0 := Lib.hid (hA.below HB0.out)
  have hl0 : Hid (∀ ad, A = some ad → 0 < n → ad.block < (w.alloc (.cells #[.int .i64 0, .slice none 0 0] 26)).heap.size) := fun ad e h0 => by rw [World.size_alloc]; exact Nat.lt_succ_of_lt (hl ad e h0)
  have hs0 : (w.alloc (.cells #[.int .i64 0, .slice none 0 0] 26)).heap.size = w.heap.size + 1 := by simp
  go_enter Try.func34, Try.ntmps34
  go_wp2_with fail
  refine (l01From_calls A n c (w.alloc (.cells #[.int .i64 0, .slice none 0 0] 26)) hn hA0.out hl0.out).mono ?_
  rintro e w1 ⟨g, rfl, hgB, hS, hb⟩
  have HS1 := Lib.hid hS
  have hz1 := hb.size
  have X1 := Lib.hid (X0.out.below hb X0.out.lt)
  have HB1 := Lib.hid (HB0.out.trans (hb.mono HB0.out.size))
  rw [hs0] at hgB hz1
  have hne : some w.heap.size ≠ some g := fun e => by injection e with e; omega
  clear hS hb X0 HB0 hA0 hl0 hs0
  go_wp2_with fail
  refine (l01Spoil_ret g A n c _ hn HS1.out).mono ?_
  rintro e wz ⟨p, A5, m, c5, L, rfl, hO, hm, _, hS, hG⟩
  have X5 := Lib.hid (X1.out.grown hG hne)
  have HB5 := Lib.hid (HB1.out.trans (grown_below hG (by omega) (by omega)))
  have O5 := Lib.hid (hO.mono HB1.out.size)
  clear hO hS hG X1 HB1
  obtain ⟨r0, r1, rf0, rf1⟩ := X5.out.two
  go_wp2
  refine bodyPost_ret (v := .agg #[.int .i64 p, .slice A5 m c5]) (by simp [results, Try.results34, go_sem, r0, r1]) rfl ⟨p, A5, m, c5, L, rfl, ?_, hm, ?_⟩
  · exact (O5.out.setBoxed X5.out (by decide) _ _).setBoxed (X5.out.set _ _) (by decide) _ _
  · exact (HB5.out.setCell (Nat.le_refl _) _).setCell (Nat.le_refl _) _

def Ret3 (w : World) (e : Ending) (w' : World) : Prop := ∃ a b c : Int, e = .returned (.tuple #[.int .i64 a, .int .i64 b, .int .i64 c]) ∧ Below w.heap.size w w'
theorem wrap_sub1 (m : Int) (h0 : 0 ≤ m) (h1 : m ≤ 4294967296) : wrap64 (m - 1) = m - 1 := IntWalk.wrap64_in _ (by omega)

set_option maxHeartbeats 2000000 in
theorem DrawPerfectState_ret (A : Option Addr) (n c : Nat) (w : World) (hn : n ≤ 4096) (hA : By w A n) (hl : ∀ ad, A = some ad → 0 < n → ad.block < w.heap.size) :
    Calls Try.prog 20 #[.slice A n c] w (Ret3 w) := by
  go_enter Try.func20, Try.ntmps20
  go_wp2_with fail
  refine (l01From_calls A n c w hn hA hl).mono ?_
  rintro e w1 ⟨g, rfl, hgB, hS, hb⟩
  have HS := Lib.hid hS
  have HB := Lib.hid hb
  have hz1 := hb.size
  clear hS hb
  go_wp2_with fail
  refine (l01DrawSize_calls g A n c _ hn HS.out).mono ?_
  rintro e w2 ⟨k, m, rfl, hk, hm, hS, hG⟩
  have HB1 := Lib.hid (HB.out.trans (grown_below hG (by omega) HB.out.size))
  clear HB HS
  have HB := HB1
  have HS := Lib.hid hS
  clear hS hG HB1
  go_wp2_with fail
  refine (l01Next_calls g A n c 12 _ hn HS.out).mono ?_
  rintro e w3 ⟨x, rfl, hx, hS, hG⟩
  have HB1 := Lib.hid (HB.out.trans (grown_below hG (by omega) HB.out.size))
  clear HB HS
  have HB := HB1
  have HS := Lib.hid hS
  clear hS hG HB1 hx
  by_cases h0 : x = 0
  · subst h0
    go_wp2_with fail
    have hlt := HS.out.lt
    refine (l01Pick_calls g A n c _ 2 _ [2, 6] _ hn (by omega) (by omega) rfl (ints_new w3 2 _) (fun ad e => by injection e with e; subst e; simp only; omega) (HS.out.alloc _)).mono ?_
    rintro e w4 ⟨k2, rfl, hx, hS, hG⟩
    have hk2 : 2 ≤ k2 ∧ k2 ≤ 6 := by simp only [List.mem_cons, List.not_mem_nil, or_false] at hx; omega
    have HB1 := Lib.hid ((HB.out.alloc HB.out.size _).trans (grown_below hG (by omega) (HB.out.alloc HB.out.size _).size))
    clear HB HS
    have HB := HB1
    have HS := Lib.hid hS
    clear hS hG HB1 hx hlt
    have E := Lib.hid (wrap_sub1 (k2) (by omega) (by omega))
    go_wp2_with fail
    try simp only [E.out]
    refine (l01Near_calls g A n c (k2 - 1) _ hn (by omega) (by omega) HS.out).mono ?_
    rintro e w5 ⟨y, rfl, _, hS, hG⟩
    have HB1 := Lib.hid (HB.out.trans (grown_below hG (by omega) HB.out.size))
    go_wp2
    go_ret3
    exact ⟨_, _, _, rfl, HB1.out⟩
  · have hx0 : (x == 0) = false := by simpa using h0
    by_cases h1 : x = 1
    · subst h1
      clear h0 hx0
      go_wp2_with fail
      have hlt := HS.out.lt
      refine (l01Pick_calls g A n c _ 3 _ [-1, 6, 9] _ hn (by omega) (by omega) rfl (ints_new w3 2 _) (fun ad e => by injection e with e; subst e; simp only; omega) (HS.out.alloc _)).mono ?_
      rintro e w4 ⟨m2, rfl, hx, hS, hG⟩
      have HB1 := Lib.hid ((HB.out.alloc HB.out.size _).trans (grown_below hG (by omega) (HB.out.alloc HB.out.size _).size))
      clear HB HS
      have HB := HB1
      have HS := Lib.hid hS
      clear hS hG HB1 hx hlt
      have E := Lib.hid (wrap_sub1 (k) (by omega) (by omega))
      go_wp2_with fail
      try simp only [E.out]
      refine (l01Near_calls g A n c (k - 1) _ hn (by omega) (by omega) HS.out).mono ?_
      rintro e w5 ⟨y, rfl, _, hS, hG⟩
      have HB1 := Lib.hid (HB.out.trans (grown_below hG (by omega) HB.out.size))
      go_wp2
      go_ret3
      exact ⟨_, _, _, rfl, HB1.out⟩
    · have hx1 : (x == 1) = false := by simpa using h1
      have E := Lib.hid (wrap_sub1 (k) (by omega) (by omega))
      go_wp2_with fail
      try simp only [E.out]
      refine (l01Near_calls g A n c (k - 1) _ hn (by omega) (by omega) HS.out).mono ?_
      rintro e w5 ⟨y, rfl, _, hS, hG⟩
      have HB1 := Lib.hid (HB.out.trans (grown_below hG (by omega) HB.out.size))
      go_wp2
      go_ret3
      exact ⟨_, _, _, rfl, HB1.out⟩

set_option maxHeartbeats 1000000 in
theorem DrawIsPerfectState_ret (A : Option Addr) (n c : Nat) (w : World) (hn : n ≤ 4096) (hA : By w A n) (hl : ∀ ad, A = some ad → 0 < n → ad.block < w.heap.size) :
    Calls Try.prog 24 #[.slice A n c] w (RetSx w) := by
  have X0 := Lib.hid (Box.new w 26 #[.int .i64 0, .slice none 0 0])
  have HB0 := Lib.hid ((Below.refl w.heap.size w).alloc (Nat.le_refl _) (.cells #[.int .i64 0, .slice none 0 0] 26))
  have hA0 := Lib.hid (hA.below HB0.out)
  have hl0 : Hid (∀ ad, A = some ad → 0 < n → ad.block < (w.alloc (.cells #[.int .i64 0, .slice none 0 0] 26)).heap.size) := fun ad e h0 => by rw [World.size_alloc]; exact Nat.lt_succ_of_lt (hl ad e h0)
  have hs0 : (w.alloc (.cells #[.int .i64 0, .slice none 0 0] 26)).heap.size = w.heap.size + 1 := by simp
  go_enter Try.func24, Try.ntmps24
  go_wp2_with fail
  refine (l01From_calls A n c (w.alloc (.cells #[.int .i64 0, .slice none 0 0] 26)) hn hA0.out hl0.out).mono ?_
  rintro e w1 ⟨g, rfl, hgB, hS, hb⟩
  have HS1 := Lib.hid hS
  have hz1 := hb.size
  have X1 := Lib.hid (X0.out.below hb X0.out.lt)
  have HB1 := Lib.hid (HB0.out.trans (hb.mono HB0.out.size))
  rw [hs0] at hgB hz1
  have hne : some w.heap.size ≠ some g := fun e => by injection e with e; omega
  clear hS hb X0 HB0 hA0 hl0 hs0
  go_wp2_with fail
  refine (l01Next_calls g A n c 3 _ hn HS1.out).mono ?_
  rintro e w2 ⟨x, rfl, hx, hS, hG⟩
  have HS2 := Lib.hid hS
  have X2 := Lib.hid (X1.out.grown hG hne)
  have HB2 := Lib.hid (HB1.out.trans (grown_below hG (by omega) (by omega)))
  have hz2 := hG.size
  clear hS hG HS1 X1 HB1 hx
  by_cases h0 : x = 0
  · subst h0
    go_wp2_with fail
    refine (l01DrawSize_calls g A n c _ hn HS2.out).mono ?_
    rintro e w3 ⟨k, m0, rfl, hk, hm0, hS, hG⟩
    obtain ⟨q, rfl⟩ := Int.eq_ofNat_of_zero_le hm0.1
    have HS3 := Lib.hid hS
    have X3 := Lib.hid (X2.out.grown hG hne)
    have HB3 := Lib.hid (HB2.out.trans (grown_below hG (by omega) (by omega)))
    have hz3 := hG.size
    clear hS hG HS2 X2 HB2
    go_wp2_with fail
    refine (l01Next_calls g A n c k _ hn HS3.out).mono ?_
    rintro e w4 ⟨a, rfl, ha, hS, hG⟩
    have HS4 := Lib.hid hS
    have X4 := Lib.hid (X3.out.grown hG hne)
    have HB4 := Lib.hid (HB3.out.trans (grown_below hG (by omega) (by omega)))
    have hz4 := hG.size
    have hg4 := hS.lt
    clear hS hG HS3 X3 HB3
    go_wp2_with fail
    refine (l01Perfect_calls k a q _ (by omega)).mono ?_
    rintro e w5 ⟨Ap, cp, rfl, hO, hb⟩
    have HS5 := Lib.hid (HS4.out.below hb)
    have Xa := Lib.hid (X4.out.below hb X4.out.lt)
    have HBa := Lib.hid (HB4.out.trans (hb.mono HB4.out.size))
    have Op := Lib.hid hO
    have hz5 := hb.size
    clear hO hb HS4 X4 HB4
    go_wp2_with fail
    refine (l01Bad_ret g A n c k Ap q cp w4.heap.size _ _ hn HS5.out Op.out (by omega) (by omega) (by omega)).mono ?_
    rintro e w6 ⟨p, A5, m, c5, L, rfl, hO, hm, _, hS, hG⟩
    have X5 := Lib.hid (Xa.out.grown hG hne)
    have HB5 := Lib.hid (HBa.out.trans (grown_below hG (by omega) (by omega)))
    have O5 := Lib.hid (hO.mono (show w.heap.size ≤ w4.heap.size by omega))
    clear hO hS hG Xa HBa HS5 Op
    obtain ⟨r0, r1, rf0, rf1⟩ := X5.out.two
    go_wp2
    refine bodyPost_ret (v := .agg #[.int .i64 p, .slice A5 m c5]) (by simp [results, Try.results24, go_sem, r0, r1]) rfl ⟨p, A5, m, c5, L, rfl, ?_, hm, ?_⟩
    · exact (O5.out.setBoxed X5.out (by decide) _ _).setBoxed (X5.out.set _ _) (by decide) _ _
    · exact (HB5.out.setCell (Nat.le_refl _) _).setCell (Nat.le_refl _) _
  · have e0 : (x == 0) = false := by simpa using h0
    go_wp2_with fail
    refine (l01Spoil_ret g A n c _ hn HS2.out).mono ?_
    rintro e wz ⟨p, A5, m, c5, L, rfl, hO, hm, _, hS, hG⟩
    have X5 := Lib.hid (X2.out.grown hG hne)
    have HB5 := Lib.hid (HB2.out.trans (grown_below hG (by omega) (by omega)))
    have O5 := Lib.hid (hO.mono HB2.out.size)
    clear hO hS hG X2 HB2
    obtain ⟨r0, r1, rf0, rf1⟩ := X5.out.two
    go_wp2
    refine bodyPost_ret (v := .agg #[.int .i64 p, .slice A5 m c5]) (by simp [results, Try.results24, go_sem, r0, r1]) rfl ⟨p, A5, m, c5, L, rfl, ?_, hm, ?_⟩
    · exact (O5.out.setBoxed X5.out (by decide) _ _).setBoxed (X5.out.set _ _) (by decide) _ _
    · exact (HB5.out.setCell (Nat.le_refl _) _).setCell (Nat.le_refl _) _

set_option maxHeartbeats 2000000 in
theorem DrawStateOfRank_ret (A : Option Addr) (n c : Nat) (w : World) (hn : n ≤ 4096) (hA : By w A n) (hl : ∀ ad, A = some ad → 0 < n → ad.block < w.heap.size) :
    Calls Try.prog 26 #[.slice A n c] w (Ret3 w) := by
  go_enter Try.func26, Try.ntmps26
  go_wp2_with fail
  refine (l01From_calls A n c w hn hA hl).mono ?_
  rintro e w1 ⟨g, rfl, hgB, hS, hb⟩
  have HS := Lib.hid hS
  have HB := Lib.hid hb
  have hz1 := hb.size
  clear hS hb
  go_wp2_with fail
  refine (l01DrawSize_calls g A n c _ hn HS.out).mono ?_
  rintro e w2 ⟨k, m, rfl, hk, hm, hS, hG⟩
  have HB1 := Lib.hid (HB.out.trans (grown_below hG (by omega) HB.out.size))
  clear HB HS
  have HB := HB1
  have HS := Lib.hid hS
  clear hS hG HB1
  obtain ⟨q, rfl⟩ := Int.eq_ofNat_of_zero_le hm.1
  have hpw := powI_bd k (by omega) (by omega) q (by omega)
  go_wp2_with fail
  refine (l01Size_calls k q _ (by omega) (by omega) (by omega)).mono ?_
  rintro e wq ⟨rfl, rfl⟩
  have E := Lib.hid (wrap_sub1 (powI k q) (by omega) (by omega))
  generalize powI k q = P at *
  go_wp2_with fail
  try simp only [E.out]
  refine (l01Near_calls g A n c (P - 1) _ hn (by omega) (by omega) HS.out).mono ?_
  rintro e w4 ⟨r, rfl, _, hS, hG⟩
  have HB1 := Lib.hid (HB.out.trans (grown_below hG (by omega) HB.out.size))
  clear HB HS
  have HB := HB1
  have HS := Lib.hid hS
  clear hS hG HB1
  go_wp2_with fail
  refine (l01Next_calls g A n c 16 _ hn HS.out).mono ?_
  rintro e w5 ⟨x, rfl, hx, hS, hG⟩
  have HB1 := Lib.hid (HB.out.trans (grown_below hG (by omega) HB.out.size))
  clear HB HS
  have HB := HB1
  have HS := Lib.hid hS
  clear hS hG HB1 hx
  by_cases h0 : x = 0
  · subst h0
    go_wp2_with fail
    have hlt := HS.out.lt
    refine (l01Pick_calls g A n c _ 2 _ [-1, 9] _ hn (by omega) (by omega) rfl (ints_new w5 2 _) (fun ad e => by injection e with e; subst e; simp only; omega) (HS.out.alloc _)).mono ?_
    rintro e w6 ⟨m2, rfl, hx, hS, hG⟩
    have HB1 := Lib.hid ((HB.out.alloc HB.out.size _).trans (grown_below hG (by omega) (HB.out.alloc HB.out.size _).size))
    clear HB HS hS hG
    go_wp2
    go_ret3
    exact ⟨_, _, _, rfl, HB1.out⟩
  · have hx0 : (x == 0) = false := by simpa using h0
    go_wp2
    go_ret3
    exact ⟨_, _, _, rfl, HB.out⟩

def RetT1 (w : World) (e : Ending) (w' : World) : Prop :=
  ∃ (p : Int) (A' : Option Addr) (m c' : Nat) (L : List Int) (i : Int), e = .returned (.tuple #[.agg #[.int .i64 p, .slice A' m c'], .int .i64 i]) ∧ Own w.heap.size w' A' m c' L ∧ m ≤ 10 ∧ Below w.heap.size w w'
def RetT2 (w : World) (e : Ending) (w' : World) : Prop :=
  ∃ (p : Int) (A' : Option Addr) (m c' : Nat) (L : List Int) (B : Option Addr) (q d : Nat) (P : List Int), e = .returned (.tuple #[.agg #[.int .i64 p, .slice A' m c'], .slice B q d]) ∧ Own w.heap.size w' A' m c' L ∧ m ≤ 10 ∧ Own w.heap.size w' B q d P ∧ q ≤ 7 ∧ Below w.heap.size w w'
theorem topk (p : Int) : 0 ≤ IntKind.i64.wrap ((if 5 < if p < 1 then 1 else p then 5 else if p < 1 then 1 else p) - 1) ∧ IntKind.i64.wrap ((if 5 < if p < 1 then 1 else p then 5 else if p < 1 then 1 else p) - 1) ≤ 4 := by
  rw [IntWalk.i64_in _ (by split <;> split <;> omega)]
  split <;> split <;> omega
theorem renk (p : Int) : ∃ q : Nat, 1 ≤ q ∧ q ≤ 6 ∧ (if 6 < if p < 2 then 2 else p then 6 else if p < 2 then 2 else p) = (q : Int) := by
  obtain ⟨q, hq⟩ := Int.eq_ofNat_of_zero_le (show 0 ≤ (if 6 < if p < 2 then 2 else p then 6 else if p < 2 then 2 else p) by split <;> split <;> omega)
  refine ⟨q, ?_, ?_, hq⟩
  · have : 1 ≤ (if 6 < if p < 2 then 2 else p then 6 else if p < 2 then 2 else p) := by split <;> split <;> omega
    omega
  · have : (if 6 < if p < 2 then 2 else p then 6 else if p < 2 then 2 else p) ≤ 6 := by split <;> split <;> omega
    omega


set_option maxRecDepth 100000 in
set_option maxHeartbeats 1000000 in
theorem DrawTopOf_ret (A : Option Addr) (n c : Nat) (w : World) (hn : n ≤ 4096) (hA : By w A n) (hl : ∀ ad, A = some ad → 0 < n → ad.block < w.heap.size) :
    Calls Try.prog 30 #[.slice A n c] w (RetT1 w) := by
  have X0 := Lib.hid (Box.new w 26 #[.int .i64 0, .slice none 0 0])
  have HB0 := Lib.hid ((Below.refl w.heap.size w).alloc (Nat.le_refl _) (.cells #[.int .i64 0, .slice none 0 0] 26))
  have hA0 := Lib.hid (hA.below HB0.out)
  have hl0 : Hid (∀ ad, A = some ad → 0 < n → ad.block < (w.alloc (.cells #[.int .i64 0, .slice none 0 0] 26)).heap.size) := fun ad e h0 => by rw [World.size_alloc]; exact Nat.lt_succ_of_lt (hl ad e h0)
  have hs0 : (w.alloc (.cells #[.int .i64 0, .slice none 0 0] 26)).heap.size = w.heap.size + 1 := by simp
  go_enter Try.func30, Try.ntmps30
  go_wp2_with fail
  refine (l01From_calls A n c (w.alloc (.cells #[.int .i64 0, .slice none 0 0] 26)) hn hA0.out hl0.out).mono ?_
  rintro e w1 ⟨g, rfl, hgB, hS, hb⟩
  have HS1 := Lib.hid hS
  have hz1 := hb.size
  have X1 := Lib.hid (X0.out.below hb X0.out.lt)
  have HB1 := Lib.hid (HB0.out.trans (hb.mono HB0.out.size))
  rw [hs0] at hgB hz1
  have hne : some w.heap.size ≠ some g := fun e => by injection e with e; omega
  clear hS hb X0 HB0 hA0 hl0 hs0
  go_wp2_with fail
  refine (l01Spoil_ret g A n c _ hn HS1.out).mono ?_
  rintro e wz ⟨p, A5, m, c5, L, rfl, hO, hm, _, hS, hG⟩
  have X5 := Lib.hid (X1.out.grown hG hne)
  have HB5 := Lib.hid (HB1.out.trans (grown_below hG (by omega) (by omega)))
  have O5 := Lib.hid (hO.mono HB1.out.size)
  have HS5 := Lib.hid hS
  clear hO hS hG X1 HB1 HS1
  have O3 := Lib.hid (Box.new wz 26 #[.int .i64 p, .slice A5 m c5])
  have X3 := Lib.hid (X5.out.alloc (.cells #[.int .i64 p, .slice A5 m c5] 26))
  have HS3 := Lib.hid (HS5.out.alloc (.cells #[.int .i64 p, .slice A5 m c5] 26))
  have HB3 := Lib.hid (HB5.out.alloc HB5.out.size (.cells #[.int .i64 p, .slice A5 m c5] 26))
  have L3 := Lib.hid (OwnG.alloc O5.out (.cells #[.int .i64 p, .slice A5 m c5] 26))
  have hob : w.heap.size < wz.heap.size := X5.out.lt
  have hgo : g < wz.heap.size := HS5.out.lt
  clear X5 HS5 HB5 O5
  go_upto_region 3 with (fail)
  generalize wz.alloc (.cells #[.int .i64 p, .slice A5 m c5] 26) = wo at *
  generalize wz.heap.size = ob at *
  obtain ⟨k0, k1, kf0, kf1⟩ := O3.out.two
  have hxo := X3.out.lt
  go_region_law (go_simp; go_at_call 57; refine (l01Near_calls g A n c _ _ hn (topk p).1 (Int.le_trans (topk p).2 (by decide)) (Src.drews HS3.out)).mono ?_; rintro e w' ⟨i, rfl, _, hS, hG⟩; have Xn := X3.out.grown (w' := w') (w := wo.drew) hG (by intro e; injection e with e; omega); have On := O3.out.grown (w' := w') (w := wo.drew) hG (by intro e; injection e with e; omega); obtain ⟨q0, q1, _, _⟩ := On.two; obtain ⟨y0, y1, yf0, yf1⟩ := Xn.two; try dsimp only)
  all_goals (
    have Xm := Lib.hid Xn
    have HBm := Lib.hid (HB3.out.drew.trans (grown_below hG (by omega) (show w.heap.size ≤ wo.drew.heap.size from Nat.le_of_lt hxo)))
    have Lm := Lib.hid (OwnG.kept (show Own w.heap.size wo.drew A5 m c5 L from L3.out) hG (own_src (show Own w.heap.size wo.drew A5 m c5 L from L3.out) (Src.drews HS3.out)))
    skip
    clear Xn On hG k0 k1 kf0 kf1 q0 q1 X3 O3 HS3 HB3 L3
    go_wp2
    all_goals (refine bodyPost_ret (v := .tuple #[.agg #[.int .i64 p, .slice A5 m c5], .int .i64 i]) (by simp [results, Try.results30, go_sem, y0, y1]) rfl ⟨p, A5, m, c5, L, i, rfl, (Lm.out.setBoxed Xm.out (by decide) _ _).setBoxed (Xm.out.set _ _) (by decide) _ _, hm, (HBm.out.setCell (Nat.le_refl _) _).setCell (Nat.le_refl _) _⟩))


set_option maxRecDepth 100000 in
set_option maxHeartbeats 1000000 in
theorem DrawRenamePegs_ret (A : Option Addr) (n c : Nat) (w : World) (hn : n ≤ 4096) (hA : By w A n) (hl : ∀ ad, A = some ad → 0 < n → ad.block < w.heap.size) :
    Calls Try.prog 16 #[.slice A n c] w (RetT2 w) := by
  have X0 := Lib.hid (Box.new w 26 #[.int .i64 0, .slice none 0 0])
  have HB0 := Lib.hid ((Below.refl w.heap.size w).alloc (Nat.le_refl _) (.cells #[.int .i64 0, .slice none 0 0] 26))
  have hA0 := Lib.hid (hA.below HB0.out)
  have hl0 : Hid (∀ ad, A = some ad → 0 < n → ad.block < (w.alloc (.cells #[.int .i64 0, .slice none 0 0] 26)).heap.size) := fun ad e h0 => by rw [World.size_alloc]; exact Nat.lt_succ_of_lt (hl ad e h0)
  have hs0 : (w.alloc (.cells #[.int .i64 0, .slice none 0 0] 26)).heap.size = w.heap.size + 1 := by simp
  go_enter Try.func16, Try.ntmps16
  go_wp2_with fail
  refine (l01From_calls A n c (w.alloc (.cells #[.int .i64 0, .slice none 0 0] 26)) hn hA0.out hl0.out).mono ?_
  rintro e w1 ⟨g, rfl, hgB, hS, hb⟩
  have HS1 := Lib.hid hS
  have hz1 := hb.size
  have X1 := Lib.hid (X0.out.below hb X0.out.lt)
  have HB1 := Lib.hid (HB0.out.trans (hb.mono HB0.out.size))
  rw [hs0] at hgB hz1
  have hne : some w.heap.size ≠ some g := fun e => by injection e with e; omega
  clear hS hb X0 HB0 hA0 hl0 hs0
  go_wp2_with fail
  refine (l01Spoil_ret g A n c _ hn HS1.out).mono ?_
  rintro e wz ⟨p, A5, m, c5, L, rfl, hO, hm, _, hS, hG⟩
  have X5 := Lib.hid (X1.out.grown hG hne)
  have HB5 := Lib.hid (HB1.out.trans (grown_below hG (by omega) (by omega)))
  have O5 := Lib.hid (hO.mono HB1.out.size)
  have HS5 := Lib.hid hS
  clear hO hS hG X1 HB1 HS1
  have O3 := Lib.hid (Box.new wz 26 #[.int .i64 p, .slice A5 m c5])
  have X3 := Lib.hid (X5.out.alloc (.cells #[.int .i64 p, .slice A5 m c5] 26))
  have HS3 := Lib.hid (HS5.out.alloc (.cells #[.int .i64 p, .slice A5 m c5] 26))
  have HB3 := Lib.hid (HB5.out.alloc HB5.out.size (.cells #[.int .i64 p, .slice A5 m c5] 26))
  have L3 := Lib.hid (OwnG.alloc O5.out (.cells #[.int .i64 p, .slice A5 m c5] 26))
  have hob : w.heap.size < wz.heap.size := X5.out.lt
  have hgo : g < wz.heap.size := HS5.out.lt
  clear X5 HS5 HB5 O5
  go_upto_region 3 with (fail)
  generalize wz.alloc (.cells #[.int .i64 p, .slice A5 m c5] 26) = wo at *
  generalize wz.heap.size = ob at *
  obtain ⟨k0, k1, kf0, kf1⟩ := O3.out.two
  have hxo := X3.out.lt
  go_region_law (go_simp; go_at_call 48; obtain ⟨k, hk1, hk6, hk⟩ := renk p; rw [hk]; refine (l01DrawOrder_ret g A n c k _ hn (Src.drews HS3.out) hk6 hk1).mono ?_; rintro e w' ⟨B, q, d, P, rfl, hP, hq, hS, hG⟩; have Xn := X3.out.grown (w' := w') (w := wo.drew) hG (by intro e; injection e with e; omega); have On := O3.out.grown (w' := w') (w := wo.drew) hG (by intro e; injection e with e; omega); obtain ⟨q0, q1, _, _⟩ := On.two; obtain ⟨y0, y1, yf0, yf1⟩ := Xn.two; try dsimp only)
  all_goals (
    have Xm := Lib.hid Xn
    have HBm := Lib.hid (HB3.out.drew.trans (grown_below hG (by omega) (show w.heap.size ≤ wo.drew.heap.size from Nat.le_of_lt hxo)))
    have Lm := Lib.hid (OwnG.kept (show Own w.heap.size wo.drew A5 m c5 L from L3.out) hG (own_src (show Own w.heap.size wo.drew A5 m c5 L from L3.out) (Src.drews HS3.out)))
    have Pm := Lib.hid (OwnG.mono hP (show w.heap.size ≤ wo.drew.heap.size from Nat.le_of_lt hxo))
    clear Xn On hG k0 k1 kf0 kf1 q0 q1 X3 O3 HS3 HB3 L3
    go_wp2
    all_goals (refine bodyPost_ret (v := .tuple #[.agg #[.int .i64 p, .slice A5 m c5], .slice B q d]) (by simp [results, Try.results16, go_sem, y0, y1]) rfl ⟨p, A5, m, c5, L, B, q, d, P, rfl, (Lm.out.setBoxed Xm.out (by decide) _ _).setBoxed (Xm.out.set _ _) (by decide) _ _, hm, (OwnG.setBoxed (OwnG.setBoxed Pm.out Xm.out (by decide) _ _) (Xm.out.set _ _) (by decide) _ _), hq, (HBm.out.setCell (Nat.le_refl _) _).setCell (Nat.le_refl _) _⟩))


theorem ok_at {p : Int} {L : List Int} (h : ∀ x ∈ L, 0 ≤ x ∧ x ≤ p - 1) (k : Nat) (hk : k < L.length) : 0 ≤ L[k]?.getD 0 ∧ L[k]?.getD 0 ≤ p - 1 := by
  rw [List.getElem?_eq_getElem hk]
  exact h _ (List.getElem_mem hk)
set_option maxHeartbeats 1000000 in
theorem l01Text_any (A : Option Addr) (n c : Nat) (p : Int) (L : List Int) (w : World) (hL : L.length = n) (hI : Ints w A L) (hs : okDr p L) :
    Calls Try.prog 66 #[.agg #[.int .i64 p, .slice A n c]] w fun e w' => e = .returned (.string (tsS p L n)) ∧ Below w.heap.size w w' := by
  obtain ⟨⟨h3, h5⟩, hxs, h8'⟩ := hs
  have h8 : n ≤ 8 := by omega
  have HL : Hid (L.length = n) := hL
  have HS := Lib.hid hxs
  have HI := Lib.hid hI
  have HB0 := Lib.hid ((Below.refl w.heap.size w).alloc (Nat.le_refl _) (.cells #[.int .i64 p, .slice A n c] 26))
  have X0 := Lib.hid (Box.new w 26 #[.int .i64 p, .slice A n c])
  clear hL hI hxs h8'
  go_enter Try.func66, Try.ntmps66
  go_wp2_with fail
  refine (l01Dec_calls p _ (by omega) (by omega)).mono ?_
  rintro e w1 ⟨rfl, hb1⟩
  have X1 := Lib.hid (Box.below X0.out hb1 (Box.lt X0.out))
  have HB1 := Lib.hid (HB0.out.trans (hb1.mono HB0.out.size))
  clear hb1
  obtain ⟨c0, c1, _, _⟩ := X1.out.two
  go_wp2
  go_loopw [3, 4] (fun s i wr => ∃ k m : Nat, m + k = n ∧ i = .int .i64 ((m : Int) - 1) ∧ s = .string (tsS p L k) ∧ Box wr w.heap.size 26 #[.int .i64 p, .slice A n c] ∧ Below w.heap.size w wr) (fun _ i _ => (intOf i + 1).toNat)
  case atStart => exact ⟨0, n, by omega, rfl, by rw [tsS_zero], X1.out, HB1.out⟩
  case round =>
    obtain ⟨k, m, hkm, rfl, rfl, hbx, hb⟩ := hrel
    have HKM := Lib.hid hkm
    have HX := Lib.hid hbx
    have HB := Lib.hid hb
    have hk8 : k ≤ 8 := by omega
    clear hbx hb
    obtain ⟨x0, x1, _, _⟩ := HX.out.two
    by_cases hm : 0 < m
    · obtain ⟨j, rfl⟩ : ∃ j, m = j + 1 := ⟨m - 1, by omega⟩
      have hj : j < n := by omega
      obtain ⟨ad, rfl, had, hc⟩ := (HI.out.below HB.out) j (by rw [HL.out]; exact hj)
      have hx := ok_at HS.out j (by rw [HL.out]; exact hj)
      have hst : Hid (tsS p L (k + 1) = tsS p L k ++ ⟨#[dg (L[j]?.getD 0)]⟩) := by
        unfold Hid
        rw [tsS_succ, HL.out, show n - 1 - k = j by omega, List.getD_eq_getElem?_getD]
      have hsz : (tsS p L k).size ≤ 10 := by rw [tsS_size]; omega
      have hidx : ((j + 1 : Nat) : Int) - 1 = (j : Int) := by omega
      have hj1 : (j : Int) < (n : Int) := by omega
      rw [hidx]
      clear hidx hkm
      generalize tsS p L k = S at *
      go_wp2_with fail
      refine (l01Dec_calls (L[j]?.getD 0) _ (by omega) (by omega)).mono ?_
      rintro e w2 ⟨rfl, hb2⟩
      have HX2 := Lib.hid (Box.below HX.out hb2 (Box.lt HX.out))
      have HB2 := Lib.hid (HB.out.trans (hb2.mono HB.out.size))
      clear hb2
      go_wp2
      go_roundw
      case rel => exact ⟨k + 1, j, by have := HKM.out; omega, rfl, by rw [hst.out], HX2.out, HB2.out⟩
      case measure => simp [intOf]
    · obtain rfl : m = 0 := by omega
      obtain rfl : k = n := by omega
      go_wp2
      go_ret
      exact ⟨rfl, HB.out⟩

set_option maxRecDepth 100000 in
set_option maxHeartbeats 2000000 in
theorem DrawParseState_calls (A : Option Addr) (n c : Nat) (w : World) (hn : n ≤ 4096) (hA : By w A n) (hl : ∀ ad, A = some ad → 0 < n → ad.block < w.heap.size) :
    Calls Try.prog 28 #[.slice A n c] w fun e w' => ∃ t : ByteArray, e = .returned (.string t) ∧ t.size ≤ 1000000000000000000 ∧ Below w.heap.size w w' := by
  obtain ⟨T, hT⟩ := top_is
  have HT := Lib.hid hT
  have hT1 := hT.1
  clear hT
  go_enter Try.func28, Try.ntmps28
  go_wp2_with fail
  refine (l01From_calls A n c _ hn hA hl).mono ?_
  rintro e w1 ⟨g, rfl, hgB, hS, hb⟩
  have HS1 := Lib.hid hS
  have HB1 := Lib.hid hb
  have hz1 := hb.size
  clear hS hb
  go_wp2_with fail
  refine (l01Draw_ret g A n c _ hn HS1.out).mono ?_
  rintro e w3 ⟨p, A', j, c', L, rfl, hO, hj, hok, hS, hG⟩
  have HS3 := Lib.hid hS
  have HB3 := Lib.hid (HB1.out.trans (grown_below hG (by omega) (by omega)))
  have hz3 := HB3.out.size
  have HO3 := Lib.hid hO.ints
  have HLn := Lib.hid (Own.len hO)
  have HRg := Lib.hid hok
  clear hO hok hS hG HS1 HB1
  go_wp2_with fail
  refine (l01Text_any A' j c' p L _ HLn.out HO3.out HRg.out).mono ?_
  rintro e w4 ⟨rfl, hb⟩
  have HB4 := Lib.hid (HB3.out.trans (hb.mono HB3.out.size))
  obtain ⟨k0, h0, hS4⟩ := HS3.out.below hb
  have HS4 := Lib.hid hS4
  obtain ⟨m0, hm0, hL0⟩ := left_any (h := h0) HT.out hS4.1
  have HL0 := Lib.hid hL0
  have hsz : (tsS p L j).size ≤ 12 := by rw [tsS_size]; omega
  generalize tsS p L j = t0 at *
  clear hb hS4 hL0 HS3 HB3 HO3
  go_wp2
  go_loopg [4] m0 (fun m v wr => ∃ (t : ByteArray) (k h : Nat), v = .string t ∧ t.size + m ≤ 100000000000000000 ∧ Left T n k h m ∧ SrcAt wr g A n c k h ∧ Below w.heap.size w wr)
  case atStart => exact ⟨t0, k0, h0, rfl, by omega, HL0.out, HS4.out, HB4.out⟩
  case round =>
    obtain ⟨t, k, h, rfl, htm, hLf, hS, hB⟩ := hrel
    have HLf := Lib.hid hLf
    have HSr := Lib.hid hS
    have HBr := Lib.hid hB
    have hzr := hB.size
    clear hLf hS hB HS4 HB4 HL0
    go_wp2_with fail
    refine (l01Next_at g A n c k h 3 _ hn (by omega) HSr.out).mono ?_
    rintro e w5 ⟨x, k1, rfl, hx, hS, ha, hb, hG⟩
    have HS5 := Lib.hid hS
    have HB5 := Lib.hid (HBr.out.trans (grown_below hG (by omega) (by omega)))
    have hz5 := HB5.out.size
    have HA := Lib.hid ha
    have HBb := Lib.hid hb
    clear hS hG ha hb HSr HBr
    by_cases hx0 : x = 0
    · have HX := Lib.hid hx0
      have e0 : (x == 0) = true := by simpa using hx0
      clear hx0
      go_wp2_with fail
      refine (l01Damage_at g A n c k1 (nx h) t _ hn (by omega) HS5.out).mono ?_
      rintro e w6 ⟨u, k2, h2, rfl, hu, hk12, hk2n, hh, hS, hG⟩
      have HB6 := Lib.hid (HB5.out.trans (grown_below hG (by omega) (by omega)))
      have HS6 := Lib.hid hS
      obtain ⟨m', hm', hL'⟩ := left_next HT.out HLf.out HA.out HBb.out HX.out hk12 hk2n (h2 := h2) hh
      have HL' := Lib.hid hL'
      clear hS hG hL' hh
      go_wp2
      go_roundg m'
      case measure => exact hm'
      case rel => exact ⟨u, k2, h2, rfl, by omega, HL'.out, HS6.out, HB6.out⟩
    · have e0 : (x == 0) = false := by simpa using hx0
      clear hx0
      go_wp2
      go_ret
      exact ⟨t, rfl, by omega, HB5.out⟩
end Go.Proofs.Ytfdjlgpdbgmdkaa
