/- Contracts: what the law FnWays draws from its code: a state and a peg. · Contracts: what the law FnWays draws from its code: two states and a peg. · Contracts: the great laws' helpers over moves and states. · Contracts: the walk of the great law FnWays, of a code of at most 4096 bytes. -/
import Derived.Test.YtnbjnlgdolhlmaaPk9
import Derived.Deep.Cut
import Derived.Test.YtnbjnlgdolhlmaaPk6
import Derived.Test.YtnbjnlgdolhlmaaPk5
import Derived.Deep.RegionHeld3
import Derived.Deep.RegionLaw
import Derived.BigQuiet
import Derived.IntWalk
import Derived.Test.YtnbjnlgdolhlmaaPk1
import Derived.Test.YtnbjnlgdolhlmaaPk2
namespace Go.Proofs.Ytnbjnlgdolhlmaa
open Go.RowKit
set_option linter.unusedVariables false

set_option maxHeartbeats 1000000 in
theorem l02Draw_ret (g : Nat) (A : Option Addr) (n c : Nat) (w : World) (hn : n ≤ 4096) (h : Src w g A n c) :
    Calls Try.prog 50 #[.pointer (some ⟨g, 0, none⟩)] w (RetBd w.heap.size w g A n c) := by
  have hgw := h.lt
  have HS0 := Lib.hid (h.alloc (.cells #[.int .i64 0, .slice none 0 0] 26))
  have X0 := Lib.hid (Box.new w 26 #[.int .i64 0, .slice none 0 0])
  have HG0 := Lib.hid (grown_alloc (World.grownBy.refl w (some g)) (.cells #[.int .i64 0, .slice none 0 0] 26))
  have hne : some w.heap.size ≠ some g := fun e => by injection e with e; omega
  clear h
  go_enter Try.func50, Try.ntmps50
  go_wp2_with fail
  refine (l01Next_calls g A n c 12 _ hn HS0.out).mono ?_
  rintro e w1 ⟨x, rfl, hx, hS, hG⟩
  have HS1 := Lib.hid hS
  have X1 := Lib.hid (X0.out.grown hG hne)
  have HG1 := Lib.hid (HG0.out.trans hG)
  have hs1 := HG1.out.size
  clear hS hG HS0 X0 HG0 hx
  by_cases h0 : x = 0
  · subst h0
    go_wp2_with fail
    refine (l01Spoil_ret g A n c _ hn HS1.out).mono ?_
    rintro e w2 ⟨p, A', m, c', L, rfl, hO, hm, _, hS, hG⟩
    have HS2 := Lib.hid hS
    have X2 := Lib.hid (X1.out.grown hG hne)
    have HG2 := Lib.hid (HG1.out.trans hG)
    have O2 := Lib.hid (hO.mono hs1)
    clear hS hG hO HS1 X1 HG1
    obtain ⟨r0, r1, rf0, rf1⟩ := X2.out.two
    go_wp2
    refine bodyPost_ret (v := .agg #[.int .i64 p, .slice A' m c']) (by simp [results, Try.results50, go_sem, r0, r1]) rfl ⟨p, A', m, c', L, rfl, ?_, hm, trivial, ?_, ?_⟩
    · exact (O2.out.setBoxed X2.out (by decide) _ _).setBoxed (X2.out.set _ _) (by decide) _ _
    · exact (HS2.out.setNew (by omega) hgw _).setNew (by omega) hgw _
    · exact grown_setNew (grown_setNew HG2.out (Nat.le_refl _) _) (Nat.le_refl _) _
  · have e0 : (x == 0) = false := by simpa using h0
    go_wp2_with fail
    have hlt := HS1.out.lt
    refine (l01Pick_calls g A n c _ 10 _ [0, 1, 2, 3, 3, 4, 5, 6, 7, 8] _ hn (by omega) (by omega) rfl (ints_new w1 2 _) (fun ad e => by injection e with e; subst e; simp only; omega) (HS1.out.alloc _)).mono ?_
    rintro e w2 ⟨k, rfl, hx, hS, hG⟩
    have hk : 0 ≤ k ∧ k ≤ 8 := by simp only [List.mem_cons, List.not_mem_nil, or_false] at hx; omega
    have HS2 := Lib.hid hS
    have X2 := Lib.hid ((X1.out.alloc _).grown hG hne)
    have HG2 := Lib.hid ((grown_alloc HG1.out _).trans hG)
    have hs2 := HG2.out.size
    clear hS hG hx hlt HS1 X1 HG1
    obtain ⟨j, rfl⟩ := Int.eq_ofNat_of_zero_le hk.1
    go_wp2_with fail
    refine (l01DrawOf_calls g A n c 3 j _ hn HS2.out (by omega) (by omega)).mono ?_
    rintro e w3 ⟨A', c', L, rfl, hO, _, hS, hG⟩
    have HS3 := Lib.hid hS
    have X3 := Lib.hid (X2.out.grown hG hne)
    have HG3 := Lib.hid (HG2.out.trans hG)
    have O3 := Lib.hid (hO.mono hs2)
    clear hS hG hO HS2 X2 HG2
    obtain ⟨r0, r1, rf0, rf1⟩ := X3.out.two
    go_wp2
    refine bodyPost_ret (v := .agg #[.int .i64 3, .slice A' j c']) (by simp [results, Try.results50, go_sem, r0, r1]) rfl ⟨3, A', j, c', L, rfl, ?_, (by omega), trivial, ?_, ?_⟩
    · exact (O3.out.setBoxed X3.out (by decide) _ _).setBoxed (X3.out.set _ _) (by decide) _ _
    · exact (HS3.out.setNew (by omega) hgw _).setNew (by omega) hgw _
    · exact grown_setNew (grown_setNew HG3.out (Nat.le_refl _) _) (Nat.le_refl _) _

/-- A state and a peg that have been drawn. -/
def RetPg (w : World) (e : Ending) (w' : World) : Prop :=
  ∃ (p : Int) (A' : Option Addr) (m c' : Nat) (L : List Int) (a : Int), e = .returned (.tuple #[.agg #[.int .i64 p, .slice A' m c'], .int .i64 a]) ∧ Own w.heap.size w' A' m c' L ∧ m ≤ 10 ∧ Below w.heap.size w w'

set_option maxHeartbeats 1000000 in
theorem l02Peg_ret (A : Option Addr) (n c : Nat) (w : World) (hn : n ≤ 4096) (hA : By w A n) (hl : ∀ ad, A = some ad → 0 < n → ad.block < w.heap.size) :
    Calls Try.prog 26 #[.slice A n c] w (RetPg w) := by
  have X0 := Lib.hid (Box.new w 26 #[.int .i64 0, .slice none 0 0])
  have HB0 := Lib.hid ((Below.refl w.heap.size w).alloc (Nat.le_refl _) (.cells #[.int .i64 0, .slice none 0 0] 26))
  have hA0 := Lib.hid (hA.below HB0.out)
  have hl0 : Hid (∀ ad, A = some ad → 0 < n → ad.block < (w.alloc (.cells #[.int .i64 0, .slice none 0 0] 26)).heap.size) := fun ad e h0 => by rw [World.size_alloc]; exact Nat.lt_succ_of_lt (hl ad e h0)
  have hs0 : (w.alloc (.cells #[.int .i64 0, .slice none 0 0] 26)).heap.size = w.heap.size + 1 := by simp
  go_enter Try.func26, Try.ntmps26
  go_wp2_with fail
  refine (l01From_calls A n c (w.alloc (.cells #[.int .i64 0, .slice none 0 0] 26)) hn hA0.out hl0.out).mono ?_
  rintro e w1 ⟨g, rfl, hgB, hS, hb⟩
  have HS1 := Lib.hid hS
  have hz1 := hb.size
  have X1 := Lib.hid (X0.out.below hb X0.out.lt)
  have HB1 := Lib.hid (HB0.out.trans (hb.mono HB0.out.size))
  rw [hs0] at hgB hz1
  have hne : some w.heap.size ≠ some g := fun e => by injection e with e; omega
  clear hS hb X0 HB0 hA0 hl0 hs0
  go_wp2_with fail
  refine (l02Draw_ret g A n c _ hn HS1.out).mono ?_
  rintro e w2 ⟨p, A', m, c', L, rfl, hO, hm, _, hS, hG⟩
  have HS2 := Lib.hid hS
  have X2 := Lib.hid (X1.out.grown hG hne)
  have HB2 := Lib.hid (HB1.out.trans (grown_below hG (by omega) (by omega)))
  have O2 := Lib.hid (hO.mono HB1.out.size)
  have hz2 := hG.size
  clear hO hS hG HS1 X1 HB1
  go_wp2_with fail
  refine (l01Next_calls g A n c 3 _ hn HS2.out).mono ?_
  rintro e w3 ⟨x, rfl, hx, hS, hG⟩
  have HS3 := Lib.hid hS
  have X3 := Lib.hid (X2.out.grown hG hne)
  have HB3 := Lib.hid (HB2.out.trans (grown_below hG (by omega) (by omega)))
  have O3 := Lib.hid (O2.out.kept hG (own_src O2.out HS2.out))
  have hz3 := hG.size
  clear hS hG HS2 X2 HB2 O2 hx
  go_wp2_with fail
  refine (l01Next_calls g A n c 24 _ hn HS3.out).mono ?_
  rintro e w4 ⟨y, rfl, hx, hS, hG⟩
  have X4 := Lib.hid (X3.out.grown hG hne)
  have HB4 := Lib.hid (HB3.out.trans (grown_below hG (by omega) (by omega)))
  have O4 := Lib.hid (O3.out.kept hG (own_src O3.out HS3.out))
  clear hS hG HS3 X3 HB3 O3 hx
  obtain ⟨r0, r1, rf0, rf1⟩ := X4.out.two
  go_wp2
  refine bodyPost_ret (by simp [results, Try.results26, go_sem, r0, r1]; rfl) rfl ⟨p, A', m, c', L, _, rfl, ?_, hm, ?_⟩
  · exact (O4.out.setBoxed X4.out (by decide) _ _).setBoxed (X4.out.set _ _) (by decide) _ _
  · exact (HB4.out.setCell (Nat.le_refl _) _).setCell (Nat.le_refl _) _

set_option maxHeartbeats 1000000 in
theorem DrawWayToPeg_ret (A : Option Addr) (n c : Nat) (w : World) (hn : n ≤ 4096) (hA : By w A n) (hl : ∀ ad, A = some ad → 0 < n → ad.block < w.heap.size) :
    Calls Try.prog 5 #[.slice A n c] w (RetPg w) := by
  have X0 := Lib.hid (Box.new w 26 #[.int .i64 0, .slice none 0 0])
  have HB0 := Lib.hid ((Below.refl w.heap.size w).alloc (Nat.le_refl _) (.cells #[.int .i64 0, .slice none 0 0] 26))
  have hA0 := Lib.hid (hA.below HB0.out)
  have hl0 : Hid (∀ ad, A = some ad → 0 < n → ad.block < (w.alloc (.cells #[.int .i64 0, .slice none 0 0] 26)).heap.size) := fun ad e h0 => by rw [World.size_alloc]; exact Nat.lt_succ_of_lt (hl ad e h0)
  go_enter Try.func5, Try.ntmps5
  go_wp2_with fail
  refine (l02Peg_ret A n c (w.alloc (.cells #[.int .i64 0, .slice none 0 0] 26)) hn hA0.out hl0.out).mono ?_
  rintro e w1 ⟨p, A', m, c', L, a, rfl, hO, hm, hb⟩
  have X1 := Lib.hid (X0.out.below hb X0.out.lt)
  have HB1 := Lib.hid (HB0.out.trans (hb.mono HB0.out.size))
  have O1 := Lib.hid (hO.mono HB0.out.size)
  clear hO hb X0 HB0 hA0 hl0
  obtain ⟨r0, r1, rf0, rf1⟩ := X1.out.two
  go_wp2
  refine bodyPost_ret (v := .tuple #[.agg #[.int .i64 p, .slice A' m c'], .int .i64 a]) (by simp [results, Try.results5, go_sem, r0, r1]) rfl ⟨p, A', m, c', L, a, rfl, ?_, hm, ?_⟩
  · exact (O1.out.setBoxed X1.out (by decide) _ _).setBoxed (X1.out.set _ _) (by decide) _ _
  · exact (HB1.out.setCell (Nat.le_refl _) _).setCell (Nat.le_refl _) _

set_option maxHeartbeats 1000000 in
theorem DrawDistanceToPeg_ret (A : Option Addr) (n c : Nat) (w : World) (hn : n ≤ 4096) (hA : By w A n) (hl : ∀ ad, A = some ad → 0 < n → ad.block < w.heap.size) :
    Calls Try.prog 9 #[.slice A n c] w (RetPg w) := by
  have X0 := Lib.hid (Box.new w 26 #[.int .i64 0, .slice none 0 0])
  have HB0 := Lib.hid ((Below.refl w.heap.size w).alloc (Nat.le_refl _) (.cells #[.int .i64 0, .slice none 0 0] 26))
  have hA0 := Lib.hid (hA.below HB0.out)
  have hl0 : Hid (∀ ad, A = some ad → 0 < n → ad.block < (w.alloc (.cells #[.int .i64 0, .slice none 0 0] 26)).heap.size) := fun ad e h0 => by rw [World.size_alloc]; exact Nat.lt_succ_of_lt (hl ad e h0)
  go_enter Try.func9, Try.ntmps9
  go_wp2_with fail
  refine (l02Peg_ret A n c (w.alloc (.cells #[.int .i64 0, .slice none 0 0] 26)) hn hA0.out hl0.out).mono ?_
  rintro e w1 ⟨p, A', m, c', L, a, rfl, hO, hm, hb⟩
  have X1 := Lib.hid (X0.out.below hb X0.out.lt)
  have HB1 := Lib.hid (HB0.out.trans (hb.mono HB0.out.size))
  have O1 := Lib.hid (hO.mono HB0.out.size)
  clear hO hb X0 HB0 hA0 hl0
  obtain ⟨r0, r1, rf0, rf1⟩ := X1.out.two
  go_wp2
  refine bodyPost_ret (v := .tuple #[.agg #[.int .i64 p, .slice A' m c'], .int .i64 a]) (by simp [results, Try.results9, go_sem, r0, r1]) rfl ⟨p, A', m, c', L, a, rfl, ?_, hm, ?_⟩
  · exact (O1.out.setBoxed X1.out (by decide) _ _).setBoxed (X1.out.set _ _) (by decide) _ _
  · exact (HB1.out.setCell (Nat.le_refl _) _).setCell (Nat.le_refl _) _

set_option maxHeartbeats 1000000 in
theorem DrawFirstMove_ret (A : Option Addr) (n c : Nat) (w : World) (hn : n ≤ 4096) (hA : By w A n) (hl : ∀ ad, A = some ad → 0 < n → ad.block < w.heap.size) :
    Calls Try.prog 15 #[.slice A n c] w (RetPg w) := by
  have X0 := Lib.hid (Box.new w 26 #[.int .i64 0, .slice none 0 0])
  have HB0 := Lib.hid ((Below.refl w.heap.size w).alloc (Nat.le_refl _) (.cells #[.int .i64 0, .slice none 0 0] 26))
  have hA0 := Lib.hid (hA.below HB0.out)
  have hl0 : Hid (∀ ad, A = some ad → 0 < n → ad.block < (w.alloc (.cells #[.int .i64 0, .slice none 0 0] 26)).heap.size) := fun ad e h0 => by rw [World.size_alloc]; exact Nat.lt_succ_of_lt (hl ad e h0)
  go_enter Try.func15, Try.ntmps15
  go_wp2_with fail
  refine (l02Peg_ret A n c (w.alloc (.cells #[.int .i64 0, .slice none 0 0] 26)) hn hA0.out hl0.out).mono ?_
  rintro e w1 ⟨p, A', m, c', L, a, rfl, hO, hm, hb⟩
  have X1 := Lib.hid (X0.out.below hb X0.out.lt)
  have HB1 := Lib.hid (HB0.out.trans (hb.mono HB0.out.size))
  have O1 := Lib.hid (hO.mono HB0.out.size)
  clear hO hb X0 HB0 hA0 hl0
  obtain ⟨r0, r1, rf0, rf1⟩ := X1.out.two
  go_wp2
  refine bodyPost_ret (v := .tuple #[.agg #[.int .i64 p, .slice A' m c'], .int .i64 a]) (by simp [results, Try.results15, go_sem, r0, r1]) rfl ⟨p, A', m, c', L, a, rfl, ?_, hm, ?_⟩
  · exact (O1.out.setBoxed X1.out (by decide) _ _).setBoxed (X1.out.set _ _) (by decide) _ _
  · exact (HB1.out.setCell (Nat.le_refl _) _).setCell (Nat.le_refl _) _

end Go.Proofs.Ytnbjnlgdolhlmaa

namespace Go.Proofs.Ytnbjnlgdolhlmaa
open Go.RowKit
set_option linter.unusedVariables false
set_option maxRecDepth 100000

theorem okA_le2 {p : Int} {L : List Int} {M : List Mv} {k m : Nat} (h : okA p L M m = true) (hk : k ≤ m) : okA p L M k = true := by
  cases e : okA p L M k with
  | true => rfl
  | false => rw [okA_le e m hk] at h; cases h
theorem way_disc {p a : Int} {L : List Int} (h : codeW p L a = 0) (j : Nat) (hj : j < (wtL p L a).length) : ∃ d : Nat, ((wtL p L a)[j]?.getD (0, 0, 0)).1 = d ∧ d < L.length := by
  obtain ⟨_, _, _, ho, _⟩ := fw_way h
  have e : wtL p L a = wayL L a := by unfold wtL; rw [if_pos h]
  rw [e] at hj ⊢
  have h1 : okA 3 L (wayL L a) (j + 1) = true := okA_le2 ho hj
  have h2 : (okA 3 L (wayL L a) j && legalB 3 (stA L (wayL L a) j) (mvAt (wayL L a) j).1 (mvAt (wayL L a) j).2.1 (mvAt (wayL L a) j).2.2) = true := h1
  rw [Bool.and_eq_true] at h2
  have h3 := h2.2
  unfold legalB at h3
  rw [Bool.and_eq_true, decide_eq_true_iff, stA_len] at h3
  obtain ⟨⟨d0, d1, _⟩, _⟩ := h3
  unfold mvAt at d0 d1
  exact ⟨((wayL L a)[j]?.getD (0, 0, 0)).1.toNat, by omega, by omega⟩
/-- Two states and a peg that have been drawn. -/
def RetOn (w : World) (e : Ending) (w' : World) : Prop :=
  ∃ (p : Int) (A' : Option Addr) (m c' : Nat) (L : List Int) (a : Int) (q : Int) (B' : Option Addr) (k d' : Nat) (M : List Int), e = .returned (.tuple #[.agg #[.int .i64 p, .slice A' m c'], .int .i64 a, .agg #[.int .i64 q, .slice B' k d']]) ∧ Own w.heap.size w' A' m c' L ∧ m ≤ 10 ∧ Own w.heap.size w' B' k d' M ∧ k ≤ 10 ∧ Below w.heap.size w w'
theorem own_ltG {e s B : Nat} {w : World} {A : Option Addr} {n c : Nat} {xs : List Value} (h : OwnG e s B w A n c xs) : ∀ g, A = some ⟨g, 0, none⟩ → g < w.heap.size := fun g hg => by
  rcases h.form with ⟨rfl, _⟩ | ⟨g', rfl, _, hlt⟩
  · cases hg
  · injection hg with hg
    injection hg with hg
    omega

theorem wrapL {n : Nat} (h : n ≤ 255) : wrap64 ((n : Int) + 1) = (n : Int) + 1 ∧ IntKind.i64.wrap ((n : Int) + 1) = (n : Int) + 1 := ⟨IntWalk.wrap64_in _ (by omega), IntWalk.i64_in _ (by omega)⟩
theorem wrapK {k : Nat} (h : 0 < k) (h2 : k ≤ 255) : wrap64 ((k : Int) - 1) = ((k - 1 : Nat) : Int) ∧ IntKind.i64.wrap ((k : Int) - 1) = ((k - 1 : Nat) : Int) := ⟨(IntWalk.wrap64_in _ (by omega)).trans (by omega), (IntWalk.i64_in _ (by omega)).trans (by omega)⟩
theorem put2 {B r s : Nat} {w : World} {A : Option Addr} {n c : Nat} {xs : List Value} {cs ds : Array Value} {u0 u1 v0 v1 : Value} (h : OwnG 2 1 B w A n c xs) (hR : Box w r 26 cs) (hS : Box w s 26 ds) (hne : s ≠ r) :
    OwnG 2 1 B ((((w.setCell ⟨r, 0, none⟩ u0).setCell ⟨r, 1, none⟩ u1).setCell ⟨s, 0, none⟩ v0).setCell ⟨s, 1, none⟩ v1) A n c xs := by
  have h2 := (h.setBoxed hR (by decide) 0 u0).setBoxed (hR.set 0 u0) (by decide) 1 u1
  have s2 := (hS.other (a := ⟨r, 0, none⟩) hne u0).other (a := ⟨r, 1, none⟩) hne u1
  exact (h2.setBoxed s2 (by decide) 0 v0).setBoxed (s2.set 0 v0) (by decide) 1 v1

set_option maxHeartbeats 40000000 in
theorem DrawIsOnWay_ret (A : Option Addr) (n c : Nat) (w : World) (hn : n ≤ 4096) (hA : By w A n) (hl : ∀ ad, A = some ad → 0 < n → ad.block < w.heap.size) :
    Calls Try.prog 18 #[.slice A n c] w (RetOn w) := by
  have hbal : Below w.heap.size w ((w.alloc (.cells #[.int .i64 0, .slice none 0 0] 26)).alloc (.cells #[.int .i64 0, .slice none 0 0] 26)) := ((Below.refl _ _).alloc (Nat.le_refl _) _).alloc (by simp) _
  have x0 := (Box.new w 26 #[.int .i64 0, .slice none 0 0]).alloc (.cells #[.int .i64 0, .slice none 0 0] 26)
  have y0 : Box ((w.alloc (.cells #[.int .i64 0, .slice none 0 0] 26)).alloc (.cells #[.int .i64 0, .slice none 0 0] 26)) (w.heap.size + 1) 26 #[.int .i64 0, .slice none 0 0] := by
    have := Box.new (w.alloc (.cells #[.int .i64 0, .slice none 0 0] 26)) 26 #[.int .i64 0, .slice none 0 0]
    rw [World.size_alloc] at this
    exact this
  have hs0 : ((w.alloc (.cells #[.int .i64 0, .slice none 0 0] 26)).alloc (.cells #[.int .i64 0, .slice none 0 0] 26)).heap.size = w.heap.size + 2 := by simp
  have R0 := Lib.hid x0
  have S0 := Lib.hid y0
  have HB0 := Lib.hid hbal
  have HN := Lib.hid hn
  have hA0 := Lib.hid (hA.below hbal)
  have hl0 : Hid (∀ ad, A = some ad → 0 < n → ad.block < ((w.alloc (.cells #[.int .i64 0, .slice none 0 0] 26)).alloc (.cells #[.int .i64 0, .slice none 0 0] 26)).heap.size) := fun ad e h0 => by rw [hs0]; have := hl ad e h0; omega
  clear x0 y0 hbal hA hl hn
  go_enter Try.func18, Try.ntmps18
  go_wp2_with fail
  generalize (w.alloc (.cells #[.int .i64 0, .slice none 0 0] 26)).alloc (.cells #[.int .i64 0, .slice none 0 0] 26) = W0 at *
  refine (l01From_calls A n c W0 HN.out hA0.out hl0.out).mono ?_
  rintro e w1 ⟨g, rfl, hgB, hS, hb⟩
  rw [hs0] at hgB
  have HS1 := Lib.hid hS
  have R1 := Lib.hid (R0.out.below hb R0.out.lt)
  have S1 := Lib.hid (S0.out.below hb S0.out.lt)
  have HB1 := Lib.hid (HB0.out.trans (hb.mono HB0.out.size))
  have hA1 := Lib.hid (hA0.out.below hb)
  have hl1 : Hid (∀ ad, A = some ad → 0 < n → ad.block < w1.heap.size) := fun ad e h0 => Nat.lt_of_lt_of_le (hl0.out ad e h0) hb.size
  clear hS hb R0 S0 HB0 hA0 hl0 hs0
  go_wp2_with fail
  refine (l02Peg_ret A n c w1 HN.out hA1.out hl1.out).mono ?_
  rintro e w2 ⟨p, Ax, m, cx, L, a, rfl, hO, hm, hb⟩
  have hal : Below w2.heap.size w2 (w2.alloc (.cells #[.int .i64 p, .slice Ax m cx] 26)) := (Below.refl _ _).alloc (Nat.le_refl _) _
  have hbx := Box.new w2 26 #[.int .i64 p, .slice Ax m cx]
  have HS2 := Lib.hid ((HS1.out.below hb).below hal)
  have R2 := Lib.hid ((R1.out.below hb R1.out.lt).below hal (R1.out.below hb R1.out.lt).lt)
  have S2 := Lib.hid ((S1.out.below hb S1.out.lt).below hal (S1.out.below hb S1.out.lt).lt)
  have HB2 := Lib.hid ((HB1.out.trans (hb.mono HB1.out.size)).trans (hal.mono (HB1.out.trans (hb.mono HB1.out.size)).size))
  have O2 := Lib.hid (OwnG.alloc (OwnG.mono (show OwnG 2 1 w1.heap.size w2 Ax m cx (L.map (Value.int .i64)) from hO) HB1.out.size) (.cells #[.int .i64 p, .slice Ax m cx] 26))
  have X2 := Lib.hid hbx
  have HLL := Lib.hid (show L.length = m from Own.len hO)
  have HAX : Hid (Ax = none → cx = 0) := fun e => by
    rcases OwnG.form hO with ⟨_, _, h3⟩ | ⟨_, h, _⟩
    · exact h3
    · rw [e] at h; cases h
  have hgx : g < w2.heap.size := Nat.lt_of_lt_of_le HS1.out.lt hb.size
  clear hO hb hal hbx HS1 R1 S1 HB1 hA1 hl1
  have x := X2.out.two
  obtain ⟨x0, x1, _, _⟩ := x
  go_wp2_with fail
  generalize hW2 : w2.alloc (.cells #[.int .i64 p, .slice Ax m cx] 26) = W2 at *
  have hzX : W2.heap.size = w2.heap.size + 1 := by rw [← hW2, World.size_alloc]
  clear hW2
  generalize w2.heap.size = bx at *
  refine (specWayToPeg_ret Ax m cx p L a W2 HLL.out (by omega) HAX.out (intsW O2.out)).mono ?_
  rintro e w3 ⟨Aw, cw, rfl, hOw, hb⟩
  have HS3 := Lib.hid (HS2.out.below hb)
  have R3 := Lib.hid (R2.out.below hb R2.out.lt)
  have S3 := Lib.hid (S2.out.below hb S2.out.lt)
  have X3 := Lib.hid (X2.out.below hb X2.out.lt)
  have O3 := Lib.hid (OwnG.below O2.out hb)
  have HB3 := Lib.hid (HB2.out.trans (hb.mono HB2.out.size))
  have OW3 := Lib.hid hOw
  have HW255 := wtL_len p L a
  have HD : Hid (codeW p L a = 0 → p = 3 ∧ ∀ j, j < (wtL p L a).length → ∃ d : Nat, ((wtL p L a)[j]?.getD (0, 0, 0)).1 = d ∧ d < m) := fun h => ⟨(codeW_zero h).2.1, fun j hj => by
    obtain ⟨d, h1, h2⟩ := way_disc h j hj
    rw [HLL.out] at h2
    exact ⟨d, h1, h2⟩⟩
  generalize wtL p L a = M at *
  have hlA : Hid (∀ g', Ax = some ⟨g', 0, none⟩ → g' < w3.heap.size) := Lib.hid (own_ltG O3.out)
  obtain ⟨q, hq, hq9⟩ : ∃ q : Nat, (if (8 : Int) < (m : Int) then (8 : Int) else (m : Int)) = q ∧ q ≤ 8 := ⟨min m 8, by split <;> omega, by omega⟩
  have HMIN := Lib.hid hq
  clear hq
  have hbX3 := X3.out.lt
  by_cases hz : codeW p L a = 0
  · obtain ⟨rfl, HDS⟩ := HD.out hz
    have HDM := Lib.hid HDS
    rw [hz]
    clear HD HDS hz
    go_wp2_with fail
    refine (l01Next_calls g A n c 2 _ HN.out HS3.out).mono ?_
    rintro e w4 ⟨v, rfl, hv, hS, hG⟩
    have HS4 := Lib.hid hS
    have R4 := Lib.hid (R3.out.grown hG (by intro e; injection e with e; omega))
    have S4 := Lib.hid (S3.out.grown hG (by intro e; injection e with e; omega))
    have X4 := Lib.hid (X3.out.grown hG (by intro e; injection e with e; omega))
    have O4 := Lib.hid (OwnG.kept O3.out hG (own_src (show Own w.heap.size w3 Ax m cx L from O3.out) HS3.out))
    have OW4 := Lib.hid (OwnG.kept OW3.out hG (fun g' hg' => by
      intro e
      injection e with e
      subst e
      rcases OwnG.form OW3.out with ⟨h, _⟩ | ⟨g2, h, hB2, _⟩
      · rw [h] at hg'; cases hg'
      · rw [h] at hg'; injection hg' with hg'; injection hg' with hg'; omega))
    have HB4 := Lib.hid (HB3.out.trans (grown_below hG (by omega) HB3.out.size))
    have hz4 := hG.size
    clear hS hG HS3 R3 S3 X3 O3 OW3 HB3
    by_cases h0 : v = 0
    · subst h0
      obtain ⟨x0, x1, xf0, xf1⟩ := X4.out.two
      go_wp2_with fail
      refine (l01Own_calls Ax m cx L _ HLL.out (by omega) HAX.out (intsW O4.out)).mono ?_
      rintro e w5 ⟨Ay, cy, rfl, hO, hb⟩
      have hal : Below w5.heap.size w5 (w5.alloc (.cells #[.int .i64 3, .slice Ay m cy] 26)) := (Below.refl _ _).alloc (Nat.le_refl _) _
      have hbx := Box.new w5 26 #[.int .i64 3, .slice Ay m cy]
      have hb2 := hb.trans (hal.mono hb.size)
      have HS5 := Lib.hid (HS4.out.below hb2)
      have R5 := Lib.hid (R4.out.below hb2 R4.out.lt)
      have S5 := Lib.hid (S4.out.below hb2 S4.out.lt)
      have X5 := Lib.hid (X4.out.below hb2 X4.out.lt)
      have O5 := Lib.hid (OwnG.below O4.out hb2)
      have OW5 := Lib.hid (OwnG.below OW4.out hb2)
      have HB5 := Lib.hid (HB4.out.trans (hb2.mono HB4.out.size))
      have OY5 := Lib.hid (OwnG.alloc (show OwnG 2 1 w4.heap.size w5 Ay m cy (L.map (Value.int .i64)) from hO) (.cells #[.int .i64 3, .slice Ay m cy] 26))
      have Y5 := Lib.hid hbx
      have hz5 := hb.size
      clear hO hb hal hbx hb2 x0 x1 xf0 xf1 HS4 R4 S4 X4 O4 OW4 HB4
      obtain ⟨hw1, hw2⟩ := wrapL HW255
      go_wp2_with fail
      clear hw1 hw2
      generalize hW5 : w5.alloc (.cells #[.int .i64 3, .slice Ay m cy] 26) = W5 at *
      have hz6 : W5.heap.size = w5.heap.size + 1 := by rw [← hW5, World.size_alloc]
      clear hW5
      generalize w5.heap.size = bY at *
      refine (l01Next_calls g A n c ((M.length : Int) + 1) _ HN.out HS5.out).mono ?_
      rintro e w6 ⟨kk, rfl, hk, hS, hG⟩
      have R6 := Lib.hid (R5.out.grown hG (by intro e; injection e with e; omega))
      have S6 := Lib.hid (S5.out.grown hG (by intro e; injection e with e; omega))
      have X6 := Lib.hid (X5.out.grown hG (by intro e; injection e with e; omega))
      have Y6 := Lib.hid (Y5.out.grown hG (by intro e; injection e with e; omega))
      have O6 := Lib.hid (OwnG.kept O5.out hG (own_src (show Own w.heap.size W5 Ax m cx L from O5.out) HS5.out))
      have OY6 := Lib.hid (OwnG.kept OY5.out hG (own_src (show Own w4.heap.size W5 Ay m cy L from OY5.out) HS5.out))
      have OW6 := Lib.hid (OwnG.kept OW5.out hG (fun g' hg' => by
        intro e
        injection e with e
        subst e
        rcases OwnG.form OW5.out with ⟨h, _⟩ | ⟨g2, h, hB2, _⟩
        · rw [h] at hg'; cases hg'
        · rw [h] at hg'; injection hg' with hg'; injection hg' with hg'; omega))
      have HB6 := Lib.hid (HB5.out.trans (grown_below hG (by omega) HB5.out.size))
      have hz7 := hG.size
      obtain ⟨k0, rfl⟩ := Int.eq_ofNat_of_zero_le hk.1
      have hk0 : k0 ≤ M.length := by omega
      clear hS hG HS5 R5 S5 X5 Y5 O5 OY5 OW5 HB5 hk hv
      go_wp2
      go_loopw [8, 11] (fun wy kk wr => ∃ (j k nw : Nat) (Aj : Option Addr) (cj : Nat) (Ly : List Int), k ≤ nw ∧ nw + j = M.length ∧ kk = .int .i64 k ∧ wy = .slice Aj nw cj ∧ (0 < nw → ∃ g', Aw = some ⟨g', 0, none⟩ ∧ Aj = some ⟨g', j * 3, none⟩ ∧ nw ≤ cj ∧ cj ≤ maxLen) ∧ Hid (Ly.length = m) ∧ OwnG 2 1 w4.heap.size wr Ay m cy (Ly.map (Value.int .i64)) ∧ OwnM W2.heap.size wr Aw M.length cw M ∧ OwnG 2 1 w.heap.size wr Ax m cx (L.map (Value.int .i64)) ∧ Box wr bY 26 #[.int .i64 3, .slice Ay m cy] ∧ Box wr bx 26 #[.int .i64 3, .slice Ax m cx] ∧ Box wr w.heap.size 26 #[.int .i64 0, .slice none 0 0] ∧ Box wr (w.heap.size + 1) 26 #[.int .i64 0, .slice none 0 0] ∧ Below w.heap.size w wr) (fun _ kk _ => (intOf kk).toNat)
      case atStart =>
        refine ⟨0, k0, M.length, Aw, cw, L, hk0, rfl, rfl, rfl, fun h => ?_, HLL, OY6.out, OW6.out, O6.out, Y6.out, X6.out, R6.out, S6.out, HB6.out⟩
        obtain ⟨g', hg', _⟩ := (OwnM.mvs OW6.out) 0 h
        have hc := OwnG.cap OW6.out
        exact ⟨g', hg', by rw [hg', Nat.zero_mul], hc.1, hc.2⟩
      case round =>
        obtain ⟨j, k, nw, Aj, cj, Ly, hk, hnw, rfl, rfl, hAj, HLy, hY, hW, hO, hYb, hXb, hRb, hSb, hb⟩ := hrel
        have HY := Lib.hid hY
        have HW := Lib.hid hW
        have HO := Lib.hid hO
        have HYB := Lib.hid hYb
        have HXB := Lib.hid hXb
        have HRB := Lib.hid hRb
        have HSB := Lib.hid hSb
        have HB := Lib.hid hb
        have hsz := hb.size
        clear hY hW hO hYb hXb hRb hSb hb R6 S6 X6 Y6 O6 OY6 OW6 HB6
        by_cases hk1 : 0 < k
        · obtain ⟨gw, rfl, rfl, hc1, hc2⟩ := hAj (by omega)
          clear hAj
          obtain ⟨gw', hgw', hgwl, v0, v1, v2⟩ := (OwnM.mvs HW.out) j (by omega)
          injection hgw' with hgw'
          injection hgw' with hgw'
          subst hgw'
          obtain ⟨d, hd, hdm⟩ := HDM.out j (by omega)
          have hbw : W2.heap.size ≤ gw := by
            rcases OwnG.form HW.out with ⟨h, _⟩ | ⟨g2, h, hB2, _⟩
            · cases h
            · injection h with h; injection h with h; omega
          generalize M[j]?.getD (0, 0, 0) = mv at *
          obtain ⟨y1, y2, y3⟩ := mv
          dsimp only at hd v0 v1 v2
          subst hd
          have HYB2 := Lib.hid (HYB.out.alloc (.cells #[.int .i64 d, .int .i64 y2, .int .i64 y3] 39))
          have HXB2 := Lib.hid (HXB.out.alloc (.cells #[.int .i64 d, .int .i64 y2, .int .i64 y3] 39))
          have HRB2 := Lib.hid (HRB.out.alloc (.cells #[.int .i64 d, .int .i64 y2, .int .i64 y3] 39))
          have HSB2 := Lib.hid (HSB.out.alloc (.cells #[.int .i64 d, .int .i64 y2, .int .i64 y3] 39))
          have HB2' := Lib.hid (HB.out.alloc HB.out.size (.cells #[.int .i64 d, .int .i64 y2, .int .i64 y3] 39))
          have HO2 := Lib.hid (OwnG.alloc HO.out (.cells #[.int .i64 d, .int .i64 y2, .int .i64 y3] 39))
          have HW2 := Lib.hid (OwnG.alloc HW.out (.cells #[.int .i64 d, .int .i64 y2, .int .i64 y3] 39))
          have HY2 := Lib.hid (OwnG.alloc HY.out (.cells #[.int .i64 d, .int .i64 y2, .int .i64 y3] 39))
          have HM2 := Lib.hid (Box.new wr 39 #[.int .i64 d, .int .i64 y2, .int .i64 y3])
          have hn0 : (0 : Int) < (nw : Int) := by omega
          have hkp : (0 : Int) < (k : Int) := by omega
          have hcp : (1 : Int) ≤ (nw : Int) := by omega
          have hcp2 : (nw : Int) ≤ (cj : Int) := by omega
          have hd0 : (0 : Int) ≤ (d : Int) := by omega
          have hd1 : (d : Int) < (m : Int) := by omega
          obtain ⟨hk3, hk4⟩ := wrapK hk1 (by omega)
          obtain ⟨k', hk'⟩ : ∃ k', k - 1 = k' := ⟨_, rfl⟩
          rw [hk'] at hk3 hk4
          obtain ⟨nw', hnw'⟩ : ∃ n', nw = n' + 1 := ⟨nw - 1, by omega⟩
          subst hnw'
          go_upto_region 10 with (fail)
          generalize hWr : wr.alloc (.cells #[.int .i64 d, .int .i64 y2, .int .i64 y3] 39) = Wr at *
          have hsr : Wr.heap.size = wr.heap.size + 1 := by rw [← hWr, World.size_alloc]
          clear hWr
          generalize wr.heap.size = bm at *
          clear v0 v1 v2
          obtain ⟨m0, m1, m2⟩ := HM2.out.three
          obtain ⟨y0, y1', yf0, yf1⟩ := HYB2.out.two
          obtain ⟨gy, rfl, hBy, hgyl, hcy⟩ := ownAtW HY2.out HLy.out hdm
          have hfz := OwnG.frozen HY2.out rfl d
          have hney := neW HY2.out HW2.out (by decide)
          by_cases hcj : cj = 1
          · go_wp2
            go_roundw
            case rel =>
              refine ⟨j + 1, k', nw', _, _, Ly.set d y3, by omega, by omega, rfl, rfl, fun h => absurd h (by omega), Lib.hid (by simpa using HLy.out), ?_, ?_, ?_, ?_, ?_, ?_, ?_, ?_⟩
              · have st := (World.ownsRow.stored HY2.out d (.int .i64 y3)).1
                rw [List.map_set]
                exact st
              · exact OwnG.setBox HW2.out (by rintro _ h; injection h with h; injection h with h; subst h; exact fun h => hney h.symm) _
              · exact OwnG.setBox HO2.out (fun g' hg' => by have := hlA.out g' hg'; show g' ≠ gy; omega) _
              · exact HYB2.out.other (fun h => OwnG.ne_box HY2.out HYB2.out (by decide) h.symm) _
              · exact HXB2.out.other (fun h => OwnG.ne_box HY2.out HXB2.out (by decide) h.symm) _
              · exact HRB2.out.other (fun h => OwnG.ne_box HY2.out HRB2.out (by decide) h.symm) _
              · exact HSB2.out.other (fun h => OwnG.ne_box HY2.out HSB2.out (by decide) h.symm) _
              · exact HB2'.out.setCell (show w.heap.size ≤ gy by omega) _
            case measure => simp [intOf]; omega
          · go_wp2
            go_roundw
            case rel =>
              refine ⟨j + 1, k', nw', _, _, Ly.set d y3, by omega, by omega, rfl, rfl, fun h => ⟨gw, rfl, by congr 2; omega, by omega, by omega⟩, Lib.hid (by simpa using HLy.out), ?_, ?_, ?_, ?_, ?_, ?_, ?_, ?_⟩
              · have st := (World.ownsRow.stored HY2.out d (.int .i64 y3)).1
                rw [List.map_set]
                exact st
              · exact OwnG.setBox HW2.out (by rintro _ h; injection h with h; injection h with h; subst h; exact fun h => hney h.symm) _
              · exact OwnG.setBox HO2.out (fun g' hg' => by have := hlA.out g' hg'; show g' ≠ gy; omega) _
              · exact HYB2.out.other (fun h => OwnG.ne_box HY2.out HYB2.out (by decide) h.symm) _
              · exact HXB2.out.other (fun h => OwnG.ne_box HY2.out HXB2.out (by decide) h.symm) _
              · exact HRB2.out.other (fun h => OwnG.ne_box HY2.out HRB2.out (by decide) h.symm) _
              · exact HSB2.out.other (fun h => OwnG.ne_box HY2.out HSB2.out (by decide) h.symm) _
              · exact HB2'.out.setCell (show w.heap.size ≤ gy by omega) _
            case measure => simp [intOf]; omega
        · obtain rfl : k = 0 := by omega
          have hkn : ¬ (0 : Int) < ((0 : Nat) : Int) := by omega
          obtain ⟨x0, x1, xf0, xf1⟩ := HXB.out.two
          obtain ⟨y0, y1, yf0, yf1⟩ := HYB.out.two
          obtain ⟨r0, r1, rf0, rf1⟩ := HRB.out.two
          obtain ⟨s0, s1, sf0, sf1⟩ := HSB.out.two
          clear hAj
          go_upto_region 12 with (fail)
          go_region
          all_goals (
            go_wp2
            refine bodyPost_ret (v := .tuple #[.agg #[.int .i64 3, .slice Ax m cx], .int .i64 a, .agg #[.int .i64 3, .slice Ay m cy]]) (by simp [results, Try.results18, go_sem, r0, r1, s0, s1]) rfl ⟨3, Ax, m, cx, L, a, 3, Ay, m, cy, Ly, rfl, put2 HO.out HRB.out HSB.out (by omega), hm, put2 (OwnG.mono HY.out (by omega)) HRB.out HSB.out (by omega), hm, Below.drew ((((HB.out.setCell (Nat.le_refl _) _).setCell (Nat.le_refl _) _).setCell (Nat.le_succ _) _).setCell (Nat.le_succ _) _)⟩)
    · have ht : (v == 0) = false := by simpa using h0
      clear h0
      go_wp2_with fail

      obtain ⟨x0, x1, xf0, xf1⟩ := X4.out.two
      have hbX := X4.out.lt
      have hzk := HB4.out.size
      have hgl := HS4.out.lt
      go_upto_region 13 with (fail)
      go_region_law (go_simp; go_at_call 39; rw [HMIN.out]; refine (l01DrawOf_calls g A n c 3 q w4.drew HN.out (Src.drews HS4.out) (by omega) (by omega)).mono ?_; rintro e w' ⟨Bd, cd, LL, rfl, hO, _, hS, hG⟩; have Rn := R4.out.grown (w' := w') (w := w4.drew) hG (by intro e; injection e with e; omega); have Sn := S4.out.grown (w' := w') (w := w4.drew) hG (by intro e; injection e with e; omega); have Xn := X4.out.grown (w' := w') (w := w4.drew) hG (by intro e; injection e with e; omega); obtain ⟨q0, q1, _, _⟩ := Xn.two; obtain ⟨r0, r1, rf0, rf1⟩ := Rn.two; obtain ⟨s0, s1, sf0, sf1⟩ := Sn.two; try dsimp only)
      all_goals (
        have Rm := Lib.hid Rn
        have Sm := Lib.hid Sn
        have HBm := Lib.hid (HB4.out.drew.trans (grown_below hG (by omega) (show w.heap.size ≤ w4.drew.heap.size from HB4.out.size)))
        have Lm := Lib.hid (OwnG.kept (show Own w.heap.size w4.drew Ax m cx L from O4.out) hG (own_src (show Own w.heap.size w4.drew Ax m cx L from O4.out) (Src.drews HS4.out)))
        have Pm := Lib.hid (OwnG.mono hO (show w.heap.size ≤ w4.drew.heap.size from HB4.out.size))
        clear Rn Sn Xn hG hO x0 x1 xf0 xf1 q0 q1
        go_wp2
        all_goals (refine bodyPost_ret (v := .tuple #[.agg #[.int .i64 3, .slice Ax m cx], .int .i64 a, .agg #[.int .i64 3, .slice Bd q cd]]) (by simp [results, Try.results18, go_sem, r0, r1, s0, s1]) rfl ⟨3, Ax, m, cx, L, a, 3, Bd, q, cd, LL, rfl, put2 Lm.out Rm.out Sm.out (by omega), hm, put2 Pm.out Rm.out Sm.out (by omega), (by omega), (((HBm.out.setCell (Nat.le_refl _) _).setCell (Nat.le_refl _) _).setCell (Nat.le_succ _) _).setCell (Nat.le_succ _) _⟩))

  · have ht : (codeW p L a == 0) = false := by simpa using hz
    clear hz HD
    go_wp2_with fail

    obtain ⟨x0, x1, xf0, xf1⟩ := X3.out.two
    have hbX := X3.out.lt
    have hzk := HB3.out.size
    have hgl := HS3.out.lt
    go_upto_region 13 with (fail)
    go_region_law (go_simp; go_at_call 39; rw [HMIN.out]; refine (l01DrawOf_calls g A n c 3 q w3.drew HN.out (Src.drews HS3.out) (by omega) (by omega)).mono ?_; rintro e w' ⟨Bd, cd, LL, rfl, hO, _, hS, hG⟩; have Rn := R3.out.grown (w' := w') (w := w3.drew) hG (by intro e; injection e with e; omega); have Sn := S3.out.grown (w' := w') (w := w3.drew) hG (by intro e; injection e with e; omega); have Xn := X3.out.grown (w' := w') (w := w3.drew) hG (by intro e; injection e with e; omega); obtain ⟨q0, q1, _, _⟩ := Xn.two; obtain ⟨r0, r1, rf0, rf1⟩ := Rn.two; obtain ⟨s0, s1, sf0, sf1⟩ := Sn.two; try dsimp only)
    all_goals (
      have Rm := Lib.hid Rn
      have Sm := Lib.hid Sn
      have HBm := Lib.hid (HB3.out.drew.trans (grown_below hG (by omega) (show w.heap.size ≤ w3.drew.heap.size from HB3.out.size)))
      have Lm := Lib.hid (OwnG.kept (show Own w.heap.size w3.drew Ax m cx L from O3.out) hG (own_src (show Own w.heap.size w3.drew Ax m cx L from O3.out) (Src.drews HS3.out)))
      have Pm := Lib.hid (OwnG.mono hO (show w.heap.size ≤ w3.drew.heap.size from HB3.out.size))
      clear Rn Sn Xn hG hO x0 x1 xf0 xf1 q0 q1
      go_wp2
      all_goals (refine bodyPost_ret (v := .tuple #[.agg #[.int .i64 p, .slice Ax m cx], .int .i64 a, .agg #[.int .i64 3, .slice Bd q cd]]) (by simp [results, Try.results18, go_sem, r0, r1, s0, s1]) rfl ⟨p, Ax, m, cx, L, a, 3, Bd, q, cd, LL, rfl, put2 Lm.out Rm.out Sm.out (by omega), hm, put2 Pm.out Rm.out Sm.out (by omega), (by omega), (((HBm.out.setCell (Nat.le_refl _) _).setCell (Nat.le_refl _) _).setCell (Nat.le_succ _) _).setCell (Nat.le_succ _) _⟩))

end Go.Proofs.Ytnbjnlgdolhlmaa

namespace Go.Proofs.Ytnbjnlgdolhlmaa
open Go.RowKit
set_option linter.unusedVariables false

theorem move_same (a b c : Int) (w : World) : (Op.equalIn 10000 39 (.agg #[.int .i64 a, .int .i64 b, .int .i64 c]) (.agg #[.int .i64 a, .int .i64 b, .int .i64 c])).run Try.prog w = .ok true w := by
  rw [show (10000 : Nat) = 9999 + 1 from rfl, run_equalIn_struct w 9999 39 _ _ (by kernel_rfl) (by kernel_rfl)]
  simp only [Program.fieldsOf, Try.underlying39]
  have u := Try.underlying2
  go_simp

set_option maxHeartbeats 1000000 in
theorem moves9_same (A A' : Option Addr) (n c c' : Nat) (M : List Mv) (w : World) (hL : M.length = n) (hn : n ≤ 1048576) (hI : Mvs w A M) (hJ : Mvs w A' M) :
    Calls Try.prog 8 #[.slice A n c, .slice A' n c'] w fun e w' => e = .returned (.bool true) ∧ ∃ m, w' = w.drewN m := by
  have HL := Lib.hid hL
  have HI := Lib.hid hI
  have HJ := Lib.hid hJ
  clear hL hI hJ
  go_enter Try.func8, Try.ntmps8
  go_wp2
  go_loopw [5] (fun i wr => ∃ k : Nat, k ≤ n ∧ i = .int .i64 k ∧ ∃ m, wr = w.drewN m) (fun i _ => n - (intOf i).toNat)
  case atStart => exact ⟨0, Nat.zero_le _, rfl, 0, rfl⟩
  case round =>
    obtain ⟨k, hk, rfl, m, rfl⟩ := hrel
    by_cases hlt : k < n
    · obtain ⟨g, rfl, hg, m0, m1, m2⟩ := HI.out k (by rw [HL.out]; exact hlt)
      obtain ⟨g', rfl, hg', q0, q1, q2⟩ := HJ.out k (by rw [HL.out]; exact hlt)
      generalize M[k]?.getD (0, 0, 0) = x at *
      obtain ⟨x1, x2, x3⟩ := x
      simp only at m0 m1 m2 q0 q1 q2
      have hi0 : (0 : Int) ≤ (k : Int) := by omega
      have hi1 : (k : Int) < (n : Int) := by omega
      have heq := move_same x1 x2 x3
      go_wp2_with fail
      go_quiet (fail)
      go_wp2
      go_roundw
      case rel => exact ⟨k + 1, by omega, by go_num, by first | exact ⟨_, rfl⟩ | exact ⟨_, World.drewN_drewN _ _ _⟩⟩
      case measure => simp [intOf]; omega
    · obtain rfl : k = n := by omega
      go_wp2
      go_ret
      exact ⟨rfl, _, rfl⟩

theorem state9_same (A A' : Option Addr) (n c c' : Nat) (p : Int) (L : List Int) (w : World) (hL : L.length = n) (hn : n ≤ 1048576) (hI : Ints w A L) (hJ : Ints w A' L) :
    Calls Try.prog 25 #[.agg #[.int .i64 p, .slice A n c], .agg #[.int .i64 p, .slice A' n c']] w fun e w' => e = .returned (.bool true) ∧ Below w.heap.size w w' := by
  have HB0 := Lib.hid (((Below.refl w.heap.size w).alloc (Nat.le_refl _) (.cells #[.int .i64 p, .slice A n c] 26)).alloc (by simp) (.cells #[.int .i64 p, .slice A' n c'] 26))
  have HI := Lib.hid (hI.below HB0.out)
  have HJ := Lib.hid (hJ.below HB0.out)
  go_enter Try.func25, Try.ntmps25
  go_wp2_with fail
  refine (likeInts_calls A A' n c n c' L L _ hL hL hn hn HI.out HJ.out).mono ?_
  rintro e w1 ⟨rfl, d, rfl⟩
  rw [show decide (L = L) = true by simp]
  go_wp2
  go_ret
  exact ⟨rfl, belowDraws HB0.out _⟩

end Go.Proofs.Ytnbjnlgdolhlmaa

namespace Go.Proofs.Ytnbjnlgdolhlmaa
open Go.RowKit
set_option linter.unusedVariables false

theorem wrapS (D3 D2 : Int) (h : 0 ≤ D3 ∧ D3 ≤ 1000 ∧ 0 ≤ D2 ∧ D2 ≤ 1000) : wrap64 (D3 + D2) = D3 + D2 ∧ IntKind.i64.wrap (D3 + D2) = D3 + D2 := ⟨IntWalk.wrap64_in _ (by omega), IntWalk.i64_in _ (by omega)⟩
theorem wrapD (D : Int) (h : 0 ≤ D ∧ D ≤ 255) : wrap64 (D - 1) = D - 1 ∧ IntKind.i64.wrap (D - 1) = D - 1 := ⟨IntWalk.wrap64_in _ (by omega), IntWalk.i64_in _ (by omega)⟩
set_option maxRecDepth 100000 in
set_option maxHeartbeats 40000000 in
theorem fnWays_core (A : Option Addr) (n c : Nat) (w : World) (hn : n ≤ 4096) (hA : By w A n) (hl : ∀ ad, A = some ad → 0 < n → ad.block < w.heap.size) :
    Calls Try.prog 3 #[.slice A n c] w fun e w' => e = .returned (.bool true) ∧ Below w.heap.size w w' := by
  have HN := Lib.hid hn
  have HA0 := Lib.hid hA
  have HLc := Lib.hid hl
  have HB0 := Lib.hid (Below.refl w.heap.size w)
  clear hn hA hl
  go_enter Try.func3, Try.ntmps3
  go_wp2_with fail
  refine (big_no A n c _ HN.out).mono ?_
  rintro e w0 ⟨rfl, rfl⟩
  go_wp2_with fail
  refine (DrawWayToPeg_ret A n c _ HN.out HA0.out (fun ad e h => Nat.lt_of_lt_of_le (HLc.out ad e h) HB0.out.size)).mono ?_
  rintro e w1 ⟨p, B, m, d, L, a, rfl, hO, hm, hb⟩
  have HB1 := Lib.hid (HB0.out.trans ((hb).mono HB0.out.size))
  have HA1 := Lib.hid (HA0.out.below hb)
  clear HB0 HA0
  have W0 := Lib.hid (hO.ints)
  clear hb
  have hal : Below w1.heap.size w1 (w1.alloc (.cells #[.int .i64 p, .slice B m d] 26)) := (Below.refl _ _).alloc (Nat.le_refl _) _
  have hbx := Box.new w1 26 #[.int .i64 p, .slice B m d]
  have HB2 := Lib.hid (HB1.out.trans ((hal).mono HB1.out.size))
  have HA2 := Lib.hid (HA1.out.below hal)
  have W1 := Lib.hid (W0.out.below hal)
  clear HB1 HA1 W0
  have X0 := Lib.hid (hbx)
  clear hal hbx
  have HL := Lib.hid (Own.len hO)
  have HXL := Lib.hid (own_none hO)
  have hcL := own_capI hO
  clear hO
  obtain ⟨M1, k1, E1, hk1, g1, g2, hgood⟩ := wa_all p L m a HL.out hm
  have C1 := Lib.hid g1
  have C2 := Lib.hid g2
  have HG1 := Lib.hid hgood
  clear g1 g2 hgood
  have HK1 := Lib.hid hk1.1
  have hk255 := hk1.2
  clear hk1
  obtain ⟨xa0, xb0, _, _⟩ := X0.out.two
  go_wp2_with fail
  refine (C1.out B d _ W1.out HXL.out).mono ?_
  rintro e w2 ⟨A1, c1, rfl, hO, hb⟩
  clear xa0 xb0
  have HB3 := Lib.hid (HB2.out.trans ((hb).mono HB2.out.size))
  have HA3 := Lib.hid (HA2.out.below hb)
  have W2 := Lib.hid (W1.out.below hb)
  have X1 := Lib.hid (X0.out.below hb X0.out.lt)
  clear HB2 HA2 W1 X0
  have U0 := Lib.hid (hO.mvs)
  clear hb
  clear hO
  obtain ⟨xa0, xb0, _, _⟩ := X1.out.two
  go_wp2_with fail
  refine (C2.out B d _ W2.out HXL.out).mono ?_
  rintro e w3 ⟨A2, c2, rfl, hO, hb⟩
  clear xa0 xb0
  have HB4 := Lib.hid (HB3.out.trans ((hb).mono HB3.out.size))
  have HA4 := Lib.hid (HA3.out.below hb)
  have W3 := Lib.hid (W2.out.below hb)
  have X2 := Lib.hid (X1.out.below hb X1.out.lt)
  have U1 := Lib.hid (U0.out.below hb)
  clear HB3 HA3 W2 X1 U0
  have UU0 := Lib.hid (hO.mvs)
  clear hb
  clear hO
  go_wp2_with fail
  refine (moves9_same A1 A2 k1 c1 c2 M1 _ HK1.out (by omega) U1.out UU0.out).mono ?_
  rintro e w4 ⟨rfl, dd, rfl⟩
  have HB5 := Lib.hid (HB4.out.trans (((belowDraws (Below.refl _ _) dd)).mono HB4.out.size))
  have HA5 := Lib.hid (HA4.out.below (belowDraws (Below.refl _ _) dd))
  have W4 := Lib.hid (W3.out.below (belowDraws (Below.refl _ _) dd))
  have X3 := Lib.hid (X2.out.below (belowDraws (Below.refl _ _) dd) X2.out.lt)
  have U2 := Lib.hid (U1.out.below (belowDraws (Below.refl _ _) dd))
  have UU1 := Lib.hid (UU0.out.below (belowDraws (Below.refl _ _) dd))
  clear HB4 HA4 W3 X2 U1 UU0
  clear UU1
  clear C1 C2
  generalize w3.drewN dd = w4 at *
  go_wp2_with fail
  refine (DrawDistanceToPeg_ret A n c _ HN.out HA5.out (fun ad e h => Nat.lt_of_lt_of_le (HLc.out ad e h) HB5.out.size)).mono ?_
  rintro e w5 ⟨p2, B2, m2, d2, L2, a2, rfl, hO, hm2, hb⟩
  have HB6 := Lib.hid (HB5.out.trans ((hb).mono HB5.out.size))
  have HA6 := Lib.hid (HA5.out.below hb)
  have W5 := Lib.hid (W4.out.below hb)
  have X4 := Lib.hid (X3.out.below hb X3.out.lt)
  have U3 := Lib.hid (U2.out.below hb)
  clear HB5 HA5 W4 X3 U2
  have W20 := Lib.hid (hO.ints)
  clear hb
  have hal : Below w5.heap.size w5 (w5.alloc (.cells #[.int .i64 p2, .slice B2 m2 d2] 26)) := (Below.refl _ _).alloc (Nat.le_refl _) _
  have hbx := Box.new w5 26 #[.int .i64 p2, .slice B2 m2 d2]
  have HB7 := Lib.hid (HB6.out.trans ((hal).mono HB6.out.size))
  have HA7 := Lib.hid (HA6.out.below hal)
  have W6 := Lib.hid (W5.out.below hal)
  have X5 := Lib.hid (X4.out.below hal X4.out.lt)
  have U4 := Lib.hid (U3.out.below hal)
  have W21 := Lib.hid (W20.out.below hal)
  clear HB6 HA6 W5 X4 U3 W20
  have Y0 := Lib.hid (hbx)
  clear hal hbx
  have HL2 := Lib.hid (Own.len hO)
  have HXL2 := Lib.hid (own_none hO)
  have hcL2 := own_capI hO
  clear hO
  obtain ⟨D2, E2, R2, q2, hr2, g1, g2, g3, g4⟩ := dpw_all p2 L2 m2 a2 HL2.out hm2
  have C1 := Lib.hid g1
  have C2 := Lib.hid g2
  have C3 := Lib.hid g3
  have C4 := Lib.hid g4
  clear g1 g2 g3 g4
  have HR2 := Lib.hid hr2.1
  have hq2 := hr2.2
  clear hr2
  obtain ⟨xa0, xb0, _, _⟩ := Y0.out.two
  go_wp2_with fail
  refine (C1.out B2 d2 _ W21.out).mono ?_
  rintro e w6 ⟨rfl, hb⟩
  clear xa0 xb0
  have HB8 := Lib.hid (HB7.out.trans ((hb).mono HB7.out.size))
  have HA8 := Lib.hid (HA7.out.below hb)
  have W7 := Lib.hid (W6.out.below hb)
  have X6 := Lib.hid (X5.out.below hb X5.out.lt)
  have U5 := Lib.hid (U4.out.below hb)
  have W22 := Lib.hid (W21.out.below hb)
  have Y1 := Lib.hid (Y0.out.below hb Y0.out.lt)
  clear HB7 HA7 W6 X5 U4 W21 Y0
  clear hb
  obtain ⟨xa0, xb0, _, _⟩ := Y1.out.two
  go_wp2_with fail
  refine (C2.out B2 d2 _ W22.out).mono ?_
  rintro e w7 ⟨rfl, hb⟩
  clear xa0 xb0
  have HB9 := Lib.hid (HB8.out.trans ((hb).mono HB8.out.size))
  have HA9 := Lib.hid (HA8.out.below hb)
  have W8 := Lib.hid (W7.out.below hb)
  have X7 := Lib.hid (X6.out.below hb X6.out.lt)
  have U6 := Lib.hid (U5.out.below hb)
  have W23 := Lib.hid (W22.out.below hb)
  have Y2 := Lib.hid (Y1.out.below hb Y1.out.lt)
  clear HB8 HA8 W7 X6 U5 W22 Y1
  clear hb
  obtain ⟨xa0, xb0, _, _⟩ := Y2.out.two
  go_wp2_with fail
  refine (C3.out B2 d2 _ W23.out).mono ?_
  rintro e w8 ⟨A3, c3, rfl, hO, hb⟩
  clear xa0 xb0
  have HB10 := Lib.hid (HB9.out.trans ((hb).mono HB9.out.size))
  have HA10 := Lib.hid (HA9.out.below hb)
  have W9 := Lib.hid (W8.out.below hb)
  have X8 := Lib.hid (X7.out.below hb X7.out.lt)
  have U7 := Lib.hid (U6.out.below hb)
  have W24 := Lib.hid (W23.out.below hb)
  have Y3 := Lib.hid (Y2.out.below hb Y2.out.lt)
  clear HB9 HA9 W8 X7 U6 W23 Y2
  have V0 := Lib.hid (hO.ints)
  clear hb
  clear hO
  obtain ⟨xa0, xb0, _, _⟩ := Y3.out.two
  go_wp2_with fail
  refine (C4.out B2 d2 _ W24.out).mono ?_
  rintro e w9 ⟨A4, c4, rfl, hO, hb⟩
  clear xa0 xb0
  have HB11 := Lib.hid (HB10.out.trans ((hb).mono HB10.out.size))
  have HA11 := Lib.hid (HA10.out.below hb)
  have W10 := Lib.hid (W9.out.below hb)
  have X9 := Lib.hid (X8.out.below hb X8.out.lt)
  have U8 := Lib.hid (U7.out.below hb)
  have W25 := Lib.hid (W24.out.below hb)
  have Y4 := Lib.hid (Y3.out.below hb Y3.out.lt)
  have V1 := Lib.hid (V0.out.below hb)
  clear HB10 HA10 W9 X8 U7 W24 Y3 V0
  have VV0 := Lib.hid (hO.ints)
  clear hb
  clear hO C1 C2 C3 C4
  go_wp2_with fail
  refine (likeInts_calls A3 A4 q2 c3 q2 c4 R2 R2 _ HR2.out HR2.out hq2 hq2 V1.out VV0.out).mono ?_
  rintro e w10 ⟨rfl, dd, rfl⟩
  rw [show decide (R2 = R2) = true by simp]
  have HB12 := Lib.hid (HB11.out.trans (((belowDraws (Below.refl _ _) dd)).mono HB11.out.size))
  have HA12 := Lib.hid (HA11.out.below (belowDraws (Below.refl _ _) dd))
  have W11 := Lib.hid (W10.out.below (belowDraws (Below.refl _ _) dd))
  have X10 := Lib.hid (X9.out.below (belowDraws (Below.refl _ _) dd) X9.out.lt)
  have U9 := Lib.hid (U8.out.below (belowDraws (Below.refl _ _) dd))
  have W26 := Lib.hid (W25.out.below (belowDraws (Below.refl _ _) dd))
  have Y5 := Lib.hid (Y4.out.below (belowDraws (Below.refl _ _) dd) Y4.out.lt)
  have V2 := Lib.hid (V1.out.below (belowDraws (Below.refl _ _) dd))
  have VV1 := Lib.hid (VV0.out.below (belowDraws (Below.refl _ _) dd))
  clear HB11 HA11 W10 X9 U8 W25 Y4 V1 VV0
  clear V2
  clear VV1
  clear Y5
  clear W26
  clear HR2 HL2 HXL2
  generalize w9.drewN dd = w10 at *
  go_wp2_with fail
  refine (DrawFirstMove_ret A n c _ HN.out HA12.out (fun ad e h => Nat.lt_of_lt_of_le (HLc.out ad e h) HB12.out.size)).mono ?_
  rintro e w11 ⟨p3, B3, m3, d3, L3, a3, rfl, hO, hm3, hb⟩
  have HB13 := Lib.hid (HB12.out.trans ((hb).mono HB12.out.size))
  have HA13 := Lib.hid (HA12.out.below hb)
  have W12 := Lib.hid (W11.out.below hb)
  have X11 := Lib.hid (X10.out.below hb X10.out.lt)
  have U10 := Lib.hid (U9.out.below hb)
  clear HB12 HA12 W11 X10 U9
  have W30 := Lib.hid (hO.ints)
  clear hb
  have hal : Below w11.heap.size w11 (w11.alloc (.cells #[.int .i64 p3, .slice B3 m3 d3] 26)) := (Below.refl _ _).alloc (Nat.le_refl _) _
  have hbx := Box.new w11 26 #[.int .i64 p3, .slice B3 m3 d3]
  have HB14 := Lib.hid (HB13.out.trans ((hal).mono HB13.out.size))
  have HA14 := Lib.hid (HA13.out.below hal)
  have W13 := Lib.hid (W12.out.below hal)
  have X12 := Lib.hid (X11.out.below hal X11.out.lt)
  have U11 := Lib.hid (U10.out.below hal)
  have W31 := Lib.hid (W30.out.below hal)
  clear HB13 HA13 W12 X11 U10 W30
  have Z0 := Lib.hid (hbx)
  clear hal hbx
  have HL3 := Lib.hid (Own.len hO)
  have HXL3 := Lib.hid (own_none hO)
  have hcL3 := own_capI hO
  clear hO
  obtain ⟨y1, y2, y3, E3, g1, g2, hgood⟩ := fmw_all p3 L3 m3 a3 HL3.out hm3
  have C1 := Lib.hid g1
  have C2 := Lib.hid g2
  have HG3 := Lib.hid hgood
  clear g1 g2 hgood
  obtain ⟨xa0, xb0, _, _⟩ := Z0.out.two
  go_wp2_with fail
  refine (C1.out B3 d3 _ W31.out HXL3.out).mono ?_
  rintro e w12 ⟨rfl, hb⟩
  clear xa0 xb0
  have HB15 := Lib.hid (HB14.out.trans ((hb).mono HB14.out.size))
  have HA15 := Lib.hid (HA14.out.below hb)
  have W14 := Lib.hid (W13.out.below hb)
  have X13 := Lib.hid (X12.out.below hb X12.out.lt)
  have U12 := Lib.hid (U11.out.below hb)
  have W32 := Lib.hid (W31.out.below hb)
  have Z1 := Lib.hid (Z0.out.below hb Z0.out.lt)
  clear HB14 HA14 W13 X12 U11 W31 Z0
  clear hb
  have hal : Below w12.heap.size w12 (w12.alloc (.cells #[.int .i64 y1, .int .i64 y2, .int .i64 y3] 39)) := (Below.refl _ _).alloc (Nat.le_refl _) _
  have hbx := Box.new w12 39 #[.int .i64 y1, .int .i64 y2, .int .i64 y3]
  have HB16 := Lib.hid (HB15.out.trans ((hal).mono HB15.out.size))
  have HA16 := Lib.hid (HA15.out.below hal)
  have W15 := Lib.hid (W14.out.below hal)
  have X14 := Lib.hid (X13.out.below hal X13.out.lt)
  have U13 := Lib.hid (U12.out.below hal)
  have W33 := Lib.hid (W32.out.below hal)
  have Z2 := Lib.hid (Z1.out.below hal Z1.out.lt)
  clear HB15 HA15 W14 X13 U12 W32 Z1
  have F0 := Lib.hid (hbx)
  clear hal hbx
  obtain ⟨xa0, xb0, _, _⟩ := Z2.out.two
  go_wp2_with fail
  refine (C2.out B3 d3 _ W33.out HXL3.out).mono ?_
  rintro e w13 ⟨rfl, hb⟩
  clear xa0 xb0
  have HB17 := Lib.hid (HB16.out.trans ((hb).mono HB16.out.size))
  have HA17 := Lib.hid (HA16.out.below hb)
  have W16 := Lib.hid (W15.out.below hb)
  have X15 := Lib.hid (X14.out.below hb X14.out.lt)
  have U14 := Lib.hid (U13.out.below hb)
  have W34 := Lib.hid (W33.out.below hb)
  have Z3 := Lib.hid (Z2.out.below hb Z2.out.lt)
  have F1 := Lib.hid (F0.out.below hb F0.out.lt)
  clear HB16 HA16 W15 X14 U13 W33 Z2 F0
  clear hb
  have hal : Below w13.heap.size w13 (w13.alloc (.cells #[.int .i64 y1, .int .i64 y2, .int .i64 y3] 39)) := (Below.refl _ _).alloc (Nat.le_refl _) _
  have hbx := Box.new w13 39 #[.int .i64 y1, .int .i64 y2, .int .i64 y3]
  have HB18 := Lib.hid (HB17.out.trans ((hal).mono HB17.out.size))
  have HA18 := Lib.hid (HA17.out.below hal)
  have W17 := Lib.hid (W16.out.below hal)
  have X16 := Lib.hid (X15.out.below hal X15.out.lt)
  have U15 := Lib.hid (U14.out.below hal)
  have W35 := Lib.hid (W34.out.below hal)
  have Z4 := Lib.hid (Z3.out.below hal Z3.out.lt)
  have F2 := Lib.hid (F1.out.below hal F1.out.lt)
  clear HB17 HA17 W16 X15 U14 W34 Z3 F1
  have FF0 := Lib.hid (hbx)
  clear hal hbx
  clear C1 C2
  obtain ⟨x0, x1, x2⟩ := F2.out.three
  obtain ⟨z0, z1, z2⟩ := FF0.out.three
  have heq := move_same y1 y2 y3
  go_wp2_with fail
  refine (DrawIsOnWay_ret A n c _ HN.out HA18.out (fun ad e h => Nat.lt_of_lt_of_le (HLc.out ad e h) HB18.out.size)).mono ?_
  rintro e w14 ⟨p4, B4, m4, d4, L4, a4, q5, B5, k5, d5, M5, rfl, hO, hm4, hP, hk5, hb⟩
  clear x0 x1 x2 z0 z1 z2 heq
  have HB19 := Lib.hid (HB18.out.trans ((hb).mono HB18.out.size))
  have HA19 := Lib.hid (HA18.out.below hb)
  have W18 := Lib.hid (W17.out.below hb)
  have X17 := Lib.hid (X16.out.below hb X16.out.lt)
  have U16 := Lib.hid (U15.out.below hb)
  have W36 := Lib.hid (W35.out.below hb)
  have Z5 := Lib.hid (Z4.out.below hb Z4.out.lt)
  have F3 := Lib.hid (F2.out.below hb F2.out.lt)
  have FF1 := Lib.hid (FF0.out.below hb FF0.out.lt)
  clear HB18 HA18 W17 X16 U15 W35 Z4 F2 FF0
  have W40 := Lib.hid (hO.ints)
  have W50 := Lib.hid (hP.ints)
  clear hb
  clear HA19
  clear FF1
  have hal : Below w14.heap.size w14 ((w14.alloc (.cells #[.int .i64 p4, .slice B4 m4 d4] 26)).alloc (.cells #[.int .i64 q5, .slice B5 k5 d5] 26)) := ((Below.refl _ _).alloc (Nat.le_refl _) _).alloc (by simp) _
  have hbx := (Box.new w14 26 #[.int .i64 p4, .slice B4 m4 d4]).alloc (.cells #[.int .i64 q5, .slice B5 k5 d5] 26)
  have hby := Box.new (w14.alloc (.cells #[.int .i64 p4, .slice B4 m4 d4] 26)) 26 #[.int .i64 q5, .slice B5 k5 d5]
  rw [World.size_alloc] at hby
  have HB20 := Lib.hid (HB19.out.trans ((hal).mono HB19.out.size))
  have W19 := Lib.hid (W18.out.below hal)
  have X18 := Lib.hid (X17.out.below hal X17.out.lt)
  have U17 := Lib.hid (U16.out.below hal)
  have W37 := Lib.hid (W36.out.below hal)
  have Z6 := Lib.hid (Z5.out.below hal Z5.out.lt)
  have F4 := Lib.hid (F3.out.below hal F3.out.lt)
  have W41 := Lib.hid (W40.out.below hal)
  have W51 := Lib.hid (W50.out.below hal)
  clear HB19 W18 X17 U16 W36 Z5 F3 W40 W50
  have P0 := Lib.hid (hbx)
  have Q0 := Lib.hid (hby)
  clear hal hbx hby
  have HL4 := Lib.hid (Own.len hO)
  have HX4 := Lib.hid (own_none hO)
  have hc4 := own_capI hO
  have HM5 := Lib.hid (Own.len hP)
  have HX5 := Lib.hid (own_none hP)
  have hc5 := own_capI hP
  clear hO hP
  obtain ⟨b6, E6, g1, g2, hgood⟩ := onw_all p4 L4 m4 a4 q5 M5 k5 HL4.out hm4 HM5.out hk5
  have C1 := Lib.hid g1
  have C2 := Lib.hid g2
  have HG6 := Lib.hid hgood
  clear g1 g2 hgood
  obtain ⟨xa0, xb0, _, _⟩ := P0.out.two
  obtain ⟨xa1, xb1, _, _⟩ := Q0.out.two
  go_wp2_with fail
  refine (C1.out B4 d4 B5 d5 _ W41.out W51.out hc4.1 hc4.2 HX4.out hc5.1 hc5.2 HX5.out).mono ?_
  rintro e w15 ⟨rfl, hb⟩
  clear xa0 xb0 xa1 xb1
  have HB21 := Lib.hid (HB20.out.trans ((hb).mono HB20.out.size))
  have W20 := Lib.hid (W19.out.below hb)
  have X19 := Lib.hid (X18.out.below hb X18.out.lt)
  have U18 := Lib.hid (U17.out.below hb)
  have W38 := Lib.hid (W37.out.below hb)
  have Z7 := Lib.hid (Z6.out.below hb Z6.out.lt)
  have F5 := Lib.hid (F4.out.below hb F4.out.lt)
  have W42 := Lib.hid (W41.out.below hb)
  have W52 := Lib.hid (W51.out.below hb)
  have P1 := Lib.hid (P0.out.below hb P0.out.lt)
  have Q1 := Lib.hid (Q0.out.below hb Q0.out.lt)
  clear HB20 W19 X18 U17 W37 Z6 F4 W41 W51 P0 Q0
  clear hb
  obtain ⟨xa0, xb0, _, _⟩ := P1.out.two
  obtain ⟨xa1, xb1, _, _⟩ := Q1.out.two
  go_wp2_with fail
  refine (C2.out B4 d4 B5 d5 _ W42.out W52.out hc4.1 hc4.2 HX4.out hc5.1 hc5.2 HX5.out).mono ?_
  rintro e w16 ⟨rfl, hb⟩
  clear xa0 xb0 xa1 xb1
  have HB22 := Lib.hid (HB21.out.trans ((hb).mono HB21.out.size))
  have W21 := Lib.hid (W20.out.below hb)
  have X20 := Lib.hid (X19.out.below hb X19.out.lt)
  have U19 := Lib.hid (U18.out.below hb)
  have W39 := Lib.hid (W38.out.below hb)
  have Z8 := Lib.hid (Z7.out.below hb Z7.out.lt)
  have F6 := Lib.hid (F5.out.below hb F5.out.lt)
  have W43 := Lib.hid (W42.out.below hb)
  have W53 := Lib.hid (W52.out.below hb)
  have P2 := Lib.hid (P1.out.below hb P1.out.lt)
  have Q2 := Lib.hid (Q1.out.below hb Q1.out.lt)
  clear HB21 W20 X19 U18 W38 Z7 F5 W42 W52 P1 Q1
  clear hb
  clear C1 C2
  go_upto_if 178 with (fail)
  go_cut [] from 50 (fun wc => Below w16.heap.size w16 wc)
  case first =>
    as_aux_lemma =>
      have LB0 := Lib.hid (Below.refl w16.heap.size w16)
      rcases HG6.out with hE | ⟨rfl, D1, D2', D3, hbd, hab, g1, g2, g3⟩
      · have hd : (E6 == 0) = false := by simpa using hE
        go_wp2
        go_meet
        case rel => exact LB0.out
      · have T1 := Lib.hid g1
        have T2 := Lib.hid g2
        have T3 := Lib.hid g3
        have HAB := Lib.hid hab
        clear g1 g2 g3 hab
        clear HG6
        obtain ⟨hw1, hw2⟩ := wrapS D3 D2' hbd
        obtain ⟨xa0, xb0, _, _⟩ := P2.out.two
        go_wp2_with fail
        refine (T1.out B4 d4 _ W43.out).mono ?_
        rintro e w17 ⟨rfl, hb⟩
        clear xa0 xb0
        have HB23 := Lib.hid (HB22.out.trans ((hb).mono HB22.out.size))
        have W22 := Lib.hid (W21.out.below hb)
        have X21 := Lib.hid (X20.out.below hb X20.out.lt)
        have U20 := Lib.hid (U19.out.below hb)
        have W310 := Lib.hid (W39.out.below hb)
        have Z9 := Lib.hid (Z8.out.below hb Z8.out.lt)
        have F7 := Lib.hid (F6.out.below hb F6.out.lt)
        have W44 := Lib.hid (W43.out.below hb)
        have W54 := Lib.hid (W53.out.below hb)
        have P3 := Lib.hid (P2.out.below hb P2.out.lt)
        have Q3 := Lib.hid (Q2.out.below hb Q2.out.lt)
        have LB1 := Lib.hid (LB0.out.trans ((hb).mono LB0.out.size))
        clear HB22 W21 X20 U19 W39 Z8 F6 W43 W53 P2 Q2 LB0
        clear hb
        obtain ⟨xa0, xb0, _, _⟩ := Q3.out.two
        go_wp2_with fail
        refine (T2.out B5 d5 _ W54.out).mono ?_
        rintro e w18 ⟨rfl, hb⟩
        clear xa0 xb0
        have HB24 := Lib.hid (HB23.out.trans ((hb).mono HB23.out.size))
        have W23 := Lib.hid (W22.out.below hb)
        have X22 := Lib.hid (X21.out.below hb X21.out.lt)
        have U21 := Lib.hid (U20.out.below hb)
        have W311 := Lib.hid (W310.out.below hb)
        have Z10 := Lib.hid (Z9.out.below hb Z9.out.lt)
        have F8 := Lib.hid (F7.out.below hb F7.out.lt)
        have W45 := Lib.hid (W44.out.below hb)
        have W55 := Lib.hid (W54.out.below hb)
        have P4 := Lib.hid (P3.out.below hb P3.out.lt)
        have Q4 := Lib.hid (Q3.out.below hb Q3.out.lt)
        have LB2 := Lib.hid (LB1.out.trans ((hb).mono LB1.out.size))
        clear HB23 W22 X21 U20 W310 Z9 F7 W44 W54 P3 Q3 LB1
        clear hb
        obtain ⟨xa0, xb0, _, _⟩ := P4.out.two
        obtain ⟨xa1, xb1, _, _⟩ := Q4.out.two
        go_wp2_with fail
        refine (T3.out B4 d4 B5 d5 _ W45.out W55.out hc4.1 hc4.2 HX4.out hc5.1 hc5.2 HX5.out).mono ?_
        rintro e w19 ⟨rfl, hb⟩
        clear xa0 xb0 xa1 xb1
        have HB25 := Lib.hid (HB24.out.trans ((hb).mono HB24.out.size))
        have W24 := Lib.hid (W23.out.below hb)
        have X23 := Lib.hid (X22.out.below hb X22.out.lt)
        have U22 := Lib.hid (U21.out.below hb)
        have W312 := Lib.hid (W311.out.below hb)
        have Z11 := Lib.hid (Z10.out.below hb Z10.out.lt)
        have F9 := Lib.hid (F8.out.below hb F8.out.lt)
        have W46 := Lib.hid (W45.out.below hb)
        have W56 := Lib.hid (W55.out.below hb)
        have P5 := Lib.hid (P4.out.below hb P4.out.lt)
        have Q5 := Lib.hid (Q4.out.below hb Q4.out.lt)
        have LB3 := Lib.hid (LB2.out.trans ((hb).mono LB2.out.size))
        clear HB24 W23 X22 U21 W311 Z10 F8 W45 W55 P4 Q4 LB2
        clear hb
        have hab := HAB.out
        have hab2 : (D3 + D2' == D1) = b6 := by rw [← hab]; rfl
        clear HAB
        go_wp2
        go_meet
        case rel => exact LB3.out
  case rest =>
    as_aux_lemma =>
      obtain ⟨w17, hwc⟩ : ∃ x, x = wc := ⟨wc, rfl⟩
      subst hwc
      have HB23 := Lib.hid (HB22.out.trans ((hcut).mono HB22.out.size))
      have W22 := Lib.hid (W21.out.below hcut)
      have X21 := Lib.hid (X20.out.below hcut X20.out.lt)
      have U20 := Lib.hid (U19.out.below hcut)
      have W310 := Lib.hid (W39.out.below hcut)
      have Z9 := Lib.hid (Z8.out.below hcut Z8.out.lt)
      have F7 := Lib.hid (F6.out.below hcut F6.out.lt)
      have W44 := Lib.hid (W43.out.below hcut)
      have W54 := Lib.hid (W53.out.below hcut)
      have P3 := Lib.hid (P2.out.below hcut P2.out.lt)
      have Q3 := Lib.hid (Q2.out.below hcut Q2.out.lt)
      clear HB22 W21 X20 U19 W39 Z8 F6 W43 W53 P2 Q2
      clear hcut
      clear HG6 HL4 HX4 HM5 HX5
      clear P3
      clear Q3
      clear W44
      clear W54
      go_upto_if 217 with (fail)
      go_cut [] from 50 (fun wc => Below w17.heap.size w17 wc)
      case first =>
        as_aux_lemma =>
          have LB0 := Lib.hid (Below.refl w17.heap.size w17)
          rcases HG3.out with hE | ⟨rfl, D, R, hR, hD, g1, g2, g3⟩
          · have hd : (E3 == 0) = false := by simpa using hE
            go_wp2
            go_meet
            case rel => exact LB0.out
          · have T1 := Lib.hid g1
            have T2 := Lib.hid g2
            have T3 := Lib.hid g3
            have HR := Lib.hid hR
            clear g1 g2 g3 hR
            clear HG3
            obtain ⟨hw1, hw2⟩ := wrapD D hD
            obtain ⟨xa0, xb0, _, _⟩ := Z9.out.two
            go_wp2_with fail
            refine (T1.out B3 d3 _ W310.out).mono ?_
            rintro e w18 ⟨rfl, hb⟩
            clear xa0 xb0
            have HB24 := Lib.hid (HB23.out.trans ((hb).mono HB23.out.size))
            have W23 := Lib.hid (W22.out.below hb)
            have X22 := Lib.hid (X21.out.below hb X21.out.lt)
            have U21 := Lib.hid (U20.out.below hb)
            have W311 := Lib.hid (W310.out.below hb)
            have Z10 := Lib.hid (Z9.out.below hb Z9.out.lt)
            have F8 := Lib.hid (F7.out.below hb F7.out.lt)
            have LB1 := Lib.hid (LB0.out.trans ((hb).mono LB0.out.size))
            clear HB23 W22 X21 U20 W310 Z9 F7 LB0
            clear hb
            obtain ⟨xa0, xb0, _, _⟩ := Z10.out.two
            obtain ⟨ya0, yb0, yc0⟩ := F8.out.three
            go_wp2_with fail
            refine (T2.out B3 d3 _ W311.out hcL3.1 hcL3.2).mono ?_
            rintro e w19 ⟨A7, c7, rfl, hO, hb⟩
            clear xa0 xb0 ya0 yb0 yc0
            have HB25 := Lib.hid (HB24.out.trans ((hb).mono HB24.out.size))
            have W24 := Lib.hid (W23.out.below hb)
            have X23 := Lib.hid (X22.out.below hb X22.out.lt)
            have U22 := Lib.hid (U21.out.below hb)
            have W312 := Lib.hid (W311.out.below hb)
            have Z11 := Lib.hid (Z10.out.below hb Z10.out.lt)
            have F9 := Lib.hid (F8.out.below hb F8.out.lt)
            have LB2 := Lib.hid (LB1.out.trans ((hb).mono LB1.out.size))
            clear HB24 W23 X22 U21 W311 Z10 F8 LB1
            have W70 := Lib.hid (hO.ints)
            clear hb
            have hal : Below w19.heap.size w19 (w19.alloc (.cells #[.int .i64 3, .slice A7 m3 c7] 26)) := (Below.refl _ _).alloc (Nat.le_refl _) _
            have hbx := Box.new w19 26 #[.int .i64 3, .slice A7 m3 c7]
            have HB26 := Lib.hid (HB25.out.trans ((hal).mono HB25.out.size))
            have W25 := Lib.hid (W24.out.below hal)
            have X24 := Lib.hid (X23.out.below hal X23.out.lt)
            have U23 := Lib.hid (U22.out.below hal)
            have W313 := Lib.hid (W312.out.below hal)
            have Z12 := Lib.hid (Z11.out.below hal Z11.out.lt)
            have F10 := Lib.hid (F9.out.below hal F9.out.lt)
            have LB3 := Lib.hid (LB2.out.trans ((hal).mono LB2.out.size))
            have W71 := Lib.hid (W70.out.below hal)
            clear HB25 W24 X23 U22 W312 Z11 F9 LB2 W70
            have N70 := Lib.hid (hbx)
            clear hal hbx
            clear hO
            obtain ⟨xa0, xb0, _, _⟩ := N70.out.two
            go_wp2_with fail
            refine (T3.out A7 c7 _ W71.out).mono ?_
            rintro e w20 ⟨rfl, hb⟩
            clear xa0 xb0
            have HB27 := Lib.hid (HB26.out.trans ((hb).mono HB26.out.size))
            have W26 := Lib.hid (W25.out.below hb)
            have X25 := Lib.hid (X24.out.below hb X24.out.lt)
            have U24 := Lib.hid (U23.out.below hb)
            have W314 := Lib.hid (W313.out.below hb)
            have Z13 := Lib.hid (Z12.out.below hb Z12.out.lt)
            have F11 := Lib.hid (F10.out.below hb F10.out.lt)
            have LB4 := Lib.hid (LB3.out.trans ((hb).mono LB3.out.size))
            have W72 := Lib.hid (W71.out.below hb)
            have N71 := Lib.hid (N70.out.below hb N70.out.lt)
            clear HB26 W25 X24 U23 W313 Z12 F10 LB3 W71 N70
            clear hb
            go_wp2
            go_meet
            case rel => exact LB4.out
      case rest =>
        as_aux_lemma =>
          obtain ⟨w18, hwc⟩ : ∃ x, x = wc := ⟨wc, rfl⟩
          subst hwc
          have HB24 := Lib.hid (HB23.out.trans ((hcut).mono HB23.out.size))
          have W23 := Lib.hid (W22.out.below hcut)
          have X22 := Lib.hid (X21.out.below hcut X21.out.lt)
          have U21 := Lib.hid (U20.out.below hcut)
          have W311 := Lib.hid (W310.out.below hcut)
          have Z10 := Lib.hid (Z9.out.below hcut Z9.out.lt)
          have F8 := Lib.hid (F7.out.below hcut F7.out.lt)
          clear HB23 W22 X21 U20 W310 Z9 F7
          clear hcut
          clear HG3 HL3 HXL3
          clear Z10
          clear F8
          clear W311
          rcases HG1.out with ⟨hE, rfl⟩ | ⟨rfl, R, hR, g1, g2, g3⟩
          · have hd : (E1 != 0) = true := by simpa using hE
            go_wp2
            go_ret
            exact ⟨rfl, HB24.out⟩
          · have T1 := Lib.hid g1
            have T2 := Lib.hid g2
            have T3 := Lib.hid g3
            have HR := Lib.hid hR
            clear g1 g2 g3 hR
            clear HG1
            obtain ⟨xa0, xb0, _, _⟩ := X22.out.two
            go_wp2_with fail
            refine (T1.out B d _ W23.out).mono ?_
            rintro e w19 ⟨rfl, hb⟩
            clear xa0 xb0
            have HB25 := Lib.hid (HB24.out.trans ((hb).mono HB24.out.size))
            have W24 := Lib.hid (W23.out.below hb)
            have X23 := Lib.hid (X22.out.below hb X22.out.lt)
            have U22 := Lib.hid (U21.out.below hb)
            clear HB24 W23 X22 U21
            clear hb
            obtain ⟨xa0, xb0, _, _⟩ := X23.out.two
            go_wp2_with fail
            refine (T2.out B d A1 c1 _ W24.out U22.out).mono ?_
            rintro e w20 ⟨A8, c8, rfl, hO, hb⟩
            clear xa0 xb0
            have HB26 := Lib.hid (HB25.out.trans ((hb).mono HB25.out.size))
            have W25 := Lib.hid (W24.out.below hb)
            have X24 := Lib.hid (X23.out.below hb X23.out.lt)
            have U23 := Lib.hid (U22.out.below hb)
            clear HB25 W24 X23 U22
            have W80 := Lib.hid (hO.ints)
            clear hb
            have hal : Below w20.heap.size w20 (w20.alloc (.cells #[.int .i64 3, .slice A8 m c8] 26)) := (Below.refl _ _).alloc (Nat.le_refl _) _
            have hbx := Box.new w20 26 #[.int .i64 3, .slice A8 m c8]
            have HB27 := Lib.hid (HB26.out.trans ((hal).mono HB26.out.size))
            have W26 := Lib.hid (W25.out.below hal)
            have X25 := Lib.hid (X24.out.below hal X24.out.lt)
            have U24 := Lib.hid (U23.out.below hal)
            have W81 := Lib.hid (W80.out.below hal)
            clear HB26 W25 X24 U23 W80
            have N80 := Lib.hid (hbx)
            clear hal hbx
            clear hO
            obtain ⟨xa0, xb0, _, _⟩ := X25.out.two
            go_wp2_with fail
            refine (T3.out _).mono ?_
            rintro e w21 ⟨A9, c9, rfl, hO, hb⟩
            clear xa0 xb0
            have HB28 := Lib.hid (HB27.out.trans ((hb).mono HB27.out.size))
            have W27 := Lib.hid (W26.out.below hb)
            have X26 := Lib.hid (X25.out.below hb X25.out.lt)
            have U25 := Lib.hid (U24.out.below hb)
            have W82 := Lib.hid (W81.out.below hb)
            have N81 := Lib.hid (N80.out.below hb N80.out.lt)
            clear HB27 W26 X25 U24 W81 N80
            have W90 := Lib.hid (hO.ints)
            clear hb
            have hal : Below w21.heap.size w21 (w21.alloc (.cells #[.int .i64 3, .slice A9 m c9] 26)) := (Below.refl _ _).alloc (Nat.le_refl _) _
            have hbx := Box.new w21 26 #[.int .i64 3, .slice A9 m c9]
            have HB29 := Lib.hid (HB28.out.trans ((hal).mono HB28.out.size))
            have W28 := Lib.hid (W27.out.below hal)
            have X27 := Lib.hid (X26.out.below hal X26.out.lt)
            have U26 := Lib.hid (U25.out.below hal)
            have W83 := Lib.hid (W82.out.below hal)
            have N82 := Lib.hid (N81.out.below hal N81.out.lt)
            have W91 := Lib.hid (W90.out.below hal)
            clear HB28 W27 X26 U25 W82 N81 W90
            have N90 := Lib.hid (hbx)
            clear hal hbx
            clear hO
            obtain ⟨xa0, xb0, _, _⟩ := N82.out.two
            obtain ⟨xa1, xb1, _, _⟩ := N90.out.two
            go_wp2_with fail
            refine (state9_same A8 A9 m c8 c9 3 R _ HR.out (by omega) W83.out W91.out).mono ?_
            rintro e w22 ⟨rfl, hb⟩
            clear xa0 xb0 xa1 xb1
            have HB30 := Lib.hid (HB29.out.trans ((hb).mono HB29.out.size))
            have W29 := Lib.hid (W28.out.below hb)
            have X28 := Lib.hid (X27.out.below hb X27.out.lt)
            have U27 := Lib.hid (U26.out.below hb)
            have W84 := Lib.hid (W83.out.below hb)
            have N83 := Lib.hid (N82.out.below hb N82.out.lt)
            have W92 := Lib.hid (W91.out.below hb)
            have N91 := Lib.hid (N90.out.below hb N90.out.lt)
            clear HB29 W28 X27 U26 W83 N82 W91 N90
            clear hb
            go_wp2
            go_ret
            exact ⟨rfl, HB30.out⟩

end Go.Proofs.Ytnbjnlgdolhlmaa
