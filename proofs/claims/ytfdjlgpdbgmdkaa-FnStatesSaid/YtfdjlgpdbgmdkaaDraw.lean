/- Contracts: the numbers that a law draws from its code. -/
import Derived.Test.YtfdjlgpdbgmdkaaBase
import Derived.Test.YtfdjlgpdbgmdkaaMark
import Derived.Laws.Bits64b
import Derived.BigQuiet
namespace Go.Proofs.Ytfdjlgpdbgmdkaa
open Go.RowKit
set_option linter.unusedVariables false

/-- Bytes that lie at the address. -/
def By (w : World) (A : Option Addr) (n : Nat) : Prop :=
  ∀ k, k < n → ∃ ad : Addr, A = some ad ∧ ad.block < w.heap.size ∧ ∃ b : Nat, b < 256 ∧ w.cell? (ad.add k) = some (.int .u8 b)
theorem By.below {w w' : World} {A : Option Addr} {n : Nat} (h : By w A n) (hb : Below w.heap.size w w') : By w' A n := by
  intro k hk
  obtain ⟨ad, rfl, hlt, b, hl, hc⟩ := h k hk
  exact ⟨ad, rfl, Nat.lt_of_lt_of_le hlt hb.size, b, hl, (hb.cell (p := ad.add k) (by rw [add_block]; exact hlt)).trans hc⟩
theorem By.belowAt {B : Nat} {w w' : World} {A : Option Addr} {n : Nat} (h : By w A n) (hA : ∀ ad, A = some ad → 0 < n → ad.block < B) (hb : Below B w w') : By w' A n := by
  intro k hk
  obtain ⟨ad, rfl, hlt, b, hl, hc⟩ := h k hk
  exact ⟨ad, rfl, Nat.lt_of_lt_of_le hlt hb.size, b, hl, (hb.cell (p := ad.add k) (by rw [add_block]; exact hA _ rfl (by omega))).trans hc⟩

/-- The source of drawn numbers in block g: a code that lies ahead of it, a place in it, a number. -/
def Src (w : World) (g : Nat) (A : Option Addr) (n c : Nat) : Prop :=
  ∃ k h : Nat, k ≤ n ∧ h < 18446744073709551616 ∧ Box w g 91 #[.slice A n c, .int .i64 k, .int .u64 h] ∧ By w A n ∧ ∀ ad, A = some ad → 0 < n → ad.block < g
theorem Src.below {w w' : World} {g : Nat} {A : Option Addr} {n c : Nat} (h : Src w g A n c) (hb : Below w.heap.size w w') : Src w' g A n c := by
  obtain ⟨k, x, hk, hx, hB, hA, hl⟩ := h
  exact ⟨k, x, hk, hx, hB.below hb hB.lt, hA.below hb, hl⟩
theorem Src.lt {w : World} {g : Nat} {A : Option Addr} {n c : Nat} (h : Src w g A n c) : g < w.heap.size := by
  obtain ⟨k, x, hk, hx, hB, hA, hl⟩ := h
  exact hB.lt

theorem mask24 (x : Nat) (hx : x < 18446744073709551616) : ∃ y : Nat, y ≤ 16777215 ∧ bits .and .u64 ((x : Int) / 8589934592) 16777215 = y := by
  refine ⟨x / 8589934592 &&& 16777215, Nat.and_le_right, ?_⟩
  rw [show (x : Int) / 8589934592 = ((x / 8589934592 : Nat) : Int) by omega, show (16777215 : Int) = ((16777215 : Nat) : Int) from rfl, bits_and_u64_nat _ _ (by omega) (by omega)]

theorem grown_set (w : World) (g i : Nat) (u : Value) : w.grownBy (w.setCell ⟨g, i, none⟩ u) (some g) :=
  ⟨rfl, rfl, rfl, by simp [World.setCell], fun k _ hk => Below.heap_setCell _ _ _ k (fun e => hk (by rw [e]))⟩
theorem grown_drew {w w' : World} {row : Option Nat} (h : w.grownBy w' row) : w.grownBy w'.drew row := ⟨h.os, h.tape, h.output, h.size, h.block⟩
theorem By.grown {w w' : World} {A : Option Addr} {n g : Nat} (h : By w A n) (hg : w.grownBy w' (some g)) (hA : ∀ ad, A = some ad → 0 < n → ad.block < g) : By w' A n := by
  intro k hk
  obtain ⟨ad, rfl, hlt, b, hl, hc⟩ := h k hk
  refine ⟨ad, rfl, Nat.lt_of_lt_of_le hlt hg.size, b, hl, hg.cell hc ?_⟩
  rw [add_block]
  intro e
  injection e with e
  have := hA _ rfl (by omega)
  omega
theorem wrapu_is (z : Int) : ∃ H : Nat, H < 18446744073709551616 ∧ IntKind.u64.wrap (IntKind.u64.wrap z + 1442695040888963407) = H := by
  rw [IntKind.wrap_u64 (IntKind.u64.wrap z + 1442695040888963407)]
  generalize IntKind.u64.wrap z + 1442695040888963407 = u
  have h0 := Int.emod_nonneg u (show (18446744073709551616 : Int) ≠ 0 by decide)
  have h1 := Int.emod_lt_of_pos u (show (0 : Int) < 18446744073709551616 by decide)
  obtain ⟨H, hH⟩ := Int.eq_ofNat_of_zero_le h0
  exact ⟨H, by rw [hH] at h1; clear hH h0; omega, hH⟩
theorem wrap_small (z : Int) (h0 : 0 ≤ z) (h1 : z ≤ 4294967296) : wrap64 z = z := IntWalk.wrap64_in _ (by omega)
theorem mod_in (z m : Int) (hz : 0 ≤ z) (hm : 1 ≤ m) : 0 ≤ z % m ∧ z % m ≤ z ∧ z % m < m := by
  obtain ⟨a, rfl⟩ := Int.eq_ofNat_of_zero_le hz
  obtain ⟨b, rfl⟩ := Int.eq_ofNat_of_zero_le (show (0 : Int) ≤ m by omega)
  have h1 := Nat.mod_le a b
  exact ⟨Int.emod_nonneg _ (by omega), by exact_mod_cast h1, Int.emod_lt_of_pos _ (by omega)⟩

theorem l01Next_calls (g : Nat) (A : Option Addr) (n c : Nat) (m : Int) (w : World) (hn : n ≤ 4096) (h : Src w g A n c) :
    Calls Try.prog 55 #[.pointer (some ⟨g, 0, none⟩), .int .i64 m] w fun e w' => ∃ x : Int, e = .returned (.int .i64 x) ∧ (0 ≤ x ∧ x ≤ 16777470 ∧ (x < m ∨ x = 0)) ∧ Src w' g A n c ∧ w.grownBy w' (some g) := by
  have hSrc := h
  obtain ⟨k, x, hk, hx, hB, hA, hl⟩ := h
  obtain ⟨c0, c1, c2⟩ := hB.three
  have z0 := hB.frozen 0
  have z1 := hB.frozen 1
  have z2 := hB.frozen 2
  by_cases hm1 : m < 1
  · go_enter Try.func55, Try.ntmps55
    go_wp2
    go_ret
    exact ⟨0, rfl, ⟨by omega, by omega, .inr rfl⟩, hSrc, World.grownBy.refl _ _⟩
  · obtain ⟨H, hH, eH⟩ := wrapu_is ((x : Int) * 6364136223846793005)
    obtain ⟨y, hy, eY⟩ := mask24 H hH
    have e64 : wrap64 (y : Int) = y := wrap_small _ (by clear eY eH hH hx; omega) (by clear eY eH hH hx; omega)
    have EH := Lib.hid eH
    have EY := Lib.hid eY
    have E64 := Lib.hid e64
    have HH := Lib.hid hH
    clear eH eY e64 hH hx
    go_enter Try.func55, Try.ntmps55
    go_wp2
    simp only [EH.out, EY.out, E64.out]
    have hB1 : Box (w.setCell ⟨g, 2, none⟩ (.int .u64 (H : Int))) g 91 #[.slice A n c, .int .i64 k, .int .u64 H] := hB.set 2 _
    have hG1 := grown_set w g 2 (.int .u64 (H : Int))
    have hA1 := hA.grown hG1 hl
    clear c0 c1 c2 z0 z1 z2 hB hA EH EY E64 hSrc
    generalize w.setCell ⟨g, 2, none⟩ (.int .u64 (H : Int)) = w1 at *
    obtain ⟨c0, c1, c2⟩ := hB1.three
    have z1 := hB1.frozen 1
    by_cases hkn : k < n
    · obtain ⟨ad, rfl, hlt, b, hb, hc⟩ := hA1 k hkn
      have hi0 : (0 : Int) ≤ (k : Int) := by omega
      have hi1 : (k : Int) < (n : Int) := by omega
      have E2 := Lib.hid (wrap_small ((y : Int) + b) (by omega) (by omega))
      have E1 := Lib.hid (wrap_small (b : Int) (by omega) (by omega))
      have E3 := Lib.hid (wrap_small ((k : Int) + 1) (by omega) (by omega))
      go_region
      go_wp2
      go_region
      go_wp2
      go_ret
      obtain ⟨t0, t1, t2⟩ := mod_in ((y : Int) + b) m (by omega) (by omega)
      have hG2 := grown_set w1 g 1 (.int .i64 ((k : Int) + 1))
      exact ⟨_, rfl, ⟨t0, by omega, .inl t2⟩, ⟨k + 1, H, hkn, HH.out, hB1.set 1 (.int .i64 ((k : Int) + 1)), hA1.grown (grown_drew (grown_drew hG2)) hl, hl⟩, grown_drew (grown_drew (hG1.trans hG2))⟩
    · have hi1 : ¬ (k : Int) < (n : Int) := by omega
      go_region
      go_wp2
      go_ret
      obtain ⟨t0, t1, t2⟩ := mod_in (y : Int) m (by omega) (by omega)
      exact ⟨_, rfl, ⟨t0, by omega, .inl t2⟩, ⟨k, H, hk, HH.out, hB1, hA1, hl⟩, grown_drew hG1⟩

theorem Src.drews {w : World} {g : Nat} {A : Option Addr} {n c : Nat} (h : Src w g A n c) : Src w.drew g A n c := h

/-- A number that fits 64 bits without a sign. -/
def U64 (h : Int) : Prop := ∃ H : Nat, H < 18446744073709551616 ∧ h = H
theorem u64_wrap (z : Int) : U64 (IntKind.u64.wrap z) := by
  rw [IntKind.wrap_u64]
  have h0 := Int.emod_nonneg z (show (18446744073709551616 : Int) ≠ 0 by decide)
  have h1 := Int.emod_lt_of_pos z (show (0 : Int) < 18446744073709551616 by decide)
  obtain ⟨H, hH⟩ := Int.eq_ofNat_of_zero_le h0
  exact ⟨H, by rw [hH] at h1; clear hH h0; omega, hH⟩
theorem u64_start (n : Nat) (hn : n ≤ 4096) : U64 (13211 + (n : Int)) := ⟨13211 + n, by omega, by omega⟩
theorem box_src {w : World} {g n c k : Nat} {h : Int} {A : Option Addr} (hk : k ≤ n) (hU : U64 h) (hB : Box w g 91 #[.slice A n c, .int .i64 k, .int .u64 h]) (hA : By w A n) (hl : ∀ ad, A = some ad → 0 < n → ad.block < g) : Src w g A n c := by
  obtain ⟨H, hH, rfl⟩ := hU
  exact ⟨k, H, hk, hH, hB, hA, hl⟩
theorem below_set {B : Nat} {a w : World} (h : Below B a w) {g i : Nat} (hg : B ≤ g) (u : Value) : Below B a (w.setCell ⟨g, i, none⟩ u) := h.setCell (show B ≤ (⟨g, i, none⟩ : Addr).block from hg) u

theorem l01From_calls (A : Option Addr) (n c : Nat) (w : World) (hn : n ≤ 4096) (hA : By w A n) (hl : ∀ ad, A = some ad → 0 < n → ad.block < w.heap.size) :
    Calls Try.prog 38 #[.slice A n c] w fun e w' => ∃ g, e = .returned (.pointer (some ⟨g, 0, none⟩)) ∧ w.heap.size ≤ g ∧ Src w' g A n c ∧ Below w.heap.size w w' := by
  have HA := Lib.hid hA
  have HL := Lib.hid hl
  have HU := Lib.hid (u64_start n hn)
  have HN := Lib.hid hn
  clear hA hl hn
  have hN0 : (n : Int) ≤ 4096 := by have := HN.out; omega
  go_enter Try.func38, Try.ntmps38
  go_wp2
  have hB0 := Box.new w 91 #[.slice A n c, .int .i64 0, .int .u64 (13211 + (n : Int))]
  have hb0 : Below w.heap.size w (w.alloc (.cells #[.slice A n c, .int .i64 0, .int .u64 (13211 + (n : Int))] 91)) := (Below.refl _ _).alloc (Nat.le_refl _) _
  go_loopw [4] (fun i wr => ∃ (k : Nat) (h : Int), k ≤ n ∧ Hid (U64 h) ∧ i = .int .i64 (k : Int) ∧ Box wr w.heap.size 91 #[.slice A n c, .int .i64 0, .int .u64 h] ∧ Below w.heap.size w wr) (fun i _ => n - (intOf i).toNat)
  case atStart => exact ⟨0, _, Nat.zero_le _, HU, rfl, hB0, hb0⟩
  case round =>
    obtain ⟨k, h, hk, hU, rfl, hB, hb⟩ := hrel
    obtain ⟨c0, c1, c2⟩ := hB.three
    have z2 := hB.frozen 2
    have hi0 : (0 : Int) ≤ (k : Int) := by omega
    by_cases hkn : k < n
    · obtain ⟨ad, rfl, hlt, b, hb8, hc⟩ := HA.out.below hb k hkn
      have hi1 : (k : Int) < (n : Int) := by omega
      have hi2 : (k : Int) < 4096 := by omega
      go_wp2
      go_region
      go_wp2
      exact ⟨⟨k + 1, _, hkn, Lib.hid (u64_wrap (IntKind.u64.wrap (IntKind.u64.wrap (h * 1099511628211) + (b : Int)) + 139)), rfl, hB.set 2 (.int .u64 (IntKind.u64.wrap (IntKind.u64.wrap (IntKind.u64.wrap (h * 1099511628211) + (b : Int)) + 139))), (below_set hb (Nat.le_refl _) _).drew⟩, by simp only [intOf]; omega⟩
    · have hi1 : ¬ (k : Int) < (n : Int) := by omega
      go_wp2
      go_ret
      exact ⟨_, rfl, Nat.le_refl _, box_src (k := 0) (Nat.zero_le _) hU.out hB (HA.out.below hb) HL.out, hb⟩

theorem Ints.grown {w w' : World} {A : Option Addr} {L : List Int} {g : Nat} (h : Ints w A L) (hg : w.grownBy w' (some g)) (hA : ∀ ad, A = some ad → ad.block ≠ g) : Ints w' A L := by
  intro k hk
  obtain ⟨ad, rfl, hlt, hc⟩ := h k hk
  refine ⟨ad, rfl, Nat.lt_of_lt_of_le hlt hg.size, hg.cell hc ?_⟩
  rw [add_block]
  intro e
  injection e with e
  exact hA _ rfl e

theorem l01Pick_calls (g : Nat) (A : Option Addr) (n c : Nat) (A' : Option Addr) (m c' : Nat) (L : List Int) (w : World) (hn : n ≤ 4096) (hm0 : 1 ≤ m) (hm : m ≤ 1048576) (hL : L.length = m) (hI : Ints w A' L) (hne : ∀ ad, A' = some ad → ad.block ≠ g) (h : Src w g A n c) :
    Calls Try.prog 56 #[.pointer (some ⟨g, 0, none⟩), .slice A' m c'] w fun e w' => ∃ x : Int, e = .returned (.int .i64 x) ∧ x ∈ L ∧ Src w' g A n c ∧ w.grownBy w' (some g) := by
  have HI := Lib.hid hI
  have HL := Lib.hid hL
  have HE := Lib.hid hne
  clear hI hL hne
  go_enter Try.func56, Try.ntmps56
  go_wp2_with fail
  refine (l01Next_calls g A n c (m : Int) _ hn h).mono ?_
  rintro e w1 ⟨x, rfl, hx, hS, hG⟩
  obtain ⟨j, rfl⟩ := Int.eq_ofNat_of_zero_le hx.1
  have hj : j < m := by omega
  obtain ⟨ad, rfl, hlt, hc⟩ := (HI.out.grown hG HE.out) j (by rw [HL.out]; exact hj)
  have hi0 : (0 : Int) ≤ (j : Int) := by omega
  have hi1 : (j : Int) < (m : Int) := by omega
  obtain ⟨v, hv, hmem⟩ : ∃ v, v = L.getD j 0 ∧ v ∈ L := ⟨_, rfl, by rw [List.getD_eq_getElem?_getD, List.getElem?_eq_getElem (by rw [HL.out]; exact hj)]; exact List.getElem_mem _⟩
  rw [← hv] at hc
  have HM := Lib.hid hmem
  clear hv hmem
  go_wp2
  go_ret
  exact ⟨v, rfl, HM.out, hS, hG⟩

theorem ints_new (w : World) (t : Nat) (L : List Int) : Ints (w.alloc (.cells (L.map (Value.int .i64)).toArray t)) (some ⟨w.heap.size, 0, none⟩) L := by
  intro k hk
  refine ⟨_, rfl, by simp, ?_⟩
  have e : (⟨w.heap.size, 0, none⟩ : Addr).add k = ⟨w.heap.size, k, none⟩ := by
    unfold Addr.add
    split
    · next h0 => rw [h0]
    · simp
  rw [e, (Box.new w t _).cell k]
  simp [hk]
theorem Src.alloc {w : World} {g : Nat} {A : Option Addr} {n c : Nat} (h : Src w g A n c) (o : Obj) : Src (w.alloc o) g A n c := h.below ((Below.refl _ _).alloc (Nat.le_refl _) _)

/-- A number near the range to m, or one of four outside of it. -/
def NearIs (m x : Int) : Prop := (0 ≤ x ∧ x ≤ m) ∨ x = -1 ∨ x = m + 1 ∨ x = 1099511627776 ∨ x = -4611686018427387904
theorem near_pick {m x : Int} (h : x ∈ [-1, m + 1, 1099511627776, -4611686018427387904]) : NearIs m x := by
  simp only [List.mem_cons, List.not_mem_nil, or_false] at h
  exact .inr h

theorem l01Near_calls (g : Nat) (A : Option Addr) (n c : Nat) (m : Int) (w : World) (hn : n ≤ 4096) (h0 : 0 ≤ m) (hm : m ≤ 4294967295) (h : Src w g A n c) :
    Calls Try.prog 57 #[.pointer (some ⟨g, 0, none⟩), .int .i64 m] w fun e w' => ∃ x : Int, e = .returned (.int .i64 x) ∧ NearIs m x ∧ Src w' g A n c ∧ w.grownBy w' (some g) := by
  have E := Lib.hid (wrap_small (m + 1) (by omega) (by omega))
  go_enter Try.func57, Try.ntmps57
  go_wp2_with fail
  refine (l01Next_calls g A n c 14 _ hn h).mono ?_
  rintro e w1 ⟨x, rfl, hx, hS, hG⟩
  by_cases hx0 : x = 0
  · subst hx0
    clear hx
    have hlt := hS.lt
    go_wp2_with fail
    try simp only [E.out]
    refine (l01Pick_calls g A n c _ 4 _ [-1, m + 1, 1099511627776, -4611686018427387904] _ hn (by omega) (by omega) rfl (ints_new w1 2 _) (fun ad e => by injection e with e; subst e; simp only; omega) (hS.alloc _)).mono ?_
    rintro e w2 ⟨x, rfl, hx, hS2, hG2⟩
    have HX := Lib.hid (near_pick hx)
    clear hx
    go_wp2
    go_ret
    exact ⟨_, rfl, HX.out, hS2, (hG.trans (World.grownBy_alloc _ _ _)).trans hG2⟩
  · clear hx
    go_wp2_with fail
    try simp only [E.out]
    refine (l01Next_calls g A n c (m + 1) _ hn hS).mono ?_
    rintro e w2 ⟨y, rfl, hy, hS2, hG2⟩
    go_wp2
    go_ret
    exact ⟨_, rfl, .inl (by omega), hS2, hG.trans hG2⟩

/-- What a call that draws leaves: all below the source's block as it was. -/
theorem grown_below {w w' : World} {g B : Nat} (h : w.grownBy w' (some g)) (hB : B ≤ g) (hw : B ≤ w.heap.size) : Below B w w' :=
  ⟨h.os, h.tape, h.output, h.size, fun k hk => h.block k (Nat.lt_of_lt_of_le hk hw) (fun e => by injection e with e; omega)⟩
def wf64 (x : Int) : Prop := -9223372036854775808 ≤ x ∧ x ≤ 9223372036854775807
theorem near_wf {m x : Int} (h : NearIs m x) (hm : 0 ≤ m ∧ m ≤ 4294967295) : wf64 x := by
  unfold NearIs at h
  unfold wf64
  omega
theorem wf_small {x : Int} {P : Prop} (h : 0 ≤ x ∧ x ≤ 16777470 ∧ P) : wf64 x := by
  unfold wf64
  omega

end Go.Proofs.Ytfdjlgpdbgmdkaa
