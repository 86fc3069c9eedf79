/- Contracts: a text that a law draws is damaged. -/
import Derived.Test.YtfdjlgpdbgmdkaaDrawAt
import Derived.Test.YtfdjlgpdbgmdkaaSq0
import Derived.Test.YtfdjlgpdbgmdkaaDrawSt
import Derived.IntWalk
namespace Go.Proofs.Ytfdjlgpdbgmdkaa
open Go.RowKit
open Go.RowKit (wrap64)
set_option linter.unusedVariables false

theorem SrcAt.alloc {w : World} {g : Nat} {A : Option Addr} {n c k h : Nat} (hs : SrcAt w g A n c k h) (o : Obj) : SrcAt (w.alloc o) g A n c k h := hs.below ((Below.refl _ _).alloc (Nat.le_refl _) _)
theorem SrcAt.lt {w : World} {g : Nat} {A : Option Addr} {n c k h : Nat} (hs : SrcAt w g A n c k h) : g < w.heap.size := hs.src.lt
theorem grown_drewN {w w' : World} {row : Option Nat} (h : w.grownBy w' row) (n : Nat) : w.grownBy (w'.drewN n) row := ⟨h.os, h.tape, h.output, h.size, h.block⟩
def signsC : Array Value := #[.string ⟨#[48]⟩, .string ⟨#[49]⟩, .string ⟨#[50]⟩, .string ⟨#[57]⟩, .string ⟨#[58]⟩, .string ⟨#[62]⟩, .string ⟨#[59]⟩, .string ⟨#[32]⟩, .string ⟨#[120]⟩, .string ⟨#[10]⟩]
theorem signs_at {j : Nat} (h : j < 10) : ∃ s : ByteArray, s.size = 1 ∧ signsC[j]? = some (.string s) := by
  match j, h with
  | 0, _ => exact ⟨_, rfl, rfl⟩
  | 1, _ => exact ⟨_, rfl, rfl⟩
  | 2, _ => exact ⟨_, rfl, rfl⟩
  | 3, _ => exact ⟨_, rfl, rfl⟩
  | 4, _ => exact ⟨_, rfl, rfl⟩
  | 5, _ => exact ⟨_, rfl, rfl⟩
  | 6, _ => exact ⟨_, rfl, rfl⟩
  | 7, _ => exact ⟨_, rfl, rfl⟩
  | 8, _ => exact ⟨_, rfl, rfl⟩
  | 9, _ => exact ⟨_, rfl, rfl⟩
/-- A damaged text. -/
def RetDm (w : World) (g : Nat) (A : Option Addr) (n c k h : Nat) (t : ByteArray) (e : Ending) (w' : World) : Prop :=
  ∃ (u : ByteArray) (k' h' : Nat), e = .returned (.string u) ∧ u.size ≤ t.size + 1 ∧ k ≤ k' ∧ k' ≤ n ∧ (h' = nx h ∨ h' = nx (nx (nx h))) ∧ SrcAt w' g A n c k' h' ∧ w.grownBy w' (some g)
theorem le_of_drew {n k k' : Nat} (h1 : k < n → k' = k + 1) (h2 : k = n → k' = n ∧ True) (h : k ≤ n) : k ≤ k' := by
  by_cases h3 : k < n
  · rw [h1 h3]; omega
  · have := (h2 (by omega)).1; omega
theorem size_cut3 (t c : ByteArray) (k : Nat) (hc : c.size = 1) (hk : k < t.size) : (t.extract 0 k ++ c ++ t.extract (k + 1) t.size).size ≤ t.size + 1 := by
  simp [ByteArray.size_append, ByteArray.size_extract]; omega
theorem size_cut2 (t : ByteArray) (k : Nat) (hk : k < t.size) : (t.extract 0 k ++ t.extract (k + 1) t.size).size ≤ t.size + 1 := by
  simp [ByteArray.size_append, ByteArray.size_extract]; omega
theorem size_cut4 (t c : ByteArray) (k : Nat) (hc : c.size = 1) (hk : k < t.size) : (t.extract 0 k ++ c ++ t.extract k t.size).size ≤ t.size + 1 := by
  simp [ByteArray.size_append, ByteArray.size_extract]; omega

set_option maxRecDepth 100000 in
set_option maxHeartbeats 2000000 in
theorem l01Damage_at (g : Nat) (A : Option Addr) (n c k h : Nat) (t : ByteArray) (w : World) (hn : n ≤ 4096) (ht : t.size ≤ 1000000000000000000) (hs : SrcAt w g A n c k h) :
    Calls Try.prog 68 #[.pointer (some ⟨g, 0, none⟩), .string t] w (RetDm w g A n c k h t) := by
  have hkn := hs.1
  have hgw := hs.lt
  have HS0 := Lib.hid (hs.alloc (.cells signsC 9))
  have Y0 := Lib.hid (Box.new w 9 signsC)
  have HG0 := Lib.hid (grown_alloc (World.grownBy.refl w (some g)) (.cells signsC 9))
  clear hs
  go_enter Try.func68, Try.ntmps68
  go_wp2_with fail
  change Calls _ _ _ (w.alloc (.cells signsC 9)) _
  refine (l01Next_at g A n c k h 10 _ hn (by omega) HS0.out).mono ?_
  rintro e w1 ⟨x, k1, rfl, hx, hS, ha, hb, hG⟩
  have HS1 := Lib.hid hS
  have Y1 := Lib.hid (Y0.out.grown hG (by intro e; injection e with e; omega))
  have HG1 := Lib.hid (HG0.out.trans hG)
  have hk1 : k ≤ k1 := le_of_drew ha (fun e => ⟨(hb e).1, trivial⟩) hkn
  have hk1n := hS.1
  clear hS hG ha hb HS0 Y0 HG0
  obtain ⟨j, rfl⟩ := Int.eq_ofNat_of_zero_le hx.1
  have hj : j < 10 := by omega
  obtain ⟨cs, hcs, hce⟩ := signs_at hj
  have hcell : w1.cell? ⟨w.heap.size, j, none⟩ = some (.string cs) := (Y1.out.cell j).trans hce
  have hj0 : (0 : Int) ≤ (j : Int) := by omega
  have hj1 : (j : Int) < 10 := by omega
  have HCS := Lib.hid hcs
  clear hce hcs
  by_cases h0 : t.size = 0
  · have e0 : ((t.size : Int) == 0) = true := by rw [beq_iff_eq]; omega
    have H0 := Lib.hid h0
    clear h0
    go_wp2
    go_ret
    exact ⟨cs, k1, _, rfl, by rw [HCS.out]; omega, hk1, hk1n, .inl rfl, HS1.out, HG1.out⟩
  · have e0 : ((t.size : Int) == 0) = false := by rw [beq_eq_false_iff_ne]; omega
    have ht1 : (1 : Int) ≤ (t.size : Int) := by omega
    go_wp2_with fail
    refine (l01Next_at g A n c k1 (nx h) t.size _ hn ht1 HS1.out).mono ?_
    rintro e w2 ⟨y, k2, rfl, hy, hS, ha, hb, hG⟩
    have HS2 := Lib.hid hS
    have HG2 := Lib.hid (HG1.out.trans hG)
    have hk2 : k1 ≤ k2 := le_of_drew ha (fun e => ⟨(hb e).1, trivial⟩) hk1n
    have hk2n := hS.1
    clear hS hG ha hb HS1 HG1 hcell
    obtain ⟨q, rfl⟩ := Int.eq_ofNat_of_zero_le hy.1
    have hq : q < t.size := by omega
    go_wp2_with fail
    refine (l01Next_at g A n c k2 (nx (nx h)) 3 _ hn (by omega) HS2.out).mono ?_
    rintro e w3 ⟨z, k3, rfl, hz, hS, ha, hb, hG⟩
    have HS3 := Lib.hid hS
    have HG3 := Lib.hid (HG2.out.trans hG)
    have hk3 : k2 ≤ k3 := le_of_drew ha (fun e => ⟨(hb e).1, trivial⟩) hk2n
    have hk3n := hS.1
    clear hS hG ha hb HS2 HG2
    have b1 : 0 ≤ (q : Int) ∧ (q : Int) ≤ (t.size : Int) := by omega
    have b2 : 0 ≤ (q : Int) + 1 ∧ (q : Int) + 1 ≤ (t.size : Int) := by omega
    have c3 := Lib.hid (size_cut3 t cs q HCS.out hq)
    have c2 := Lib.hid (size_cut2 t q hq)
    have c4 := Lib.hid (size_cut4 t cs q HCS.out hq)
    have wq : IntKind.i64.wrap ((q : Int) + 1) = (q : Int) + 1 := IntWalk.i64_in _ (by omega)
    by_cases z0 : z = 0
    · subst z0
      have p1 : ¬ 9223372036854775807 < min q t.size + cs.size := by have := HCS.out; omega
      have p1' : ¬ 9223372036854775807 < (t.extract 0 q).size + cs.size := by rw [ByteArray.size_extract]; have := HCS.out; omega
      have p2 : ¬ 9223372036854775807 < min q t.size + cs.size + (t.size - (q + 1)) := by have := HCS.out; omega
      have p2' : ¬ 9223372036854775807 < (t.extract 0 q).size + cs.size + (t.extract (q + 1) t.size).size := by rw [ByteArray.size_extract, ByteArray.size_extract]; have := HCS.out; omega
      go_wp2_with fail
      go_quiet (fail)
      go_wp2
      go_ret
      exact ⟨t.extract 0 q ++ cs ++ t.extract (q + 1) t.size, k3, _, rfl, c3.out, by omega, hk3n, .inr rfl, HS3.out, grown_drewN HG3.out _⟩
    · have z0' : (z == 0) = false := by simpa using z0
      clear z0
      by_cases z1 : z = 1
      · subst z1
        have p2 : ¬ 9223372036854775807 < min q t.size + (t.size - (q + 1)) := by omega
        have p2' : ¬ 9223372036854775807 < (t.extract 0 q).size + (t.extract (q + 1) t.size).size := by rw [ByteArray.size_extract, ByteArray.size_extract]; omega
        go_wp2_with fail
        go_quiet (fail)
        go_wp2
        go_ret
        exact ⟨t.extract 0 q ++ t.extract (q + 1) t.size, k3, _, rfl, c2.out, by omega, hk3n, .inr rfl, HS3.out, grown_drewN HG3.out _⟩
      · have z1' : (z == 1) = false := by simpa using z1
        clear z1
        have p1 : ¬ 9223372036854775807 < min q t.size + cs.size := by have := HCS.out; omega
        have p1' : ¬ 9223372036854775807 < (t.extract 0 q).size + cs.size := by rw [ByteArray.size_extract]; have := HCS.out; omega
        have p2 : ¬ 9223372036854775807 < min q t.size + cs.size + (t.size - q) := by have := HCS.out; omega
        have p2' : ¬ 9223372036854775807 < (t.extract 0 q).size + cs.size + (t.extract q t.size).size := by rw [ByteArray.size_extract, ByteArray.size_extract]; have := HCS.out; omega
        go_wp2_with fail
        go_quiet (fail)
        go_wp2
        go_ret
        exact ⟨t.extract 0 q ++ cs ++ t.extract q t.size, k3, _, rfl, c4.out, by omega, hk3n, .inr rfl, HS3.out, grown_drewN HG3.out _⟩

end Go.Proofs.Ytfdjlgpdbgmdkaa
