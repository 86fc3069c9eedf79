/- Contracts: the numbers that a law draws, with what becomes of the source. -/
import Derived.Test.YtfdjlgpdbgmdkaaDraw
import Derived.Test.YtfdjlgpdbgmdkaaLcg
namespace Go.Proofs.Ytfdjlgpdbgmdkaa
open Go.RowKit
set_option linter.unusedVariables false

/-- The source of drawn numbers with its place and its number. -/
def SrcAt (w : World) (g : Nat) (A : Option Addr) (n c k h : Nat) : Prop :=
  k ≤ n ∧ h < 18446744073709551616 ∧ Box w g 91 #[.slice A n c, .int .i64 k, .int .u64 h] ∧ By w A n ∧ ∀ ad, A = some ad → 0 < n → ad.block < g
theorem SrcAt.src {w : World} {g : Nat} {A : Option Addr} {n c k h : Nat} (hs : SrcAt w g A n c k h) : Src w g A n c := ⟨k, h, hs⟩
theorem SrcAt.below {w w' : World} {g : Nat} {A : Option Addr} {n c k h : Nat} (hs : SrcAt w g A n c k h) (hb : Below w.heap.size w w') : SrcAt w' g A n c k h := by
  obtain ⟨hk, hx, hB, hA, hl⟩ := hs
  exact ⟨hk, hx, hB.below hb hB.lt, hA.below hb, hl⟩
theorem nx_wrap (x : Nat) : IntKind.u64.wrap (IntKind.u64.wrap ((x : Int) * 6364136223846793005) + 1442695040888963407) = ((nx x : Nat) : Int) := by
  rw [IntKind.wrap_u64, IntKind.wrap_u64, Int.emod_add_emod]
  unfold nx
  rw [Int.natCast_emod, Int.natCast_add, Int.natCast_mul]
  rfl
theorem nx_lt (x : Nat) : nx x < 18446744073709551616 := Nat.mod_lt _ (by decide)
theorem xo_lt (x : Nat) : xo x ≤ 16777215 := Nat.le_of_lt_succ (Nat.mod_lt _ (by decide))
theorem mask_xo (H : Nat) (hH : H < 18446744073709551616) : bits .and .u64 ((H : Int) / 8589934592) 16777215 = ((xo H : Nat) : Int) := by
  rw [show (H : Int) / 8589934592 = ((H / 8589934592 : Nat) : Int) by omega, show (16777215 : Int) = ((16777215 : Nat) : Int) from rfl, bits_and_u64_nat _ _ (by omega) (by omega)]
  have h := Nat.and_two_pow_sub_one_eq_mod (H / 8589934592) 24
  unfold xo
  rw [show (16777216 : Nat) = 2 ^ 24 from rfl, ← h]

/-- What a source hands out, and what becomes of it. -/
def DrewAt (g : Nat) (A : Option Addr) (n c k h : Nat) (m : Int) (w : World) (e : Ending) (w' : World) : Prop :=
  ∃ (x : Int) (k' : Nat), e = .returned (.int .i64 x) ∧ (0 ≤ x ∧ x < m ∧ x ≤ 16777470) ∧ SrcAt w' g A n c k' (nx h) ∧ (k < n → k' = k + 1) ∧ (k = n → k' = n ∧ x = ((xo (nx h) : Nat) : Int) % m) ∧ w.grownBy w' (some g)

set_option maxHeartbeats 1000000 in
theorem l01Next_at (g : Nat) (A : Option Addr) (n c k x : Nat) (m : Int) (w : World) (hn : n ≤ 4096) (hm : 1 ≤ m) (h : SrcAt w g A n c k x) :
    Calls Try.prog 55 #[.pointer (some ⟨g, 0, none⟩), .int .i64 m] w (DrewAt g A n c k x m w) := by
  obtain ⟨hk, hx, hB, hA, hl⟩ := h
  obtain ⟨c0, c1, c2⟩ := hB.three
  have z0 := hB.frozen 0
  have z1 := hB.frozen 1
  have z2 := hB.frozen 2
  have hm1 : ¬ m < 1 := by omega
  have eH := nx_wrap x
  have hH := nx_lt x
  have eY := mask_xo (nx x) hH
  obtain ⟨H, hHx⟩ : ∃ H, H = nx x := ⟨_, rfl⟩
  obtain ⟨y, hYx⟩ : ∃ y, y = xo (nx x) := ⟨_, rfl⟩
  have hy : y ≤ 16777215 := by rw [hYx]; exact xo_lt _
  rw [← hHx] at eH hH
  rw [← hYx, ← hHx] at eY
  have e64 : wrap64 (y : Int) = y := wrap_small _ (by clear eY eH hH hx; omega) (by clear eY eH hH hx; omega)
  have EH := Lib.hid eH
  have EY := Lib.hid eY
  have E64 := Lib.hid e64
  have HH := Lib.hid hH
  have HXx := Lib.hid hHx
  have HYx := Lib.hid hYx
  clear eH eY e64 hH hx hHx hYx
  go_enter Try.func55, Try.ntmps55
  go_wp2
  simp only [EH.out, EY.out, E64.out]
  have hB1 : Box (w.setCell ⟨g, 2, none⟩ (.int .u64 (H : Int))) g 91 #[.slice A n c, .int .i64 k, .int .u64 H] := hB.set 2 _
  have hG1 := grown_set w g 2 (.int .u64 (H : Int))
  have hA1 := hA.grown hG1 hl
  clear c0 c1 c2 z0 z1 z2 hB hA EH EY E64
  generalize w.setCell ⟨g, 2, none⟩ (.int .u64 (H : Int)) = w1 at *
  obtain ⟨c0, c1, c2⟩ := hB1.three
  have z1 := hB1.frozen 1
  by_cases hkn : k < n
  · obtain ⟨ad, rfl, hlt, b, hb, hc⟩ := hA1 k hkn
    have hi0 : (0 : Int) ≤ (k : Int) := by omega
    have hi1 : (k : Int) < (n : Int) := by omega
    have E2 := Lib.hid (wrap_small ((y : Int) + b) (by omega) (by omega))
    have E1 := Lib.hid (wrap_small (b : Int) (by omega) (by omega))
    have E3 := Lib.hid (wrap_small ((k : Int) + 1) (by omega) (by omega))
    go_region
    go_wp2
    go_region
    go_wp2
    go_ret
    obtain ⟨t0, t1, t2⟩ := mod_in ((y : Int) + b) m (by omega) (by omega)
    have hG2 := grown_set w1 g 1 (.int .i64 ((k : Int) + 1))
    refine ⟨_, k + 1, rfl, ⟨t0, t2, by omega⟩, ?_, fun _ => rfl, fun h => by omega, grown_drew (grown_drew (hG1.trans hG2))⟩
    rw [← HXx.out]
    exact ⟨hkn, HH.out, hB1.set 1 (.int .i64 ((k : Int) + 1)), hA1.grown (grown_drew (grown_drew hG2)) hl, hl⟩
  · have hi1 : ¬ (k : Int) < (n : Int) := by omega
    go_region
    go_wp2
    go_ret
    obtain ⟨t0, t1, t2⟩ := mod_in (y : Int) m (by omega) (by omega)
    refine ⟨_, k, rfl, ⟨t0, t2, by omega⟩, ?_, fun h => absurd h hkn, fun h => ⟨h, by rw [← HYx.out]⟩, grown_drew hG1⟩
    rw [← HXx.out]
    exact ⟨hk, HH.out, hB1, hA1, hl⟩

/-- More rounds than the source can go on. -/
def Top (T : Nat) : Prop := T ≤ 72057594037927936 ∧ ∀ h, ∃ k, k < T ∧ Stop k h
theorem top_is : ∃ T, Top T := ⟨2 ^ 56, by decide +kernel, stop_any⟩
/-- How much is left of the source: at most so many rounds go on. -/
def Left (T n k h m : Nat) : Prop := (k < n ∧ m = T + (n - k)) ∨ (k = n ∧ m < T ∧ Stop m h)
theorem left_any {T n k h : Nat} (hT : Top T) (hk : k ≤ n) : ∃ m, m ≤ T + n ∧ Left T n k h m := by
  by_cases h0 : k < n
  · exact ⟨T + (n - k), by omega, .inl ⟨h0, rfl⟩⟩
  · obtain ⟨m, hm, hs⟩ := hT.2 h
    exact ⟨m, by omega, .inr ⟨by omega, hm, hs⟩⟩
/-- A round has gone on: one number that decides, then one more or three. -/
theorem left_next {T n k h m k1 k2 : Nat} {x : Int} (hT : Top T) (hl : Left T n k h m) (a1 : k < n → k1 = k + 1) (a2 : k = n → k1 = n ∧ x = ((xo (nx h) : Nat) : Int) % 3) (hx : x = 0) (hk1 : k1 ≤ k2) (hk2 : k2 ≤ n) {h2 : Nat} (hh : h2 = nx (nx h) ∨ h2 = nx (nx (nx (nx h)))) :
    ∃ j, j < m ∧ Left T n k2 h2 j := by
  rcases hl with ⟨h0, rfl⟩ | ⟨rfl, hm, hs⟩
  · have e1 := a1 h0
    by_cases h3 : k2 < n
    · exact ⟨T + (n - k2), by omega, .inl ⟨h3, rfl⟩⟩
    · obtain ⟨j, hj, hs⟩ := hT.2 h2
      exact ⟨j, by omega, .inr ⟨by omega, hj, hs⟩⟩
  · obtain ⟨e1, e2⟩ := a2 rfl
    obtain ⟨j, hj, s1, s2⟩ := stop_next hs (by rw [hx] at e2; generalize xo (nx h) = q at *; omega)
    have hkk : k2 = k := by omega
    refine ⟨j, hj, .inr ⟨hkk, Nat.lt_trans hj hm, ?_⟩⟩
    rcases hh with e | e
    · rw [e]; exact s1
    · rw [e]; exact s2

end Go.Proofs.Ytfdjlgpdbgmdkaa
