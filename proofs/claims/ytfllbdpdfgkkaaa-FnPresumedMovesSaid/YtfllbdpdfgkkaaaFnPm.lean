/- Contracts: the walk of the great law FnPresumedMoves, of a code of at most 4096 bytes. -/
import Derived.Test.YtfllbdpdfgkkaaaGreat
import Derived.Test.YtfllbdpdfgkkaaaMvS
import Derived.Test.YtfllbdpdfgkkaaaDraw
import Derived.Test.YtfllbdpdfgkkaaaPmAll
namespace Go.Proofs.Ytfllbdpdfgkkaaa
open Go.RowKit
set_option linter.unusedVariables false

theorem move_same (a b c : Int) (w : World) : (Op.equalIn 10000 53 (.agg #[.int .i64 a, .int .i64 b, .int .i64 c]) (.agg #[.int .i64 a, .int .i64 b, .int .i64 c])).run Try.prog w = .ok true w := by
  rw [show (10000 : Nat) = 9999 + 1 from rfl, run_equalIn_struct w 9999 53 _ _ (by kernel_rfl) (by kernel_rfl)]
  simp only [Program.fieldsOf, Try.underlying53]
  have u := Try.underlying2
  go_simp

set_option maxHeartbeats 1000000 in
theorem moves9_same (A A' : Option Addr) (n c c' : Nat) (M : List Mv) (w : World) (hL : M.length = n) (hn : n ≤ 1048576) (hI : Mvs w A M) (hJ : Mvs w A' M) :
    Calls Try.prog 8 #[.slice A n c, .slice A' n c'] w fun e w' => e = .returned (.bool true) ∧ ∃ m, w' = w.drewN m := by
  have HL := Lib.hid hL
  have HI := Lib.hid hI
  have HJ := Lib.hid hJ
  clear hL hI hJ
  go_enter Try.func8, Try.ntmps8
  go_wp2
  go_loopw [5] (fun i wr => ∃ k : Nat, k ≤ n ∧ i = .int .i64 k ∧ ∃ m, wr = w.drewN m) (fun i _ => n - (intOf i).toNat)
  case atStart => exact ⟨0, Nat.zero_le _, rfl, 0, rfl⟩
  case round =>
    obtain ⟨k, hk, rfl, m, rfl⟩ := hrel
    by_cases hlt : k < n
    · obtain ⟨g, rfl, hg, m0, m1, m2⟩ := HI.out k (by rw [HL.out]; exact hlt)
      obtain ⟨g', rfl, hg', q0, q1, q2⟩ := HJ.out k (by rw [HL.out]; exact hlt)
      generalize M[k]?.getD (0, 0, 0) = x at *
      obtain ⟨x1, x2, x3⟩ := x
      simp only at m0 m1 m2 q0 q1 q2
      have hi0 : (0 : Int) ≤ (k : Int) := by omega
      have hi1 : (k : Int) < (n : Int) := by omega
      have heq := move_same x1 x2 x3
      go_wp2_with fail
      go_quiet (fail)
      go_wp2
      go_roundw
      case rel => exact ⟨k + 1, by omega, by go_num, by first | exact ⟨_, rfl⟩ | exact ⟨_, World.drewN_drewN _ _ _⟩⟩
      case measure => simp [intOf]; omega
    · obtain rfl : k = n := by omega
      go_wp2
      go_ret
      exact ⟨rfl, _, rfl⟩

theorem state9_same (A A' : Option Addr) (n c c' : Nat) (p : Int) (L : List Int) (w : World) (hL : L.length = n) (hn : n ≤ 1048576) (hI : Ints w A L) (hJ : Ints w A' L) :
    Calls Try.prog 12 #[.agg #[.int .i64 p, .slice A n c], .agg #[.int .i64 p, .slice A' n c']] w fun e w' => e = .returned (.bool true) ∧ Below w.heap.size w w' := by
  have HB0 := Lib.hid (((Below.refl w.heap.size w).alloc (Nat.le_refl _) (.cells #[.int .i64 p, .slice A n c] 33)).alloc (by simp) (.cells #[.int .i64 p, .slice A' n c'] 33))
  have HI := Lib.hid (hI.below HB0.out)
  have HJ := Lib.hid (hJ.below HB0.out)
  go_enter Try.func12, Try.ntmps12
  go_wp2_with fail
  refine (likeInts_calls A A' n c n c' L L _ hL hL hn hn HI.out HJ.out).mono ?_
  rintro e w1 ⟨rfl, d, rfl⟩
  rw [show decide (L = L) = true by simp]
  go_wp2
  go_ret
  exact ⟨rfl, belowDraws HB0.out _⟩

theorem DrawPresumedMoves_calls (A : Option Addr) (n c : Nat) (w : World)
    (hn : n ≤ 4096) (hA : By w A n) (hl : ∀ ad, A = some ad → 0 < n → ad.block < w.heap.size) :
    Calls Try.prog 5 #[.slice A n c] w fun e w' => ∃ p m : Int, e = .returned (.tuple #[.int .i64 p, .int .i64 m]) ∧ Below w.heap.size w w' := by
  have HN := Lib.hid hn
  have HA := Lib.hid hA
  have HL := Lib.hid hl
  clear hn hA hl
  go_enter Try.func5, Try.ntmps5
  go_wp2_with fail
  refine (l01From_calls A n c _ HN.out HA.out HL.out).mono ?_
  rintro e w1 ⟨g, rfl, hgB, hS, hb⟩
  have HS1 := Lib.hid hS
  have HB1 := Lib.hid hb
  have HG := Lib.hid hgB
  clear hS hb hgB
  go_wp2_with fail
  refine (l01Next_calls g A n c 7 _ HN.out HS1.out).mono ?_
  rintro e w2 ⟨v1, rfl, hx, hS, hG⟩
  have Xv1 := Lib.hid hx
  clear hx
  have HS2 := Lib.hid hS
  have HB2 := Lib.hid ((HB1.out).trans (grown_below hG HG.out (HB1.out).size))
  clear hS hG HS1 HB1
  go_wp2_with fail
  have hlt := HS2.out.lt
  refine (l01Pick_calls g A n c _ 7 _ [3, 3, 4, 4, 5, 5, v1] _ HN.out (by omega) (by omega) rfl (ints_new w2 2 _) (fun ad e => by injection e with e; subst e; simp only; omega) (HS2.out.alloc _)).mono ?_
  rintro e w3 ⟨v2, rfl, hx, hS, hG⟩
  have Xv2 := Lib.hid hx
  clear hx hlt
  have HS3 := Lib.hid hS
  have HB3 := Lib.hid ((HB2.out.alloc HB2.out.size _).trans (grown_below hG HG.out (HB2.out.alloc HB2.out.size _).size))
  clear hS hG HS2 HB2
  go_wp2_with fail
  refine (l01Next_calls g A n c 10 _ HN.out HS3.out).mono ?_
  rintro e w4 ⟨v3, rfl, hx, hS, hG⟩
  have Xv3 := Lib.hid hx
  clear hx
  have HS4 := Lib.hid hS
  have HB4 := Lib.hid ((HB3.out).trans (grown_below hG HG.out (HB3.out).size))
  clear hS hG HS3 HB3
  go_wp2
  go_ret2
  exact ⟨_, _, rfl, HB4.out⟩

set_option maxRecDepth 100000 in
set_option maxHeartbeats 8000000 in
theorem fnPresumedMoves_core (A : Option Addr) (n c : Nat) (w : World) (hn : n ≤ 4096) (hA : By w A n) (hl : ∀ ad, A = some ad → 0 < n → ad.block < w.heap.size) :
    Calls Try.prog 3 #[.slice A n c] w fun e w' => e = .returned (.bool true) ∧ Below w.heap.size w w' := by
  have HN := Lib.hid hn
  have HA := Lib.hid hA
  have HL := Lib.hid hl
  clear hn hA hl
  go_enter Try.func3, Try.ntmps3
  go_wp2_with fail
  refine (big_no A n c _ HN.out).mono ?_
  rintro e w0 ⟨rfl, rfl⟩
  go_wp2_with fail
  refine (DrawPresumedMoves_calls A n c _ HN.out HA.out HL.out).mono ?_
  rintro e w1 ⟨p, m, rfl, hb⟩
  have HB1 := Lib.hid hb
  clear hb
  obtain ⟨M, E, d1, d2, lM, hc⟩ := pm_all p m
  obtain ⟨k, hMk⟩ : ∃ k, M.length = k := ⟨_, rfl⟩
  rw [hMk] at d1 d2 lM hc
  have C1 := Lib.hid d1
  have C2 := Lib.hid d2
  have HC := Lib.hid hc
  have HMk := Lib.hid hMk
  clear d1 d2 hc hMk
  go_wp2_with fail
  refine (C1.out _).mono ?_
  rintro e w2 ⟨A2, c2, rfl, hO, hb⟩
  have HB2 := Lib.hid (HB1.out.trans (hb.mono HB1.out.size))
  have I2 := Lib.hid hO.mvs
  clear hO hb HB1
  go_wp2_with fail
  refine (C2.out _).mono ?_
  rintro e w3 ⟨A3, c3, rfl, hO, hb⟩
  have HB3 := Lib.hid (HB2.out.trans (hb.mono HB2.out.size))
  have I3 := Lib.hid (I2.out.below hb)
  have J3 := Lib.hid hO.mvs
  clear hO hb HB2 I2
  go_wp2_with fail
  refine (moves9_same A2 A3 k c2 c3 M _ HMk.out lM I3.out J3.out).mono ?_
  rintro e w4 ⟨rfl, d, rfl⟩
  have HB4 := Lib.hid (belowDraws HB3.out d)
  have I4 := Lib.hid (I3.out.below (belowDraws (Below.refl _ _) d))
  clear HB3 I3 J3 C1 C2
  generalize w3.drewN d = w4 at *
  rcases HC.out with ⟨rfl, hM0⟩ | ⟨rfl, hp, d3, P0, P1, E0, L0, L1, d4, d5, hl, hrun⟩
  · have hk0 : k = 0 := by rw [← HMk.out, hM0]; rfl
    subst hk0
    clear hM0 HC
    go_wp2
    go_ret
    exact ⟨rfl, HB4.out⟩
  · clear HC
    have C3 := Lib.hid d3
    have C4 := Lib.hid d4
    have C5 := Lib.hid d5
    have HR := Lib.hid hrun
    clear d3 d4 d5 hrun
    obtain ⟨n0, h0⟩ : ∃ k, L0.length = k := ⟨_, rfl⟩
    obtain ⟨n1, h1⟩ : ∃ k, L1.length = k := ⟨_, rfl⟩
    rw [h0] at C4 HR hl
    rw [h1] at C5 HR hl
    have H0 := Lib.hid h0
    have H1 := Lib.hid h1
    clear h0 h1
    obtain ⟨hl0, hl1⟩ := hl
    go_wp2_with fail
    refine (C3.out _).mono ?_
    rintro e w5 ⟨rfl, hb⟩
    have HB5 := Lib.hid (HB4.out.trans (hb.mono HB4.out.size))
    have I5 := Lib.hid (I4.out.below hb)
    clear hb HB4 I4
    go_wp2_with fail
    refine (C4.out _).mono ?_
    rintro e w6 ⟨A6, c6, rfl, hO, hb⟩
    have HB6 := Lib.hid ((HB5.out.trans (hb.mono HB5.out.size)).alloc (Nat.le_trans HB5.out.size hb.size) (.cells #[.int .i64 P0, .slice A6 n0 c6] 33))
    have I6 := Lib.hid ((I5.out.below hb).below ((Below.refl _ _).alloc (Nat.le_refl _) (.cells #[.int .i64 P0, .slice A6 n0 c6] 33)))
    have O6 := Lib.hid ((Own.ints hO).below ((Below.refl _ _).alloc (Nat.le_refl _) (.cells #[.int .i64 P0, .slice A6 n0 c6] 33)))
    have X6 := Lib.hid (Box.new w6 33 #[.int .i64 P0, .slice A6 n0 c6])
    clear hO hb HB5 I5
    go_wp2_with fail
    generalize hW : w6.alloc (.cells #[.int .i64 P0, .slice A6 n0 c6] 33) = W6 at *
    clear hW
    generalize w6.heap.size = b6 at *
    refine (C5.out _).mono ?_
    rintro e w7 ⟨A7, c7, rfl, hO, hb⟩
    have HB7 := Lib.hid ((HB6.out.trans (hb.mono HB6.out.size)).alloc (Nat.le_trans HB6.out.size hb.size) (.cells #[.int .i64 P1, .slice A7 n1 c7] 33))
    have I7 := Lib.hid ((I6.out.below hb).below ((Below.refl _ _).alloc (Nat.le_refl _) (.cells #[.int .i64 P1, .slice A7 n1 c7] 33)))
    have O7 := Lib.hid ((O6.out.below hb).below ((Below.refl _ _).alloc (Nat.le_refl _) (.cells #[.int .i64 P1, .slice A7 n1 c7] 33)))
    have X7 := Lib.hid ((X6.out.below hb X6.out.lt).alloc (.cells #[.int .i64 P1, .slice A7 n1 c7] 33))
    have Q7 := Lib.hid ((Own.ints hO).below ((Below.refl _ _).alloc (Nat.le_refl _) (.cells #[.int .i64 P1, .slice A7 n1 c7] 33)))
    have Y7 := Lib.hid (Box.new w7 33 #[.int .i64 P1, .slice A7 n1 c7])
    clear hO hb HB6 I6 O6 X6
    rcases HR.out with rfl | ⟨rfl, hrun⟩
    · go_wp2
      go_ret
      exact ⟨rfl, HB7.out⟩
    · have HR2 := Lib.hid hrun
      clear hrun HR
      obtain ⟨x0, x1, _, _⟩ := X7.out.two
      go_wp2_with fail
      generalize hW : w7.alloc (.cells #[.int .i64 P1, .slice A7 n1 c7] 33) = W7 at *
      clear hW
      generalize w7.heap.size = b7 at *
      refine (HR2.out A6 c6 A2 c2 _ O7.out I7.out).mono ?_
      rintro e w8 ⟨A8, c8, rfl, hO, hb⟩
      have HB8 := Lib.hid ((HB7.out.trans (hb.mono HB7.out.size)).alloc (Nat.le_trans HB7.out.size hb.size) (.cells #[.int .i64 P1, .slice A8 n1 c8] 33))
      have Q8 := Lib.hid ((Q7.out.below hb).below ((Below.refl _ _).alloc (Nat.le_refl _) (.cells #[.int .i64 P1, .slice A8 n1 c8] 33)))
      have Y8 := Lib.hid ((Y7.out.below hb Y7.out.lt).alloc (.cells #[.int .i64 P1, .slice A8 n1 c8] 33))
      have R8 := Lib.hid ((Own.ints hO).below ((Below.refl _ _).alloc (Nat.le_refl _) (.cells #[.int .i64 P1, .slice A8 n1 c8] 33)))
      clear hO hb x0 x1 HB7 I7 O7 X7 Q7 Y7
      obtain ⟨y0, y1, _, _⟩ := Y8.out.two
      go_wp2_with fail
      refine (state9_same A8 A7 n1 c8 c7 P1 L1 _ H1.out (by omega) R8.out Q8.out).mono ?_
      rintro e w9 ⟨rfl, hb⟩
      have HB9 := Lib.hid (HB8.out.trans (hb.mono HB8.out.size))
      clear hb
      go_wp2
      go_ret
      exact ⟨rfl, HB9.out⟩

end Go.Proofs.Ytfllbdpdfgkkaaa
