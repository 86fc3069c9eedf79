/- Contracts: the least number by rules, of the specification. -/
import Derived.Test.YtfdjlgpdbgmdkacRuTabS
namespace Go.Proofs.Ytfdjlgpdbgmdkac
open Go.RowKit
set_option linter.unusedVariables false

set_option maxRecDepth 100000 in
set_option maxHeartbeats 4000000 in
theorem specNumberByRules_calls (r : Nat → Int) (n i j : Int) (w : World) :
    Calls Try.prog 16 #[.agg (z9 r), .int .i64 n, .int .i64 i, .int .i64 j] w fun e w' => e = .returned (.tuple #[.int .i64 (nuV r n i j), .int .i64 (twE r n i j)]) ∧ Below w.heap.size w w' := by
  have X := Box.new w 26 (z9 r)
  obtain ⟨x0, x1, x2, x3, x4, x5, x6, x7, x8⟩ := X.nine
  have X0 := Lib.hid (X.alloc (.cells #[.int .i64 i, .int .i64 j] 2))
  have G0 : Hid (Box ((w.alloc (.cells (z9 r) 26)).alloc (.cells #[.int .i64 i, .int .i64 j] 2)) (w.heap.size + 1) 2 #[.int .i64 i, .int .i64 j]) := by
    have := Box.new (w.alloc (.cells (z9 r) 26)) 2 #[.int .i64 i, .int .i64 j]
    rw [World.size_alloc] at this
    exact this
  have HB0 : Hid (Below w.heap.size w ((w.alloc (.cells (z9 r) 26)).alloc (.cells #[.int .i64 i, .int .i64 j] 2))) := ((Below.refl _ _).alloc (Nat.le_refl _) _).alloc (by simp) _
  clear X
  obtain ⟨E, hE⟩ : ∃ E, twE r n i j = E := ⟨_, rfl⟩
  have HE := Lib.hid hE
  by_cases h0 : E = 0
  · subst h0
    obtain ⟨hr, ⟨hn0, hn8⟩, ⟨hpi, hpj, hne⟩, hs⟩ := twE_zero hE
    have hi : 0 ≤ i ∧ i < 3 := by unfold pegB at hpi; simpa using hpi
    have hj : 0 ≤ j ∧ j < 3 := by unfold pegB at hpj; simpa using hpj
    obtain ⟨N, rfl⟩ : ∃ N : Nat, n = N := ⟨n.toNat, by omega⟩
    have hN8 : N ≤ 8 := by omega
    have HR := Lib.hid hr
    have HS := Lib.hid hs
    have HV : Hid (tbl (alR r) N (ixP i j) = nuV r N i j) := by unfold Hid nuV; rw [if_pos hE, Int.toNat_natCast]
    clear hr hs hpi hpj hne hn0 hn8 hE
    · go_enter Try.func16, Try.ntmps16
      go_wp2_with fail
      refine (l07Given_calls r (N : Int) i j (w.heap.size + 1) _ G0.out).mono ?_
      rintro e w1 ⟨rfl, hb⟩
      have X1 := Lib.hid (X0.out.below hb X0.out.lt)
      have HB1 := Lib.hid (HB0.out.trans (hb.mono HB0.out.size))
      clear hb HB0 G0 X0 x0 x1 x2 x3 x4 x5 x6 x7 x8
      rw [HE.out]
      obtain ⟨x0, x1, x2, x3, x4, x5, x6, x7, x8⟩ := X1.out.nine
      go_wp2_with fail
      refine (l07Tables_calls r N hN8 (strong_way HR.out HS.out) (tbl_bound HR.out HS.out) _).mono ?_
      rintro e w2 ⟨A5, c5, vals, rfl, hO, hTs, hb⟩
      have HB2 := Lib.hid (HB1.out.trans (hb.mono HB1.out.size))
      obtain ⟨v, hv, htb⟩ := hTs N (by omega)
      obtain ⟨g, c8, rfl, g', hg', _, htab⟩ := htb.tabI
      injection hg' with hg'
      injection hg' with hg'
      subst hg'
      obtain ⟨q, _, y0, hcc⟩ := htab i.toNat (by omega)
      have c0 := hcc j.toNat (by omega)
      obtain ⟨g5, rfl, _, _, hcell⟩ := hO.cell N (by omega)
      rw [hv] at hcell
      rw [show tbl (alR r) N (i.toNat * 3 + j.toNat) = tbl (alR r) N (ixP i j) from rfl] at c0
      clear hb X1 HB1 x0 x1 x2 x3 x4 x5 x6 x7 x8
      go_wp2
      go_returns
      exact ⟨ret_intsT HV.out HE.out.symm, HB2.out⟩
  · have HV : Hid (0 = nuV r n i j) := by unfold Hid nuV; rw [if_neg (by rw [hE]; exact h0)]
    clear hE
    · go_enter Try.func16, Try.ntmps16
      go_wp2_with fail
      refine (l07Given_calls r n i j (w.heap.size + 1) _ G0.out).mono ?_
      rintro e w1 ⟨rfl, hb⟩
      have X1 := Lib.hid (X0.out.below hb X0.out.lt)
      have HB1 := Lib.hid (HB0.out.trans (hb.mono HB0.out.size))
      clear hb HB0 G0 X0 x0 x1 x2 x3 x4 x5 x6 x7 x8
      rw [HE.out]
      go_wp2
      go_returns
      exact ⟨ret_intsT HV.out HE.out.symm, HB1.out⟩

end Go.Proofs.Ytfdjlgpdbgmdkac
