/- Contracts: LeastByRules, by the program and by the specification's model. -/
import Derived.Test.YtbcgoboeeigcgaaRuLsI
import Derived.Test.YtbcgoboeeigcgaaRuNumI
import Derived.Test.YtbcgoboeeigcgaaRuTower
namespace Go.Proofs.Ytbcgoboeeigcgaa
open Go.RowKit
set_option linter.unusedVariables false

/-- What LeastByRules answers. -/
def leV (r : Nat → Int) (n i j : Int) : List Mv := if twE r n i j = 0 then leL (alR r) n.toNat i.toNat j.toNat else []
theorem leV_len (r : Nat → Int) (n i j : Int) : (leV r n i j).length ≤ 1048576 := by
  unfold leV
  split
  · next h =>
    obtain ⟨_, hn, _, _⟩ := twE_zero h
    have := leL_big (alR r) (n := n.toNat) (by omega) i.toNat j.toNat
    omega
  · simp
theorem keep9 {B b : Nat} {W W' : World} {r : Nat → Int} (hb : Below B W W') (hB : b < B) (h : Box W b 27 (z9 r)) : Box W' b 27 (z9 r) := h.below hb hB

set_option maxRecDepth 100000 in
set_option maxHeartbeats 4000000 in
theorem specLeastByRules_ret (r : Nat → Int) (n i j : Int) (w : World) :
    Calls Try.prog 12 #[.agg (z9 r), .int .i64 n, .int .i64 i, .int .i64 j] w (RetMvs w (leV r n i j).length (leV r n i j) (twE r n i j)) := by
  have X := Box.new w 27 (z9 r)
  obtain ⟨x0, x1, x2, x3, x4, x5, x6, x7, x8⟩ := X.nine
  have X0 := Lib.hid (X.alloc (.cells #[.int .i64 i, .int .i64 j] 2))
  have G0 : Hid (Box ((w.alloc (.cells (z9 r) 27)).alloc (.cells #[.int .i64 i, .int .i64 j] 2)) (w.heap.size + 1) 2 #[.int .i64 i, .int .i64 j]) := by
    have := Box.new (w.alloc (.cells (z9 r) 27)) 2 #[.int .i64 i, .int .i64 j]
    rw [World.size_alloc] at this
    exact this
  have HB0 : Hid (Below w.heap.size w ((w.alloc (.cells (z9 r) 27)).alloc (.cells #[.int .i64 i, .int .i64 j] 2))) := ((Below.refl _ _).alloc (Nat.le_refl _) _).alloc (by simp) _
  clear X
  obtain ⟨E, hE⟩ : ∃ E, twE r n i j = E := ⟨_, rfl⟩
  have HE := Lib.hid hE
  by_cases h0 : E = 0
  · subst h0
    obtain ⟨hr, ⟨hn0, hn8⟩, ⟨hpi, hpj, hne⟩, hs⟩ := twE_zero hE
    have hi : 0 ≤ i ∧ i < 3 := by unfold pegB at hpi; simpa using hpi
    have hj : 0 ≤ j ∧ j < 3 := by unfold pegB at hpj; simpa using hpj
    obtain ⟨N, rfl⟩ : ∃ N : Nat, n = N := ⟨n.toNat, by omega⟩
    obtain ⟨a, rfl⟩ : ∃ a : Nat, i = a := ⟨i.toNat, by omega⟩
    obtain ⟨b, rfl⟩ : ∃ b : Nat, j = b := ⟨j.toNat, by omega⟩
    have hN8 : N ≤ 8 := by omega
    have ha3 : a < 3 := by omega
    have hb3 : b < 3 := by omega
    have hab : a ≠ b := by omega
    have HR := Lib.hid hr
    have HS := Lib.hid hs
    have HV : Hid (leV r N a b = leL (alR r) N a b) := by unfold Hid leV; rw [if_pos hE, Int.toNat_natCast, Int.toNat_natCast, Int.toNat_natCast]
    have hbig := leL_big (alR r) hN8 a b
    clear hr hs hpi hpj hne hn0 hn8 hE hi hj
    go_enter Try.func12, Try.ntmps12
    go_wp2_with fail
    refine (l07Given_calls r (N : Int) a b (w.heap.size + 1) _ G0.out).mono ?_
    rintro e w1 ⟨rfl, hb⟩
    have X1 := Lib.hid (X0.out.below hb X0.out.lt)
    have HB1 := Lib.hid (HB0.out.trans (hb.mono HB0.out.size))
    have hs1 := HB1.out.size
    clear hb HB0 G0 X0 x0 x1 x2 x3 x4 x5 x6 x7 x8
    rw [HE.out]
    have hx1 := X1.out.lt
    obtain ⟨x0, x1, x2, x3, x4, x5, x6, x7, x8⟩ := X1.out.nine
    go_wp2_with fail
    go_region_held3 (fun w' => w'.cell? ⟨w.heap.size, 0, none⟩ = some (.int .i64 (r 0)) ∧ w'.cell? ⟨w.heap.size, 1, none⟩ = some (.int .i64 (r 1)) ∧ w'.cell? ⟨w.heap.size, 2, none⟩ = some (.int .i64 (r 2)) ∧ w'.cell? ⟨w.heap.size, 3, none⟩ = some (.int .i64 (r 3)) ∧ w'.cell? ⟨w.heap.size, 4, none⟩ = some (.int .i64 (r 4)) ∧ w'.cell? ⟨w.heap.size, 5, none⟩ = some (.int .i64 (r 5)) ∧ w'.cell? ⟨w.heap.size, 6, none⟩ = some (.int .i64 (r 6)) ∧ w'.cell? ⟨w.heap.size, 7, none⟩ = some (.int .i64 (r 7)) ∧ w'.cell? ⟨w.heap.size, 8, none⟩ = some (.int .i64 (r 8)))
      (first | exact ⟨x0, x1, x2, x3, x4, x5, x6, x7, x8⟩ | exact C2.out | exact C3.out | go_keep)
      (first
      | (go_at_call 20; refine (l07Tables_calls r N hN8 (strong_way HR.out HS.out) (tbl_bound HR.out HS.out) _).mono ?_; rintro e w2 ⟨A5, c5, vals, rfl, hO, hTs, hb2⟩; have hb2' : Below w1.heap.size w1 w2 := (by first | exact undrewN (undrew hb2) | exact undrew hb2 | exact undrewN hb2 | exact hb2); have X2 := Lib.hid (X1.out.below hb2' hx1); have C2 := Lib.hid X2.out.nine; obtain ⟨g5, rfl, _, hg5, _⟩ := hO.cell 0 (by omega); have hcap := hO.cap; have TR := Lib.hid (tabsR_own hO hTs hg5))
      | (go_at_call 28; refine (l07Least_calls r g5 (N + 1) c5 (by omega) (strong_way HR.out HS.out) (tbl_bound HR.out HS.out) N hN8 (by omega) a b ha3 hb3 hab _ ?_).mono ?_; (exact TR.out); rintro e w3 ⟨g6, c6, rfl, hL, hb3'⟩; have hb3 : Below w2.heap.size w2 w3 := (by first | exact undrewN (undrew hb3') | exact undrew hb3' | exact undrewN hb3' | exact hb3'); have C3 := Lib.hid (X2.out.below hb3 X2.out.lt).nine))
    have HL := Lib.hid hL
    have HB3 := Lib.hid ((HB1.out.trans (hb2'.mono hs1)).trans (hb3.mono (Nat.le_trans hs1 hb2'.size)))
    have hsz := Nat.le_trans hs1 hb2'.size
    clear hL hb2 hb2' hb3 hb3' hO hTs x0 x1 x2 x3 x4 x5 x6 x7 x8 C2 C3 X2 TR
    go_wp2
    go_ret2
    rw [HV.out, HE.out]
    exact ⟨_, _, rfl, OwnG.mono HL.out hsz, HB3.out⟩
  · have HV : Hid (leV r n i j = []) := by unfold Hid leV; rw [if_neg (by rw [hE]; exact h0)]
    clear hE
    go_enter Try.func12, Try.ntmps12
    go_wp2_with fail
    refine (l07Given_calls r n i j (w.heap.size + 1) _ G0.out).mono ?_
    rintro e w1 ⟨rfl, hb⟩
    have X1 := Lib.hid (X0.out.below hb X0.out.lt)
    have HB1 := Lib.hid (HB0.out.trans (hb.mono HB0.out.size))
    have hs1 := HB1.out.size
    clear hb HB0 G0 X0 x0 x1 x2 x3 x4 x5 x6 x7 x8
    rw [HE.out]
    go_wp2
    go_ret2
    rw [HV.out, HE.out]
    exact retMvs_zero rfl HB1.out

end Go.Proofs.Ytbcgoboeeigcgaa
