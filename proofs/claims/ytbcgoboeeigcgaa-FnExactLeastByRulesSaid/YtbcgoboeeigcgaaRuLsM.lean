/- Contracts: LeastByRules, by the program. -/
import Derived.Test.YtbcgoboeeigcgaaRuLsL
namespace Go.Proofs.Ytbcgoboeeigcgaa
open Go.RowKit
set_option linter.unusedVariables false

set_option maxRecDepth 100000 in
set_option maxHeartbeats 4000000 in
theorem implLeastByRules_ret (r : Nat → Int) (hw : ∀ k, k < 9 → (Lit.int .i64 (r k)).wf = true) (n i j : Int) (w : World) :
    Calls Try.prog 13 #[.agg (z9 r), .int .i64 n, .int .i64 i, .int .i64 j] w (RetMvs w (leV r n i j).length (leV r n i j) (twE r n i j)) := by
  have HW := Lib.hid hw
  clear hw
  have X := Box.new w 27 (z9 r)
  obtain ⟨x0, x1, x2, x3, x4, x5, x6, x7, x8⟩ := X.nine
  have X0 := Lib.hid (X.alloc (.cells #[.int .i64 i, .int .i64 j] 2))
  have G0 : Hid (Box ((w.alloc (.cells (z9 r) 27)).alloc (.cells #[.int .i64 i, .int .i64 j] 2)) (w.heap.size + 1) 2 #[.int .i64 i, .int .i64 j]) := by
    have := Box.new (w.alloc (.cells (z9 r) 27)) 2 #[.int .i64 i, .int .i64 j]
    rw [World.size_alloc] at this
    exact this
  have HB0 : Hid (Below w.heap.size w ((w.alloc (.cells (z9 r) 27)).alloc (.cells #[.int .i64 i, .int .i64 j] 2))) := ((Below.refl _ _).alloc (Nat.le_refl _) _).alloc (by simp) _
  clear X
  obtain ⟨E, hE⟩ : ∃ E, twE r n i j = E := ⟨_, rfl⟩
  have HE := Lib.hid hE
  by_cases h0 : E = 0
  · subst h0
    obtain ⟨hr, ⟨hn0, hn8⟩, ⟨hpi, hpj, hne⟩, hs⟩ := twE_zero hE
    have hi : 0 ≤ i ∧ i < 3 := by unfold pegB at hpi; simpa using hpi
    have hj : 0 ≤ j ∧ j < 3 := by unfold pegB at hpj; simpa using hpj
    obtain ⟨N, rfl⟩ : ∃ N : Nat, n = N := ⟨n.toNat, by omega⟩
    obtain ⟨a, rfl⟩ : ∃ a : Nat, i = a := ⟨i.toNat, by omega⟩
    obtain ⟨b, rfl⟩ : ∃ b : Nat, j = b := ⟨j.toNat, by omega⟩
    have hN8 : N ≤ 8 := by omega
    have ha3 : a < 3 := by omega
    have hb3 : b < 3 := by omega
    have hab : a ≠ b := by omega
    have HR := Lib.hid hr
    have HS := Lib.hid hs
    have HV : Hid (leV r N a b = leL (alR r) N a b) := by unfold Hid leV; rw [if_pos hE, Int.toNat_natCast, Int.toNat_natCast, Int.toNat_natCast]
    have hbig := leL_big (alR r) hN8 a b
    clear hr hs hpi hpj hne hn0 hn8 hE hi hj
    go_enter Try.func13, Try.ntmps13
    go_wp2_with fail
    refine (codeOfTower_calls r HW.out (N : Int) a b (w.heap.size + 1) _ G0.out).mono ?_
    rintro e w1 ⟨rfl, hb⟩
    have X1 := Lib.hid (X0.out.below hb X0.out.lt)
    have HB1 := Lib.hid (HB0.out.trans (hb.mono HB0.out.size))
    have hs1 := HB1.out.size
    clear hb HB0 G0 X0 x0 x1 x2 x3 x4 x5 x6 x7 x8
    rw [HE.out]
    have hx1 := X1.out.lt
    obtain ⟨x0, x1, x2, x3, x4, x5, x6, x7, x8⟩ := X1.out.nine
    go_wp2_with fail
    have hne : w.heap.size ≠ w1.heap.size := by omega
    have HOB := Lib.hid ((Below.refl w1.heap.size w1).alloc (Nat.le_refl _) (.cells #[.nilIface, .slice none 0 0, .slice none 0 0] 56))
    have HSA := Lib.hid (World.size_alloc w1 (.cells #[.nilIface, .slice none 0 0, .slice none 0 0] 56))
    have RN := Lib.hid (Box.new w1 56 #[.nilIface, .slice none 0 0, .slice none 0 0])
    go_region_held3 (fun w' => w'.cell? ⟨w.heap.size, 0, none⟩ = some (.int .i64 (r 0)) ∧ w'.cell? ⟨w.heap.size, 1, none⟩ = some (.int .i64 (r 1)) ∧ w'.cell? ⟨w.heap.size, 2, none⟩ = some (.int .i64 (r 2)) ∧ w'.cell? ⟨w.heap.size, 3, none⟩ = some (.int .i64 (r 3)) ∧ w'.cell? ⟨w.heap.size, 4, none⟩ = some (.int .i64 (r 4)) ∧ w'.cell? ⟨w.heap.size, 5, none⟩ = some (.int .i64 (r 5)) ∧ w'.cell? ⟨w.heap.size, 6, none⟩ = some (.int .i64 (r 6)) ∧ w'.cell? ⟨w.heap.size, 7, none⟩ = some (.int .i64 (r 7)) ∧ w'.cell? ⟨w.heap.size, 8, none⟩ = some (.int .i64 (r 8)))
      (first | exact ⟨x0, x1, x2, x3, x4, x5, x6, x7, x8⟩ | exact (X1.out.alloc _).nine | exact C2.out | exact (X2.out.alloc _).nine | exact (((X2.out.other (a := ⟨w1.heap.size, 0, none⟩) hne _).other (a := ⟨w1.heap.size, 1, none⟩) hne _).other (a := ⟨w1.heap.size, 2, none⟩) hne _).nine | go_keep)
      (first
      | (go_at_call 23; refine (tablesTo_calls r N hN8 (fun m hm => tbl_bound HR.out HS.out m (by omega)) _).mono ?_; rintro e w2 ⟨g, rfl, hg, hrow, hb2⟩; have hb2' : Below w1.heap.size w1 w2 := (by first | exact undrewN (undrew hb2) | exact undrew hb2 | exact undrewN hb2 | exact hb2); have hg' := Lib.hid (show w1.heap.size ≤ g from hg); have X2 := Lib.hid (X1.out.below hb2' hx1); have C2 := Lib.hid X2.out.nine; have HRW := Lib.hid hrow; have HB2 := Lib.hid (HB1.out.trans (hb2'.mono hs1)); have hs2 := hb2'.size; clear hb2 hb2' hrow hg)
      | (go_at_call 23; refine (tablesTo_calls r N hN8 (fun m hm => tbl_bound HR.out HS.out m (by omega)) _).mono ?_; rintro e w2 ⟨g, rfl, hg, hrow, hb2⟩; have hb3 : Below (w1.alloc (.cells #[.nilIface, .slice none 0 0, .slice none 0 0] 56)).heap.size (w1.alloc (.cells #[.nilIface, .slice none 0 0, .slice none 0 0] 56)) w2 := (by first | exact undrewN (undrew hb2) | exact undrew hb2 | exact undrewN hb2 | exact hb2); have hg' := Lib.hid (show (w1.alloc (.cells #[.nilIface, .slice none 0 0, .slice none 0 0] 56)).heap.size ≤ g from hg); have X2 := Lib.hid ((X1.out.alloc (.cells #[.nilIface, .slice none 0 0, .slice none 0 0] 56)).below hb3 (by have := HSA.out; omega)); have C2 := Lib.hid X2.out.nine; have HRW := Lib.hid hrow; have hs2 := hb3.size; have HB2 := Lib.hid ((HB1.out.alloc hs1 (.cells #[.nilIface, .slice none 0 0, .slice none 0 0] 56)).trans (hb3.mono (by have := HSA.out; omega))); have RB := Lib.hid (RN.out.below hb3 RN.out.lt); obtain ⟨r0, r1, r2⟩ := RB.out.three; have f0 := RB.out.frozen 0; have f1 := RB.out.frozen 1; have f2 := RB.out.frozen 2; clear hb2 hb3 hrow hg)
      | fail)
    all_goals go_wp2_with fail
    · have HLR : Hid (LRun (w2.alloc (.cells #[.iface 27 (.agg #[.int .i64 (r 0), .int .i64 (r 1), .int .i64 (r 2), .int .i64 (r 3), .int .i64 (r 4), .int .i64 (r 5), .int .i64 (r 6), .int .i64 (r 7), .int .i64 (r 8)]), .slice (some ⟨g, 0, none⟩) (N + 1) (N + 1), .slice none 0 0] 56)) r w2.heap.size g (N + 1) (w2.heap.size + 1) none 0 0 []) :=
        ⟨Box.new w2 56 _, OwnG.nilS _ _ _ _, ⟨by omega, by have := HRW.out.lt; omega, by have := HRW.out.lt; omega⟩, by simp, HRW.out.alloc _⟩
      refine (lead_calls r w2.heap.size g (N + 1) (w2.heap.size + 1) (tbl_bound HR.out HS.out) N hN8 (by omega) a b ha3 hb3 hab _ none 0 [] 0 HLR.out (by omega)).mono ?_
      rintro e w3 ⟨rfl, A3, d3, hL3, hb3⟩
      have HB3 := Lib.hid ((HB2.out.alloc (by omega) _).trans (hb3.mono (by omega)))
      have HO3 := Lib.hid (OwnG.mono hL3.own (show w.heap.size ≤ w2.heap.size + 1 by omega))
      obtain ⟨z0, z1, z2⟩ := hL3.box.three
      clear hb3 hL3
      go_wp2
      go_ret2
      rw [HV.out, HE.out]
      exact ⟨A3, d3, rfl, by have := HO3.out; rwa [Nat.zero_add, List.nil_append] at this, HB3.out⟩
    · have hgl := HRW.out.lt
      have hg1 : w1.heap.size + 1 ≤ g := by have h1 := hg'.out; have h2 := HSA.out; omega
      have hs3 : w1.heap.size + 1 ≤ w2.heap.size := by have h2 := HSA.out; omega
      have HLR : Hid (LRun (((w2.setCell ⟨w1.heap.size, 0, none⟩ (.iface 27 (.agg #[.int .i64 (r 0), .int .i64 (r 1), .int .i64 (r 2), .int .i64 (r 3), .int .i64 (r 4), .int .i64 (r 5), .int .i64 (r 6), .int .i64 (r 7), .int .i64 (r 8)]))).setCell ⟨w1.heap.size, 1, none⟩ (.slice (some ⟨g, 0, none⟩) (N + 1) (N + 1))).setCell ⟨w1.heap.size, 2, none⟩ (.slice none 0 0)) r w1.heap.size g (N + 1) w2.heap.size none 0 0 []) :=
        ⟨((RB.out.set 0 _).set 1 _).set 2 _, OwnG.nilS _ _ _ _, ⟨by omega, by omega, by omega⟩, by simp, ((HRW.out.setOther (a := ⟨w1.heap.size, 0, none⟩) (by show g ≠ w1.heap.size; omega) _).setOther (a := ⟨w1.heap.size, 1, none⟩) (by show g ≠ w1.heap.size; omega) _).setOther (a := ⟨w1.heap.size, 2, none⟩) (by show g ≠ w1.heap.size; omega) _⟩
      refine (lead_calls r w1.heap.size g (N + 1) w2.heap.size (tbl_bound HR.out HS.out) N hN8 (by omega) a b ha3 hb3 hab _ none 0 [] 0 HLR.out (by omega)).mono ?_
      rintro e w3 ⟨rfl, A3, d3, hL3, hb3⟩
      have HB3 := Lib.hid ((((HB2.out.setCell (p := ⟨w1.heap.size, 0, none⟩) hs1 _).setCell (p := ⟨w1.heap.size, 1, none⟩) hs1 _).setCell (p := ⟨w1.heap.size, 2, none⟩) hs1 _).trans (hb3.mono hs1))
      have HO3 := Lib.hid (OwnG.mono hL3.own (show w.heap.size ≤ w2.heap.size by omega))
      obtain ⟨z0, z1, z2⟩ := hL3.box.three
      clear hb3 hL3
      go_wp2
      go_ret2
      rw [HV.out, HE.out]
      exact ⟨A3, d3, rfl, by have := HO3.out; rwa [Nat.zero_add, List.nil_append] at this, HB3.out⟩
  · have HV : Hid (leV r n i j = []) := by unfold Hid leV; rw [if_neg (by rw [hE]; exact h0)]
    clear hE
    go_enter Try.func13, Try.ntmps13
    go_wp2_with fail
    refine (codeOfTower_calls r HW.out n i j (w.heap.size + 1) _ G0.out).mono ?_
    rintro e w1 ⟨rfl, hb⟩
    have X1 := Lib.hid (X0.out.below hb X0.out.lt)
    have HB1 := Lib.hid (HB0.out.trans (hb.mono HB0.out.size))
    have hs1 := HB1.out.size
    clear hb HB0 G0 X0 x0 x1 x2 x3 x4 x5 x6 x7 x8
    rw [HE.out]
    go_wp2
    go_ret2
    rw [HV.out, HE.out]
    exact retMvs_zero rfl HB1.out

end Go.Proofs.Ytbcgoboeeigcgaa
