/- Contracts: presumed numbers, splits, steps, parts and towers within a number, by the specification's model. -/
import Derived.Test.YtfllbdpdfgkkaaaPnV
namespace Go.Proofs.Ytfllbdpdfgkkaaa
open Go.RowKit
set_option linter.unusedVariables false

theorem l08Table_at (p : Int) (q n : Nat) (w : World) (hp : p = (q : Int) + 3) (hq : q < 8) (hn : n ≤ 60) :
    Calls Try.prog 41 #[.int .i64 p, .int .i64 n] w fun e w' => ∃ A c, e = .returned (.slice A (n + 1) c) ∧ OwnG 2 1 w.heap.size w' A (n + 1) c ((tabL (pnF q) (n + 1)).map (Value.int .i64)) ∧ Below w.heap.size w w' := by
  subst hp
  exact l08Table_calls q n w hq hn

set_option maxRecDepth 100000 in
set_option maxHeartbeats 4000000 in
theorem l08Splits_calls (q n : Nat) (w : World) (hq : q < 7) (h2 : 2 ≤ n) (hn : n ≤ 60) :
    Calls Try.prog 34 #[.int .i64 ((q : Int) + 4), .int .i64 n] w fun e w' => ∃ A c, e = .returned (.slice A (spF q n).length c) ∧ OwnG 2 1 w.heap.size w' A (spF q n).length c ((spF q n).map (Value.int .i64)) ∧ Below w.heap.size w w' := by
  obtain ⟨i0, hi, hz0, hz1, hz2⟩ := info_parts Try.infoI
  go_enter Try.func34, Try.ntmps34
  go_wp2_with fail
  refine (l08Table_at _ (q + 1) n _ (by omega) (by omega) hn).mono ?_
  rintro e w1 ⟨A1, c1, rfl, hO, hb⟩
  have HO1 := Lib.hid hO
  have HB1 := Lib.hid hb
  clear hO hb
  go_wp2_with fail
  refine (l08Table_at _ q n _ (by omega) (by omega) hn).mono ?_
  rintro e w2 ⟨A2, c2, rfl, hO, hb⟩
  have HO2 := Lib.hid hO
  have HO12 := Lib.hid (HO1.out.below hb)
  have HB2 := Lib.hid (HB1.out.trans (hb.mono HB1.out.size))
  clear hO hb HO1 HB1
  go_wp2
  go_loopw [7, 8] (fun o i wr => ∃ j : Nat, j + 1 ≤ n ∧ i = .int .i64 ((j : Int) + 1) ∧ ∃ A c, o = .slice A (splL (sN (pnF (q + 1)) (pnF q) n) (pnF (q + 1) n) j).length c ∧ OwnG 2 1 w2.heap.size wr A (splL (sN (pnF (q + 1)) (pnF q) n) (pnF (q + 1) n) j).length c ((splL (sN (pnF (q + 1)) (pnF q) n) (pnF (q + 1) n) j).map (Value.int .i64)) ∧ Below w2.heap.size w2 wr) (fun _ i _ => n - (intOf i).toNat)
  case atStart => exact ⟨0, by omega, rfl, _, _, rfl, OwnG.emptyAt (Box.new w2 2 #[]) (Nat.le_refl _), (Below.refl _ _).alloc (Nat.le_refl _) _⟩
  case round =>
    obtain ⟨j, hj, rfl, A3, c3, rfl, hO, hb⟩ := hrel
    have HO := Lib.hid hO
    have HB := Lib.hid hb
    have hsz := hb.size
    clear hO hb
    by_cases hlt : j + 1 < n
    · obtain ⟨d, hd⟩ : ∃ d, n = j + 1 + d := ⟨n - (j + 1), by omega⟩
      obtain ⟨g8, rfl, _, hl8, hc8⟩ := tabL_cell (i := j + 1) (HO12.out.below HB.out) (by omega) (by omega)
      obtain ⟨g8', hg8', _, _, hcn⟩ := tabL_cell (i := n) (HO12.out.below HB.out) (by omega) (by omega)
      cases hg8'
      obtain ⟨g5, rfl, _, hl5, hc5⟩ := tabL_cell (i := d) (HO2.out.below HB.out) (by omega) (by omega)
      have b8 := pn_lim (q := q + 1) (n := j + 1) (by omega)
      have b5 := pn_lim (q := q) (n := d) (by omega)
      have HSN := Lib.hid (show sN (pnF (q + 1)) (pnF q) n (j + 1) = 2 * pnF (q + 1) (j + 1) + pnF q d by unfold sN; rw [show n - (j + 1) = d by omega])
      obtain ⟨x8, e8⟩ : ∃ x, pnF (q + 1) (j + 1) = x := ⟨_, rfl⟩
      obtain ⟨x5, e5⟩ : ∃ x, pnF q d = x := ⟨_, rfl⟩
      obtain ⟨v, ev⟩ : ∃ v, pnF (q + 1) n = v := ⟨_, rfl⟩
      rw [e8] at hc8 b8 HSN
      rw [e5] at hc5 b5 HSN
      rw [ev] at hcn HO ⊢
      have EV := Lib.hid ev
      have hdk : (n : Int) - ((j : Int) + 1) = (d : Int) := by omega
      have hcap8 := HO12.out.cap
      have hcap5 := HO2.out.cap
      have hjk' : (j : Int) + 1 < (n : Int) := by omega
      have hln := splL_len (sN (pnF (q + 1)) (pnF q) n) v j
      clear e8 e5 hd ev
      by_cases heq : 2 * x8 + x5 = v
      · have HN := Lib.hid (show splL (sN (pnF (q + 1)) (pnF q) n) v (j + 1) = splL (sN (pnF (q + 1)) (pnF q) n) v j ++ [((j + 1 : Nat) : Int)] by rw [splL, HSN.out, if_pos heq])
        obtain ⟨Z, hZ⟩ : ∃ Z, splL (sN (pnF (q + 1)) (pnF q) n) v j = Z := ⟨_, rfl⟩
        rw [hZ] at hln HO HN ⊢
        have heq' : ((2 * x8 + x5) == v) = true := by rw [beq_iff_eq]; exact heq
        clear hZ heq
        go_wp2_with fail
        go_quiet (fail)
        have HOq := Lib.hid (HO.out.draws nq)
        go_wp2_with (at_builtin; refine wpList_append_own _ rfl _ _ 31 rfl w2.heap.size 2 i0 (.int .i64 0) 1 8 Try.underlying31 hi hz0 hz1 hz2 rfl (by decide) _ _ _ rfl (HOq.out.alloc _) ⟨(wr.drewN nq).heap.size, 0, none⟩ 1 1 [.int .i64 ((j : Int) + 1)] rfl rfl (cell_one_new _ _ _) (by simp [Value.oneCell']) (by unfold maxLen; omega) (by omega) (by simp; omega) ?_; intro v' w4 hown' hgrow _; obtain ⟨A4, c4, rfl⟩ := ownG_shape hown'; have HO4 := Lib.hid hown'; have HB4 := Lib.hid ((belowDraws HB.out nq).trans (HOq.out.grown_below hgrow (Nat.le_refl _) hsz)); clear hown' hgrow)
        go_roundw
        case rel => exact ⟨j + 1, by omega, by go_num, A4, c4, by rw [HN.out]; simp, by rw [HN.out, List.map_append, List.length_append]; exact HO4.out, HB4.out⟩
        case measure => simp [intOf]; omega
      · have HN := Lib.hid (show splL (sN (pnF (q + 1)) (pnF q) n) v (j + 1) = splL (sN (pnF (q + 1)) (pnF q) n) v j by rw [splL, HSN.out, if_neg heq])
        have heq' : ((2 * x8 + x5) == v) = false := by rw [beq_eq_false_iff_ne]; exact heq
        clear heq
        go_wp2_with fail
        go_quiet (fail)
        go_wp2
        go_roundw
        case rel => exact ⟨j + 1, by omega, by go_num, A3, c3, by rw [HN.out], by rw [HN.out]; exact HO.out, belowDraws HB.out _⟩
        case measure => simp [intOf]; omega
    · obtain rfl : n = j + 1 := by omega
      go_wp2
      go_ret
      exact ⟨_, _, rfl, HO.out.mono HB2.out.size, HB2.out.trans (HB.out.mono HB2.out.size)⟩

end Go.Proofs.Ytfllbdpdfgkkaaa
