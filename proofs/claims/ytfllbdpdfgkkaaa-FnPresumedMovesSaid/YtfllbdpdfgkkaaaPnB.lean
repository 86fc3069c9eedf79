/- Contracts: the table of presumed numbers, by the program. -/
import Derived.Test.YtfllbdpdfgkkaaaPnL
import Derived.Deep.RegionWith
namespace Go.Proofs.Ytfllbdpdfgkkaaa
open Go.RowKit
set_option linter.unusedVariables false

theorem hd_num {q n : Nat} (h : 2 ≤ n) : 2 * pnF (q + 1) (hdF q n) + pnF q (n - hdF q n) = pnF (q + 1) n := by
  obtain ⟨j, h1, h2, h3, h4⟩ := splL_head _ (spF_pos (q := q) h)
  have e : hdF q n = j := by unfold hdF spF; rw [h3]; rfl
  rw [e]
  exact h4

set_option maxHeartbeats 1000000 in
theorem lesser_three (g N n d : Nat) (w : World) (hd : d ≤ 60) :
    Calls Try.prog 28 #[.agg #[.slice (some ⟨g, 0, none⟩) N N, .int .i64 n], .int .i64 3, .int .i64 d] w fun e w' => e = .returned (.int .i64 (pnF 0 d)) ∧ Below w.heap.size w w' := by
  have hx := pn_lim (q := 0) (n := d) hd
  have HX := Lib.hid (show pnF 0 d = (2 : Int) ^ d - 1 by show ((2 ^ d : Nat) : Int) - 1 = _; simp)
  have hsh := shl60 (s := d) hd
  rw [HX.out] at hx
  obtain ⟨X, eX⟩ : ∃ X, (2 : Int) ^ d = X := ⟨_, rfl⟩
  rw [eX] at hx HX
  have hsh' : wrap64 ((2 : Int) ^ d) = X := hsh.trans eX
  clear hsh eX
  rw [HX.out]
  go_enter Try.func28, Try.ntmps28
  go_wp2
  go_ret
  exact ⟨rfl, (Below.refl _ _).alloc (Nat.le_refl _) _⟩

set_option maxHeartbeats 1000000 in
theorem lesser_few (g N n q d : Nat) (w : World) (hq : q < 7) (hd : d ≤ 1) :
    Calls Try.prog 28 #[.agg #[.slice (some ⟨g, 0, none⟩) N N, .int .i64 n], .int .i64 ((q : Int) + 4), .int .i64 d] w fun e w' => e = .returned (.int .i64 (pnF (q + 1) d)) ∧ Below w.heap.size w w' := by
  have HX := Lib.hid (show pnF (q + 1) d = (d : Int) by
    have : d = 0 ∨ d = 1 := by omega
    rcases this with rfl | rfl
    · rw [pnF_zero]; rfl
    · rw [pnF_one]; rfl)
  have h3 : (((q : Int) + 4) == 3) = false := by rw [beq_eq_false_iff_ne]; omega
  have hd1 : (d : Int) ≤ 1 := by omega
  rw [HX.out]
  go_enter Try.func28, Try.ntmps28
  go_wp2
  go_ret
  exact ⟨rfl, (Below.refl _ _).alloc (Nat.le_refl _) _⟩

set_option maxHeartbeats 4000000 in
theorem lesser_more (g N n q M0 M1 d : Nat) (w : World) (hM0 : Hid (M0 = q * (n + 1))) (hM1 : Hid (M1 = (q + 1) * (n + 1))) (hN : M1 + (n + 1) ≤ N) (hNb : N ≤ 1000) (hq : q < 7) (hn : n ≤ 60) (h2 : 2 ≤ d) (hdn : d ≤ n) (hR : Rows w g q d M0 M1) :
    Calls Try.prog 28 #[.agg #[.slice (some ⟨g, 0, none⟩) N N, .int .i64 n], .int .i64 ((q : Int) + 4), .int .i64 d] w fun e w' => e = .returned (.int .i64 (pnF (q + 1) d)) ∧ Below w.heap.size w w' := by
  have h3 : (((q : Int) + 4) == 3) = false := by rw [beq_eq_false_iff_ne]; omega
  have hd1 : ¬ (d : Int) ≤ 1 := by omega
  have hb0 := (Below.refl w.heap.size w).alloc (Nat.le_refl _) (.cells #[.slice (some ⟨g, 0, none⟩) N N, .int .i64 n] 44)
  have XT := Lib.hid (Box.new w 44 #[.slice (some ⟨g, 0, none⟩) N N, .int .i64 n])
  have HB0 := Lib.hid hb0
  have HR0 := Lib.hid (hR.below hb0)
  clear hb0 hR
  generalize hW : w.alloc (.cells #[.slice (some ⟨g, 0, none⟩) N N, .int .i64 n] 44) = W at *
  have HW := Lib.hid hW
  clear hW
  obtain ⟨t0, t1, _⟩ := XT.out.two
  go_enter Try.func28, Try.ntmps28
  go_wp2_with fail
  rw [HW.out]
  obtain ⟨hh1, hh2, _⟩ := hdF_bd (q := q) (n := d) h2
  have HNUM := Lib.hid (hd_num (q := q) (n := d) h2)
  have hcl := hd_cell (q := q) (n := d) h2
  have hpos := spF_pos (q := q) (n := d) h2
  obtain ⟨h, eh⟩ : ∃ h, hdF q d = h := ⟨_, rfl⟩
  obtain ⟨k, ek⟩ : ∃ k, d = h + k := ⟨d - h, by omega⟩
  rw [eh] at hh1 hh2 hcl HNUM
  rw [show d - h = k by omega] at HNUM
  have HCL := Lib.hid hcl
  have HK := Lib.hid ek
  have hkn : k ≤ n := by omega
  have hhn : h ≤ n := by omega
  clear eh ek hcl
  go_region_with (first
    | (go_at_call 40; refine (splits_calls g N n q M0 M1 d _ hM0 hM1 hN hNb hq hn h2 hdn ?_).mono ?_; (exact HR0.out); rintro e w2 ⟨A2, c2, rfl, hO2, hb2⟩; have hb2' : Below W.heap.size W w2 := (by first | exact undrewN (undrew hb2) | exact undrew hb2 | exact undrewN hb2 | exact hb2); obtain ⟨g2, rfl, _, hl2, hc2⟩ := OwnG.cell (show OwnG 2 1 _ w2 A2 _ c2 _ from hO2) 0 (by omega); rw [HCL.out] at hc2; obtain ⟨t2, t3, _⟩ := (XT.out.below hb2' XT.out.lt).two; have HR2 := Lib.hid (HR0.out.below hb2'); have HB2 := Lib.hid (HB0.out.trans (hb2'.mono HB0.out.size)); clear hO2 hb2 hb2'; generalize (spF q d).length = len at *)
    | (go_at_call 39; refine (splitNumber_calls g N n q M0 M1 h k d (pnF (q + 1) h) (pnF q k) _ hM0 hM1 hN hNb hq hn hhn ?_ hkn ?_ ?_ ?_ ?_).mono ?_; (exact HK); (exact pn_lim (by omega)); (exact pn_lim (by omega)); (exact (HR2.out.2 h (by omega)).1); (exact (HR2.out.2 k (by have := HK.out; omega)).2); rintro e w3 ⟨rfl, hb3⟩; have HB3 := Lib.hid (HB2.out.trans (hb3.mono HB2.out.size))))
  all_goals
    go_wp2
    go_ret
    exact ⟨ret_int HNUM.out, HB3.out⟩

/-- The cells of the table, as far as the first t. -/
def upP (n t i : Nat) : Value := if i < t then .int .i64 (pnF (i / (n + 1)) (i % (n + 1))) else .int .i64 0
theorem upP_at {n t r j : Nat} (hj : j ≤ n) (ht : r * (n + 1) + j < t) : upP n t (r * (n + 1) + j) = .int .i64 (pnF r j) := by
  unfold upP
  have e1 : (r * (n + 1) + j) / (n + 1) = r := by rw [Nat.mul_comm, Nat.mul_add_div (by omega), Nat.div_eq_of_lt (by omega), Nat.add_zero]
  have e2 : (r * (n + 1) + j) % (n + 1) = j := by rw [Nat.mul_comm, Nat.mul_add_mod, Nat.mod_eq_of_lt (by omega)]
  rw [if_pos ht, e1, e2]
theorem upP_step {n r d : Nat} (hd : d ≤ n) (k : Nat) : (if k = r * (n + 1) + d then Value.int .i64 (pnF r d) else upP n (r * (n + 1) + d) k) = upP n (r * (n + 1) + d + 1) k := by
  by_cases h : k = r * (n + 1) + d
  · rw [if_pos h, h, upP_at hd (by omega)]
  · rw [if_neg h]
    unfold upP
    by_cases h2 : k < r * (n + 1) + d
    · rw [if_pos h2, if_pos (by omega)]
    · rw [if_neg h2, if_neg (by omega)]
theorem rows_of {w : World} {g e N n r M0 M1 d : Nat} (h : w.rowIs g e N (upP n (M1 + d))) (hM0 : M0 = r * (n + 1)) (hM1 : M1 = (r + 1) * (n + 1)) (hd : d ≤ n) (hN : M1 + (n + 1) ≤ N) : Rows w g r d M0 M1 := by
  have he : M1 = M0 + (n + 1) := by rw [hM0, hM1, Nat.add_mul]; omega
  refine ⟨h.lt, fun j hj => ⟨?_, ?_⟩⟩
  · refine (h.cell (i := M1 + j) (by omega)).trans ?_
    rw [hM1, upP_at (by omega) (by omega)]
  · refine (h.cell (i := M0 + j) (by omega)).trans ?_
    rw [hM0, upP_at (by omega) (by omega)]
theorem lesser_calls (p : Int) (g N n r M d : Nat) (w : World) (hp : p = (r : Int) + 3) (hM : M = r * (n + 1)) (hrow : w.rowIs g 2 N (upP n (M + d))) (hN : M + (n + 1) ≤ N) (hNb : N ≤ 1000) (hr : r < 8) (hn : n ≤ 60) (hd : d ≤ n) :
    Calls Try.prog 28 #[.agg #[.slice (some ⟨g, 0, none⟩) N N, .int .i64 n], .int .i64 p, .int .i64 d] w fun e w' => e = .returned (.int .i64 (pnF r d)) ∧ Below w.heap.size w w' := by
  subst hp
  cases r with
  | zero => exact lesser_three g N n d w (by omega)
  | succ r =>
    rw [show (((r + 1 : Nat) : Int) + 3) = (r : Int) + 4 by omega]
    by_cases h2 : d ≤ 1
    · exact lesser_few g N n r d w (by omega) h2
    · exact lesser_more g N n r (r * (n + 1)) M d w rfl hM hN hNb (by omega) hn (by omega) hd (rows_of hrow rfl hM hd hN)

set_option maxRecDepth 100000 in
set_option maxHeartbeats 4000000 in
theorem presumedTo_calls (q n N : Nat) (w : World) (hN : Hid (N = (q + 1) * (n + 1))) (hq : q < 8) (hn : n ≤ 60) :
    Calls Try.prog 17 #[.int .i64 ((q : Int) + 3), .int .i64 n] w fun e w' => ∃ g, e = .returned (.agg #[.slice (some ⟨g, 0, none⟩) N N, .int .i64 n]) ∧ w.heap.size ≤ g ∧ w'.rowIs g 2 N (upP n N) ∧ Below w.heap.size w w' := by
  obtain ⟨i0, hi, hz0, hz1, hz2⟩ := info_parts Try.infoI
  have hmul : ((q : Int) + 1) * ((n : Int) + 1) = N := by rw [hN.out]; push_cast; rfl
  have hNb : N ≤ 488 := by
    rw [hN.out]
    exact Nat.le_trans (Nat.mul_le_mul (show q + 1 ≤ 8 by omega) (show n + 1 ≤ 61 by omega)) (by decide)
  have hmk := run_make_row' (P := Try.prog) 31 2 (.int .i64 0) 8 Try.underlying31 Try.infoI rfl .i64 .i64 N (by omega) (by omega)
  go_enter Try.func17, Try.ntmps17
  go_wp2
  have XT := Lib.hid (show Box (((w.alloc (.cells #[.slice none 0 0, .int .i64 0] 44)).alloc (.cells (madeCells #[.int .i64 0] N) 2)).alloc (.cells #[.slice (some ⟨w.heap.size + 1, 0, none⟩) N N, .int .i64 n] 44)) (w.heap.size + 1 + 1) 44 #[.slice (some ⟨w.heap.size + 1, 0, none⟩) N N, .int .i64 n] from by
    have := Box.new ((w.alloc (.cells #[.slice none 0 0, .int .i64 0] 44)).alloc (.cells (madeCells #[.int .i64 0] N) 2)) 44 #[.slice (some ⟨w.heap.size + 1, 0, none⟩) N N, .int .i64 n]
    simpa only [World.size_alloc] using this)
  have XZ := Lib.hid (((Box.new w 44 #[.slice none 0 0, .int .i64 0]).alloc (.cells (madeCells #[.int .i64 0] N) 2)).alloc (.cells #[.slice (some ⟨w.heap.size + 1, 0, none⟩) N N, .int .i64 n] 44))
  have hrow0 := World.rowIs_made (w.alloc (.cells #[.slice none 0 0, .int .i64 0] 44)) (.int .i64 0) N 2
  have HR0 : Hid ((((w.alloc (.cells #[.slice none 0 0, .int .i64 0] 44)).alloc (.cells (madeCells #[.int .i64 0] N) 2)).alloc (.cells #[.slice (some ⟨w.heap.size + 1, 0, none⟩) N N, .int .i64 n] 44)).rowIs (w.heap.size + 1) 2 N (upP n 0)) := by
    have h2 := hrow0.of_block (Below.heap_alloc _ (.cells #[.slice (some ⟨w.heap.size + 1, 0, none⟩) N N, .int .i64 n] 44) _ hrow0.lt)
    have h3 := h2.congr (g := upP n 0) (fun i _ => by unfold upP; rw [if_neg (by omega)])
    simp only [World.size_alloc] at h3
    exact h3
  have HB0 := Lib.hid ((((Below.refl w.heap.size w).alloc (Nat.le_refl _) (.cells #[.slice none 0 0, .int .i64 0] 44)).alloc (by simp) (.cells (madeCells #[.int .i64 0] N) 2)).alloc (by simp; omega) (.cells #[.slice (some ⟨w.heap.size + 1, 0, none⟩) N N, .int .i64 n] 44))
  clear hrow0 hmk hmul
  go_loopw [6] (fun i wr => ∃ r : Nat, ∃ pI : Int, r ≤ q + 1 ∧ i = .int .i64 pI ∧ Hid (pI = (r : Int) + 3) ∧ wr.rowIs (w.heap.size + 1) 2 N (upP n (r * (n + 1))) ∧ Box wr (w.heap.size + 1 + 1) 44 #[.slice (some ⟨w.heap.size + 1, 0, none⟩) N N, .int .i64 n] ∧ Box wr w.heap.size 44 #[.slice none 0 0, .int .i64 0] ∧ Below w.heap.size w wr) (fun i _ => (q + 4 : Int).toNat - (intOf i).toNat)
  case atStart => exact ⟨0, _, by omega, rfl, rfl, by rw [Nat.zero_mul]; exact HR0.out, XT.out, XZ.out, HB0.out⟩
  case round =>
    obtain ⟨wo, rfl⟩ : ∃ x, x = wr := ⟨wr, rfl⟩
    obtain ⟨r, pI, hr, rfl, hpI, hrow, hxt, hxz, hb⟩ := hrel
    obtain ⟨M, hM⟩ : ∃ M, Hid (M = r * (n + 1)) := ⟨_, rfl⟩
    rw [← hM.out] at hrow
    have HR := Lib.hid hrow
    have XT1 := Lib.hid hxt
    have XZ1 := Lib.hid hxz
    have HB := Lib.hid hb
    have hsz := hb.size
    have hlx := hxt.lt
    clear hrow hxt hxz hb XT XZ HR0 HB0
    by_cases hlt : r < q + 1
    · have hle : pI ≤ (q : Int) + 3 := by rw [hpI.out]; omega
      have hpb : 3 ≤ pI ∧ pI ≤ 10 := by rw [hpI.out]; omega
      have hMN : M + (n + 1) ≤ N := by
        rw [hM.out, hN.out, ← Nat.succ_mul]
        exact Nat.mul_le_mul_right _ (by omega)
      obtain ⟨t0, t1, _⟩ := XT1.out.two
      go_wp2_with fail
      refine (row_at pI (w.heap.size + 1) N n r M _ hpI.out hM hMN (by omega) (by omega) hn).mono ?_
      rintro e w1 ⟨rfl, hb1⟩
      have HR1 := Lib.hid (HR.out.of_block (hb1.block _ HR.out.lt))
      have XT2 := Lib.hid (XT1.out.below hb1 XT1.out.lt)
      have XZ2 := Lib.hid (XZ1.out.below hb1 XZ1.out.lt)
      have HB1 := Lib.hid (HB.out.trans (hb1.mono hsz))
      have hs1 : w.heap.size + 1 + 1 < w1.heap.size := Nat.lt_of_lt_of_le hlx hb1.size
      clear hb1 t0 t1
      go_wp2
      go_loopw [28] (fun i wm => ∃ d : Nat, d ≤ n + 1 ∧ i = .int .i64 d ∧ wm.rowIs (w.heap.size + 1) 2 N (upP n (M + d)) ∧ Box wm (w.heap.size + 1 + 1) 44 #[.slice (some ⟨w.heap.size + 1, 0, none⟩) N N, .int .i64 n] ∧ Box wm w.heap.size 44 #[.slice none 0 0, .int .i64 0] ∧ Below w.heap.size w wm) (fun i _ => n + 1 - (intOf i).toNat)
      case atStart => exact ⟨0, by omega, rfl, HR1.out, XT2.out, XZ2.out, HB1.out⟩
      case round =>
        obtain ⟨wm, rfl⟩ : ∃ x, x = wr := ⟨wr, rfl⟩
        obtain ⟨d, hd, rfl, hrow, hxt, hxz, hb⟩ := hrel
        have HR3 := Lib.hid hrow
        have XT3 := Lib.hid hxt
        have XZ3 := Lib.hid hxz
        have HB3 := Lib.hid hb
        have hs3 := hb.size
        have hl3 := hxt.lt
        clear hrow hxt hxz hb HR1 XT2 XZ2 HB1
        by_cases hdn : d < n + 1
        · obtain ⟨t0, t1, _⟩ := XT3.out.two
          go_wp2_with fail
          refine (lesser_calls pI (w.heap.size + 1) N n r M d _ hpI.out hM.out HR3.out hMN (by omega) (by omega) hn (by omega)).mono ?_
          rintro e w4 ⟨rfl, hb4⟩
          have HR4 := Lib.hid (HR3.out.of_block (hb4.block _ HR3.out.lt))
          have XT4 := Lib.hid (XT3.out.below hb4 hl3)
          have XZ4 := Lib.hid (XZ3.out.below hb4 XZ3.out.lt)
          have HB4 := Lib.hid (HB3.out.trans (hb4.mono hs3))
          have hc := HR4.out.cell (i := M + d) (by omega)
          have hf := HR4.out.frozen (i := M + d)
          have HST := Lib.hid (fun k => upP_step (n := n) (r := r) (d := d) (by omega) k)
          rw [← hM.out] at HST
          obtain ⟨x, hx⟩ : ∃ x, pnF r d = x := ⟨_, rfl⟩
          rw [hx] at HST ⊢
          have hdn' : (d : Int) < (n : Int) + 1 := by omega
          clear hb4 t0 t1 hx
          go_wp2
          go_roundw
          case rel => exact ⟨d + 1, by omega, by go_num, (HR4.out.set (M + d) (.int .i64 x)).congr (fun k _ => HST.out k), XT4.out.other (by simp) _, XZ4.out.other (by simp) _, HB4.out.setCell (by simp) _⟩
          case measure => simp [intOf]; omega
        · obtain rfl : d = n + 1 := by omega
          have hM2 : M + (n + 1) = (r + 1) * (n + 1) := by rw [hM.out, Nat.succ_mul]
          go_wp2
          go_roundw
          case rel => exact ⟨r + 1, pI + 1, by omega, rfl, by unfold Hid; rw [hpI.out]; omega, by rw [← hM2]; exact HR3.out, XT3.out, XZ3.out, HB3.out⟩
          case measure =>
            have := hpI.out
            simp [intOf]
            omega
    · obtain rfl : r = q + 1 := by omega
      have hle : ¬ pI ≤ (q : Int) + 3 := by rw [hpI.out]; omega
      obtain ⟨t0, t1, _⟩ := XT1.out.two
      obtain ⟨z0, z1, _⟩ := XZ1.out.two
      have zf0 := XZ1.out.frozen 0
      have zf1 := XZ1.out.frozen 1
      go_wp2
      refine bodyPost_ret (v := .agg #[.slice (some ⟨w.heap.size + 1, 0, none⟩) N N, .int .i64 n]) (by simp [results, Try.results17, go_sem, z0, z1]) rfl ⟨w.heap.size + 1, rfl, by omega, ?_, ?_⟩
      · rw [show N = M from hN.out.trans hM.out.symm] at *
        exact ((HR.out.setOther (by simp) _).setOther (by simp) _)
      · exact (HB.out.setCell (by simp) _).setCell (by simp) _

end Go.Proofs.Ytfllbdpdfgkkaaa
