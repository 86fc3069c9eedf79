/- Contracts: the presumed lists by the program: words; a single disc; how many discs make way. -/
import Derived.Test.YtfllbdpdfgkkaaaPmS
import Derived.Test.YtfllbdpdfgkkaaaPmD
import Derived.Test.YtfllbdpdfgkkaaaPnB
import Derived.Deep.AppendLies
import Derived.Deep.RegionLaw
namespace Go.Proofs.Ytfllbdpdfgkkaaa
open Go.RowKit
set_option linter.unusedVariables false

theorem OwnG.drewP {e size B n c : Nat} {w : World} {A : Option Addr} {xs : List Value} (h : OwnG e size B w A n c xs) : OwnG e size B w.drew A n c xs := h
theorem grown_undrewP {w w' : World} {r : Option Nat} (h : w.drew.grownBy w' r) : w.grownBy w' r := ⟨h.os, h.tape, h.output, h.size, h.block⟩
/-- A run of a presumed list: its box R, its table in block g, its list. -/
structure PRun (w : World) (R g N nn B : Nat) (A : Option Addr) (q d : Nat) (M : List Mv) : Prop where
  box : Box w R 47 #[.slice (some ⟨g, 0, none⟩) N N, .int .i64 nn, .slice A q d]
  own : OwnM B w A q d M
  lt : R < B ∧ g < B ∧ g ≠ R
  sz : B ≤ w.heap.size
  row : w.rowIs g 2 N (upP nn N)
/-- What a run writes to. -/
def XR (R : Nat) (A : Option Addr) : Nat → Prop := fun k => k = R ∨ A = some ⟨k, 0, none⟩
theorem PRun.below {w w' : World} {R g N nn B q d : Nat} {A : Option Addr} {M : List Mv} (h : PRun w R g N nn B A q d M) (hb : Below w.heap.size w w') : PRun w' R g N nn B A q d M :=
  ⟨h.box.below hb h.box.lt, OwnG.below h.own hb, h.lt, Nat.le_trans h.sz hb.size, h.row.of_block (hb.block _ h.row.lt)⟩

set_option maxHeartbeats 4000000 in
theorem plead_one (R g N nn B : Nat) (A : Option Addr) (q d : Nat) (M : List Mv) (a u v : Int) (Pg : Value) (w : World) (hL : PRun w R g N nn B A q d M) (hq : q ≤ 20000) :
    Calls Try.prog 18 #[.pointer (some ⟨R, 0, none⟩), .int .i64 a, .int .i64 1, .int .i64 u, .int .i64 v, Pg] w fun e w' => e = .returned (.tuple #[]) ∧ ∃ A' d', PRun w' R g N nn B A' (q + 1) d' (M ++ [(a, u, v)]) ∧ Kp (XR R A) w w' ∧ ∀ k, XR R A' k → XR R A k ∨ w.heap.size ≤ k := by
  obtain ⟨i0, hi, hz0, hz1, hz2⟩ := info_parts Try.infoM
  obtain ⟨hx, hO, ⟨hRB, hgB, hgR⟩, hsz, hrow⟩ := hL
  have hlt := hx.lt
  have hb0 := ((Below.refl w.heap.size w).alloc (Nat.le_refl _) (.cells #[.int .i64 u] 2)).alloc (by simp) (.cells #[.int .i64 v] 2)
  have xv := Box.new (w.alloc (.cells #[.int .i64 u] 2)) 2 #[.int .i64 v]
  simp only [World.size_alloc] at xv
  have XU := Lib.hid ((Box.new w 2 #[.int .i64 u]).alloc (.cells #[.int .i64 v] 2))
  have XV := Lib.hid xv
  have HX := Lib.hid (hx.below hb0 hlt)
  have HO := Lib.hid (OwnG.below hO hb0)
  have HR := Lib.hid (hrow.of_block (hb0.block _ hrow.lt))
  have HB := Lib.hid hb0
  have HO0 := Lib.hid hO
  have hzW := hb0.size
  clear hx hO hrow xv hb0
  generalize hW : (w.alloc (.cells #[.int .i64 u] 2)).alloc (.cells #[.int .i64 v] 2) = W at *
  have HW := Lib.hid hW
  clear hW
  obtain ⟨_, _, x2⟩ := HX.out.three
  obtain ⟨u0, _⟩ := XU.out.one
  obtain ⟨v0, _⟩ := XV.out.one
  have hf2 := HX.out.frozen 2
  have x2a := (HX.out.alloc (.cells #[.int .i64 a, .int .i64 u, .int .i64 v] 53)).three.2.2
  go_enter Try.func18, Try.ntmps18
  go_wp2_with fail
  rw [HW.out]
  go_region_law ((refine step_append_lies _ (by rfl) _ _ _ (by rfl) B 53 i0 (.agg #[.int .i64 0, .int .i64 0, .int .i64 0]) 3 24 Try.underlying26 hi hz0 hz1 hz2 rfl (by decide) (.slice A q d) q (mvCells M) (by rfl) (((OwnG.alloc HO.out _)).drewP) ⟨W.heap.size, 0, none⟩ 1 1 [.int .i64 a, .int .i64 u, .int .i64 v] (by rfl) (by rfl) (World.news_of_block (cs := #[.int .i64 a, .int .i64 u, .int .i64 v]) (t := 53) (fr := (0, 0)) (heap_alloc_new W _)) (by simp [Value.oneCell']) (by omega) (by unfold maxLen; omega) (by omega) (by simp; omega) (W.heap.size + 1) (by simp) ?_; intro gg cap w4 hown1 hgrow hat hlt2; have O4 := Lib.hid hown1; have HG := Lib.hid (grown_undrewP hgrow); have HAT := Lib.hid hat; have X4 := Lib.hid (OwnG.grown_box HO.out HG.out HX.out (by decide)); have cx := X4.out.three.2.2; have fx := X4.out.frozen 2; clear hown1 hgrow hat))
  all_goals
    have B4 := Lib.hid (HO.out.grown_below HG.out (Nat.le_refl _) (Nat.le_trans hsz hzW))
    go_wp2
    first | go_end0 | ((try simp only [Exit.inBlock, Exit.then]); refine bodyPost_ret (results_none rfl _ _ _) rfl ?_)
    refine ⟨rfl, some ⟨gg, 0, none⟩, cap, ⟨X4.out.set 2 _, ?_, ⟨hRB, hgB, hgR⟩, ?_, (HR.out.of_block (B4.out.block g hgB)).setOther hgR _⟩, ?_, ?_⟩
    · have O5 : OwnM B w4 (some ⟨gg, 0, none⟩) (q + 1) cap (M ++ [(a, u, v)]) := by unfold OwnM; rw [mvCells_snoc]; exact O4.out
      exact OwnG.setBoxed O5 X4.out (by decide) _ _
    · have := B4.out.size
      simp
      omega
    · exact ((Kp.of_below (X := XR R A) HB.out).trans (Kp.grown HG.out (fun k hk => Or.inr (own_X HO.out k hk))) (fun k h => .inl h)).set (a := ⟨R, 2, none⟩) (Or.inl rfl) _
    · intro k hk
      rcases hk with rfl | hk
      · exact .inl (.inl rfl)
      · rcases HAT.out with h1 | h1
        · injection hk with hk
          injection hk with hk
          subst hk
          exact .inl (.inr (own_X HO.out _ h1))
        · injection hk with hk
          injection hk with hk
          exact .inr (by omega)

theorem splits_pm (p : Int) (g N n q M0 M1 nn : Nat) (w : World) (hp : p = (q : Int) + 4) (hM0 : Hid (M0 = q * (n + 1))) (hM1 : Hid (M1 = (q + 1) * (n + 1))) (hN : M1 + (n + 1) ≤ N) (hNb : N ≤ 1000) (hq : q < 7) (hn : n ≤ 60) (h2 : 2 ≤ nn) (hnn : nn ≤ n) (hR : Rows w g q nn M0 M1) :
    Calls Try.prog 40 #[.agg #[.slice (some ⟨g, 0, none⟩) N N, .int .i64 n], .int .i64 p, .int .i64 nn] w fun e w' => ∃ A c, e = .returned (.slice A (spF q nn).length c) ∧ Own w.heap.size w' A (spF q nn).length c (spF q nn) ∧ Below w.heap.size w w' := by
  subst hp
  exact splits_calls g N n q M0 M1 nn w hM0 hM1 hN hNb hq hn h2 hnn hR
theorem run_three {w : World} {R g N nn B q d : Nat} {A : Option Addr} {M : List Mv} (h : PRun w R g N nn B A q d M) : w.cell? ⟨R, 0, none⟩ = some (.slice (some ⟨g, 0, none⟩) N N) ∧ w.cell? ⟨R, 1, none⟩ = some (.int .i64 nn) ∧ w.cell? ⟨R, 2, none⟩ = some (.slice A q d) := h.box.three
theorem run_rows {w : World} {R g N nn B q d Q r m : Nat} {A : Option Addr} {M : List Mv} (h : PRun w R g N nn B A q d M) (hN : N = (Q + 1) * (nn + 1)) (hr : r + 1 ≤ Q) (hm : m ≤ nn) : Rows w g r m (r * (nn + 1)) ((r + 1) * (nn + 1)) ∧ (r + 1) * (nn + 1) + (nn + 1) ≤ N := by
  have h2 : (r + 1) * (nn + 1) + (nn + 1) ≤ N := by
    rw [hN, ← Nat.succ_mul]
    exact Nat.mul_le_mul_right _ (by omega)
  refine ⟨⟨h.row.lt, fun j hj => ⟨?_, ?_⟩⟩, h2⟩
  · refine (h.row.cell (i := (r + 1) * (nn + 1) + j) (by omega)).trans ?_
    rw [upP_at (by omega) (by omega)]
  · have e : (r + 1) * (nn + 1) = r * (nn + 1) + (nn + 1) := Nat.succ_mul _ _
    refine (h.row.cell (i := r * (nn + 1) + j) (by omega)).trans ?_
    rw [upP_at (by omega) (by omega)]

set_option maxHeartbeats 1000000 in
theorem firstPart_calls (R g N nn B Q : Nat) (A : Option Addr) (q d : Nat) (M : List Mv) (p m : Nat) (w : World) (hL : PRun w R g N nn B A q d M) (hN : Hid (N = (Q + 1) * (nn + 1))) (hNb : N ≤ 1000) (hQ : Q ≤ 7) (hp : 3 ≤ p ∧ p ≤ Q + 3) (hm : 2 ≤ m ∧ m ≤ nn) (hnn : nn ≤ 60) :
    Calls Try.prog 29 #[.pointer (some ⟨R, 0, none⟩), .int .i64 p, .int .i64 m] w fun e w' => e = .returned (.int .i64 (kPm p m : Nat)) ∧ Below w.heap.size w w' := by
  by_cases h3 : p = 3
  · have HK := Lib.hid (show ((kPm p m : Nat) : Int) = (m : Int) - 1 by unfold kPm; rw [if_pos h3]; omega)
    have h3' : ((p : Int) == 3) = true := by rw [beq_iff_eq]; omega
    rw [HK.out]
    clear h3
    go_enter Try.func29, Try.ntmps29
    go_wp2
    go_ret
    exact ⟨rfl, Below.refl _ _⟩
  · obtain ⟨r, hr⟩ : ∃ r, Hid (p = r + 4) := ⟨p - 4, by unfold Hid; omega⟩
    have hr' := hr.out
    have h3' : ((p : Int) == 3) = false := by rw [beq_eq_false_iff_ne]; omega
    have HK := Lib.hid (show kPm p m = hdF r m by unfold kPm; rw [if_neg h3, hr.out, show r + 4 - 4 = r by omega])
    obtain ⟨hrows, hNN⟩ := run_rows (r := r) (m := m) hL hN.out (by omega) hm.2
    have HRW := Lib.hid hrows
    have hcl := hd_cell (q := r) (n := m) hm.1
    have hpos := spF_pos (q := r) (n := m) hm.1
    have HCL := Lib.hid hcl
    have hr7 : r < 7 := by omega
    obtain ⟨x0, x1, _⟩ := run_three hL
    obtain ⟨M1, hM1⟩ : ∃ M1, Hid (M1 = (r + 1) * (nn + 1)) := ⟨_, rfl⟩
    obtain ⟨M0, hM0⟩ : ∃ M0, Hid (M0 = r * (nn + 1)) := ⟨_, rfl⟩
    rw [← hM1.out, ← hM0.out] at HRW
    rw [← hM1.out] at hNN
    rw [HK.out]
    clear h3 hrows hcl hr' hL
    go_enter Try.func29, Try.ntmps29
    go_wp2_with fail
    refine (splits_pm _ g N nn r M0 M1 m _ (by have := hr.out; omega) hM0 hM1 hNN hNb hr7 hnn hm.1 hm.2 HRW.out).mono ?_
    rintro e w1 ⟨A1, c1, rfl, hO1, hb1⟩
    obtain ⟨g1, rfl, _, hl1, hc1⟩ := OwnG.cell (show OwnG 2 1 _ w1 A1 _ c1 _ from hO1) 0 (by omega)
    rw [HCL.out] at hc1
    have HB1 := Lib.hid hb1
    clear hO1 hb1
    generalize (spF r m).length = len at *
    go_wp2
    go_ret
    exact ⟨rfl, HB1.out⟩

end Go.Proofs.Ytfllbdpdfgkkaaa
