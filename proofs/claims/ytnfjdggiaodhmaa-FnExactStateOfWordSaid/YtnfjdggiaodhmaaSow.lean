/- Contracts: the state of a word. -/
import Derived.Test.YtnfjdggiaodhmaaWos
import Derived.Test.YtnfjdggiaodhmaaWCode
import Derived.Test.YtnfjdggiaodhmaaNums
import Derived.StillTailTactics
namespace Go.Proofs.Ytnfjdggiaodhmaa
open Go.RowKit
set_option linter.unusedVariables false

/-- The first of the three places at which v stands. -/
def idxT (t : Int × Int × Int) (v : Int) : Nat := if t.1 = v then 0 else if t.2.1 = v then 1 else 2
def ltrW : List Int → Int × Int × Int
  | [] => (0, 1, 2)
  | x :: r => exch (ltrW r) (idxT (ltrW r) x)
def sowL : List Int → List Int
  | [] => []
  | x :: r => (idxT (ltrW r) x : Int) :: sowL r
theorem sowL_len : ∀ L, (sowL L).length = L.length
  | [] => rfl
  | x :: r => by rw [sowL, List.length_cons, sowL_len r, List.length_cons]
theorem ltrW_drop {L : List Int} {d : Nat} (h : d < L.length) : ltrW (L.drop d) = exch (ltrW (L.drop (d + 1))) (idxT (ltrW (L.drop (d + 1))) (L[d]?.getD 0)) := by
  rw [List.drop_eq_getElem_cons h, List.getElem?_eq_getElem h, Option.getD_some]
  rfl
theorem sowL_at : ∀ (L : List Int) (d : Nat), d < L.length → (sowL L)[d]?.getD 0 = (idxT (ltrW (L.drop (d + 1))) (L[d]?.getD 0) : Int)
  | [], d, h => absurd h (by simp)
  | x :: r, 0, h => by simp [sowL]
  | x :: r, d + 1, h => by
    have := sowL_at r d (by simpa using h)
    simpa [sowL] using this
/-- Each of 0, 1, 2 once. -/
def okT (t : Int × Int × Int) : Prop := (0 ≤ t.1 ∧ t.1 ≤ 2) ∧ (0 ≤ t.2.1 ∧ t.2.1 ≤ 2) ∧ (0 ≤ t.2.2 ∧ t.2.2 ≤ 2) ∧ t.1 ≠ t.2.1 ∧ t.1 ≠ t.2.2 ∧ t.2.1 ≠ t.2.2
theorem okT_exch {t : Int × Int × Int} (h : okT t) (a : Int) : okT (exch t a) := by
  unfold okT at *
  unfold exch
  split
  · exact ⟨h.1, h.2.2.1, h.2.1, h.2.2.2.2.1, h.2.2.2.1, fun e => h.2.2.2.2.2 e.symm⟩
  · split
    · exact ⟨h.2.2.1, h.2.1, h.1, fun e => h.2.2.2.2.2 e.symm, fun e => h.2.2.2.2.1 e.symm, fun e => h.2.2.2.1 e.symm⟩
    · exact ⟨h.2.1, h.1, h.2.2.1, fun e => h.2.2.2.1 e.symm, h.2.2.2.2.2, h.2.2.2.2.1⟩
theorem okT_ltrW : ∀ L, okT (ltrW L)
  | [] => by unfold okT ltrW; decide
  | x :: r => okT_exch (okT_ltrW r) _
theorem idxT_lt (t : Int × Int × Int) (v : Int) : idxT t v < 3 := by unfold idxT; split; omega; split <;> omega
theorem idxT_at {t : Int × Int × Int} {v : Int} (h : okT t) (hv : 0 ≤ v ∧ v ≤ 2) : selT t (idxT t v) = v := by
  unfold okT at h
  unfold idxT
  split
  · next e => exact e
  · split
    · next e => exact e
    · show t.2.2 = v
      omega
theorem idxT_ne {t : Int × Int × Int} {v : Int} {j : Nat} (hj : j < idxT t v) : selT t j ≠ v := by
  unfold idxT at hj
  split at hj
  · omega
  · next h1 =>
    split at hj
    · obtain rfl : j = 0 := by omega
      exact h1
    · next h2 =>
      have : j = 0 ∨ j = 1 := by omega
      rcases this with rfl | rfl
      · exact h1
      · exact h2
def sowP (L : List Int) : Int := if stateB 3 L = true then 3 else 0
def sowV (L : List Int) : List Int := if stateB 3 L = true then sowL L else []
theorem sow_yes {L : List Int} (h : stateB 3 L = true) : sowP L = 3 ∧ sowV L = sowL L ∧ wcode 3 L = 0 := ⟨by unfold sowP; rw [if_pos h], by unfold sowV; rw [if_pos h], wcode_yes h⟩
theorem sow_no {L : List Int} (h : stateB 3 L = false) : sowP L = 0 ∧ sowV L = [] ∧ wcode 3 L = 2 := ⟨by unfold sowP; rw [h]; rfl, by unfold sowV; rw [h]; rfl, wcode_no h⟩
theorem sowV_len (L : List Int) : (sowV L).length ≤ 8 := by
  by_cases h : stateB 3 L = true
  · rw [(sow_yes h).2.1, sowL_len]; exact (state_facts h rfl).2.2.1
  · rw [(sow_no (by simpa using h)).2.1]; simp
theorem three_at {w : World} {g e : Nat} {t : Int × Int × Int} (h : Box w g e #[.int .i64 t.1, .int .i64 t.2.1, .int .i64 t.2.2]) {x : Nat} (hx : x < 3) : w.cell? ⟨g, x, none⟩ = some (.int .i64 (selT t x)) := by
  have h3 := h.three
  have : x = 0 ∨ x = 1 ∨ x = 2 := by omega
  rcases this with rfl | rfl | rfl
  · exact h3.1
  · exact h3.2.1
  · exact h3.2.2

set_option maxHeartbeats 1000000 in
theorem sliceIndex_calls (g e : Nat) (t : Int × Int × Int) (v : Int) (w : World) (ht : okT t) (hv : 0 ≤ v ∧ v ≤ 2) (hb : Box w g e #[.int .i64 t.1, .int .i64 t.2.1, .int .i64 t.2.2]) :
    Calls Try.prog 42 #[.slice (some ⟨g, 0, none⟩) 3 3, .int .i64 v] w fun e w' => e = .returned (.int .i64 (idxT t v)) ∧ w = w' := by
  have HB := Lib.hid hb
  have hx3 := idxT_lt t v
  have HEQ := Lib.hid (idxT_at ht hv)
  have HNE := Lib.hid (fun j => idxT_ne (t := t) (v := v) (j := j))
  obtain ⟨x, hx⟩ : ∃ x, idxT t v = x := ⟨_, rfl⟩
  rw [hx] at hx3 HEQ HNE ⊢
  clear hb ht hv hx
  go_enter Try.func42, Try.ntmps42
  go_wp2
  go_loop [5, 8] (fun _ i => ∃ j : Nat, j ≤ x ∧ i = .int .i64 j) (fun _ i => 3 - (intOf i).toNat)
  case atStart => exact ⟨0, Nat.zero_le _, rfl⟩
  case round =>
    obtain ⟨j, hj, rfl⟩ := hrel
    have hj3 : (j : Int) < 3 := by omega
    have hj0 : (0 : Int) ≤ (j : Int) := by omega
    have hc := three_at HB.out (x := j) (by omega)
    by_cases hlt : j < x
    · have hd : (v == selT t j) = false := by have := HNE.out j hlt; simpa using fun e => this e.symm
      go_wp2
      go_round
      case rel => exact ⟨j + 1, by omega, by go_num⟩
      case measure => simp [intOf]; omega
    · obtain rfl : j = x := by omega
      have hd : (v == selT t j) = true := by rw [HEQ.out]; simp
      go_wp2
      go_ret
      exact ⟨rfl, rfl⟩

set_option maxHeartbeats 4000000 in
theorem implStateOfWord_ret (A : Option Addr) (n c : Nat) (L : List Int) (w : World) (hL : L.length = n) (hn : n ≤ 1048576) (hI : Ints w A L) :
    Calls Try.prog 25 #[.slice A n c] w (RetState w (sowP L) (sowV L).length (sowV L) (wcode 3 L)) := by
  have HL := Lib.hid hL
  have X0 := Lib.hid ((Box.new w 35 #[.int .i64 0, .slice none 0 0]).alloc (.cells #[.slice A n c] 22))
  have hY : Box ((w.alloc (.cells #[.int .i64 0, .slice none 0 0] 35)).alloc (.cells #[.slice A n c] 22)) (w.heap.size + 1) 22 #[.slice A n c] := by
    have := Box.new (w.alloc (.cells #[.int .i64 0, .slice none 0 0] 35)) 22 #[.slice A n c]
    rwa [World.size_alloc] at this
  have Y0 := Lib.hid hY
  have HB0 := Lib.hid (((Below.refl w.heap.size w).alloc (Nat.le_refl _) (.cells #[.int .i64 0, .slice none 0 0] 35)).alloc (by simp) (.cells #[.slice A n c] 22))
  have HI0 := Lib.hid (hI.below HB0.out)
  have HIw := Lib.hid hI
  clear hY hI
  by_cases hs : stateB 3 L = true
  · obtain ⟨q1, q2, q3⟩ := sow_yes hs
    have hf := state_facts hs hL
    have HS := Lib.hid hs
    have hz' : (wcode 3 L != 0) = false := by rw [q3]; rfl
    rw [q1, q2, q3]
    have HZ := Lib.hid q3
    have HWL := Lib.hid ((sowL_len L).trans hL)
    have hmk := run_make_row' (P := Try.prog) 22 2 (.int .i64 0) 8 Try.underlying22 Try.infoI rfl .i64 .i64 n (by omega) (by omega)
    clear hL q1 q2 q3 hs
    go_enter Try.func25, Try.ntmps25
    go_wp2_with fail
    refine (codeOfWords_one (w.heap.size + 1) 3 A n c L _ Y0.out HL.out hn HI0.out).mono ?_
    rintro e w1 ⟨rfl, hb1⟩
    have X1 := Lib.hid (X0.out.below hb1 X0.out.lt)
    have HB1 := Lib.hid (HB0.out.trans (hb1.mono HB0.out.size))
    have hsz : w.heap.size < w1.heap.size := X1.out.lt
    clear hb1 X0 Y0 HB0 HI0
    have X2 := Lib.hid (((X1.out.alloc (.cells (madeCells #[Value.int .i64 0] n) 2)).alloc (.cells #[.int .i64 3, .slice (some ⟨w1.heap.size, 0, none⟩) n n] 35)).alloc (.cells #[.int .i64 0, .int .i64 1, .int .i64 2] 59))
    have S2 : Hid (Box (((w1.alloc (.cells (madeCells #[Value.int .i64 0] n) 2)).alloc (.cells #[.int .i64 3, .slice (some ⟨w1.heap.size, 0, none⟩) n n] 35)).alloc (.cells #[.int .i64 0, .int .i64 1, .int .i64 2] 59)) (w1.heap.size + 1) 35 #[.int .i64 3, .slice (some ⟨w1.heap.size, 0, none⟩) n n]) := by
      have := Box.new (w1.alloc (.cells (madeCells #[Value.int .i64 0] n) 2)) 35 #[.int .i64 3, .slice (some ⟨w1.heap.size, 0, none⟩) n n]
      rw [World.size_alloc] at this
      exact this.alloc _
    have T2 : Hid (Box (((w1.alloc (.cells (madeCells #[Value.int .i64 0] n) 2)).alloc (.cells #[.int .i64 3, .slice (some ⟨w1.heap.size, 0, none⟩) n n] 35)).alloc (.cells #[.int .i64 0, .int .i64 1, .int .i64 2] 59)) (w1.heap.size + 1 + 1) 59 #[.int .i64 0, .int .i64 1, .int .i64 2]) := by
      have := Box.new ((w1.alloc (.cells (madeCells #[Value.int .i64 0] n) 2)).alloc (.cells #[.int .i64 3, .slice (some ⟨w1.heap.size, 0, none⟩) n n] 35)) 59 #[.int .i64 0, .int .i64 1, .int .i64 2]
      rwa [World.size_alloc, World.size_alloc] at this
    have R2 := Lib.hid (((World.rowIs_made w1 (.int .i64 0) n 2).alloc (.cells #[.int .i64 3, .slice (some ⟨w1.heap.size, 0, none⟩) n n] 35)).alloc (.cells #[.int .i64 0, .int .i64 1, .int .i64 2] 59))
    have HB2 := Lib.hid (((HB1.out.alloc (by omega) (.cells (madeCells #[Value.int .i64 0] n) 2)).alloc (by simp; omega) (.cells #[.int .i64 3, .slice (some ⟨w1.heap.size, 0, none⟩) n n] 35)).alloc (by simp; omega) (.cells #[.int .i64 0, .int .i64 1, .int .i64 2] 59))
    go_wp2
    clear hmk hz'
    go_loopw [7, 8] (fun i _ wr => ∃ m : Nat, m ≤ n ∧ i = .int .i64 ((m : Int) - 1) ∧ Box wr w.heap.size 35 #[.int .i64 0, .slice none 0 0] ∧ Box wr (w1.heap.size + 1) 35 #[.int .i64 3, .slice (some ⟨w1.heap.size, 0, none⟩) n n] ∧ Box wr (w1.heap.size + 1 + 1) 59 #[.int .i64 (ltrW (L.drop m)).1, .int .i64 (ltrW (L.drop m)).2.1, .int .i64 (ltrW (L.drop m)).2.2] ∧ wr.rowIs w1.heap.size 2 n (downto (sowL L) m) ∧ Below w.heap.size w wr) (fun i _ _ => (intOf i + 1).toNat)
    case atStart =>
      refine ⟨n, Nat.le_refl _, rfl, X2.out, S2.out, ?_, R2.out.congr (fun i hi => by simp [downto, hi]), HB2.out⟩
      rw [List.drop_of_length_le (by rw [HL.out]; exact Nat.le_refl _)]
      exact T2.out
    case round =>
      obtain ⟨m, hm, rfl, hx, hsx, ht, hr, hb⟩ := hrel
      have hlt1 := ht.lt
      clear X2 S2 T2 R2 HB2
      cases m with
      | zero =>
        obtain ⟨x0, x1, f0, f1⟩ := hx.two
        obtain ⟨s0, s1, _, _⟩ := hsx.two
        have HX := Lib.hid hx
        have HR := Lib.hid hr
        have HB := Lib.hid hb
        clear hx ht hr hb hsx
        go_wp2
        have hb3 : Hid (Box ((wr.setCell ⟨w.heap.size, 0, none⟩ (.int .i64 3)).setCell ⟨w.heap.size, 1, none⟩ (.slice (some ⟨w1.heap.size, 0, none⟩) n n)) w.heap.size 35 #[.int .i64 3, .slice (some ⟨w1.heap.size, 0, none⟩) n n]) := (HX.out.set 0 _).set 1 _
        obtain ⟨z0, z1, _, _⟩ := hb3.out.two
        have HRR := Lib.hid ((HR.out.setOther (a := ⟨w.heap.size, 0, none⟩) (by show w1.heap.size ≠ w.heap.size; omega) (.int .i64 3)).setOther (a := ⟨w.heap.size, 1, none⟩) (by show w1.heap.size ≠ w.heap.size; omega) (.slice (some ⟨w1.heap.size, 0, none⟩) n n))
        refine bodyPost_ret (v := .tuple #[.agg #[.int .i64 3, .slice (some ⟨w1.heap.size, 0, none⟩) n n], .int .i64 0]) (by simp [results, Try.results25, go_sem, z0, z1]) rfl ⟨some ⟨w1.heap.size, 0, none⟩, n, by rw [HWL.out], ?_, (HB.out.setCell (Nat.le_refl _) _).setCell (Nat.le_refl _) _⟩
        have hro : Row ((wr.setCell ⟨w.heap.size, 0, none⟩ (.int .i64 3)).setCell ⟨w.heap.size, 1, none⟩ (.slice (some ⟨w1.heap.size, 0, none⟩) n n)) w1.heap.size 2 (sowL L) := by
          unfold Row
          rw [HWL.out]
          exact HRR.out.congr (fun i hi => by simp [downto])
        have := hro.own (B := w.heap.size) (by omega) (by rw [HWL.out]; omega)
        rw [HWL.out] at this ⊢
        exact this
      | succ d =>
        have hd : d < L.length := by rw [HL.out]; omega
        have hx2 := state_at HS.out d hd
        have HLD := Lib.hid (ltrW_drop hd)
        have HWA := Lib.hid (sowL_at L d hd)
        obtain ⟨ad, rfl, had, hc0⟩ := HIw.out d hd
        have hc : wr.cell? (ad.add d) = some (.int .i64 (L[d]?.getD 0)) := by
          rw [hb.cell (p := ad.add d) (by rw [add_block]; exact had), hc0]
          simp
        obtain ⟨t, hte⟩ : ∃ t, ltrW (L.drop (d + 1)) = t := ⟨_, rfl⟩
        have hok : okT t := by rw [← hte]; exact okT_ltrW _
        rw [hte] at ht HLD HWA
        have hi0 : (0 : Int) ≤ (d : Int) := by omega
        have hi1 : (d : Int) < (n : Int) := by omega
        have hi2 : ((d + 1 : Nat) : Int) - 1 = (d : Int) := by omega
        rw [hi2]
        have HDS := Lib.hid (downto_step (sowL L) d)
        have HT := Lib.hid ht
        clear hc0 hte hi2 hd
        have hxl := idxT_lt t (L[d]?.getD 0)
        go_wp2_with fail
        have HTd : Hid (Box wr.drew (w1.heap.size + 1 + 1) 59 #[.int .i64 t.1, .int .i64 t.2.1, .int .i64 t.2.2]) := ht
        refine wp_region_still_lit (by kernel_rfl) (by kernel_rfl) ?_
        repeat still_step
        still_call (stillC (sliceIndex_calls (w1.heap.size + 1 + 1) _ t (L[d]?.getD 0) _ hok (by omega) HTd.out))
        repeat still_step
        refine wpStill_nil ?_
        generalize idxT t (L[d]?.getD 0) = x at *
        have W0 : Hid (Box wr.drew w.heap.size 35 #[.int .i64 0, .slice none 0 0]) := hx
        have S0 : Hid (Box wr.drew (w1.heap.size + 1) 35 #[.int .i64 3, .slice (some ⟨w1.heap.size, 0, none⟩) n n]) := hsx
        have R0 : Hid (wr.drew.rowIs w1.heap.size 2 n (downto (sowL L) (d + 1))) := hr
        have HB0 : Hid (Below w.heap.size w wr.drew) := Lib.hid hb.drew
        change Exit.then _ _ _ _ wr.drew
        generalize wr.drew = wd at *
        have hfz := R0.out.frozen d
        have hold := R0.out.cell (i := d) (by omega)
        have T1 := Lib.hid (show Box (wd.setCell ⟨w1.heap.size, d, none⟩ (.int .i64 x)) (w1.heap.size + 1 + 1) 59 #[.int .i64 t.1, .int .i64 t.2.1, .int .i64 t.2.2] from HTd.out.other (by show w1.heap.size + 1 + 1 ≠ w1.heap.size; omega) _)
        have W1' := Lib.hid (show Box (wd.setCell ⟨w1.heap.size, d, none⟩ (.int .i64 x)) w.heap.size 35 #[.int .i64 0, .slice none 0 0] from W0.out.other (by show w.heap.size ≠ w1.heap.size; omega) _)
        have S1 := Lib.hid (show Box (wd.setCell ⟨w1.heap.size, d, none⟩ (.int .i64 x)) (w1.heap.size + 1) 35 #[.int .i64 3, .slice (some ⟨w1.heap.size, 0, none⟩) n n] from S0.out.other (by show w1.heap.size + 1 ≠ w1.heap.size; omega) _)
        have R1 := Lib.hid (R0.out.set d (.int .i64 x))
        have HB1' := Lib.hid (show Below w.heap.size w (wd.setCell ⟨w1.heap.size, d, none⟩ (.int .i64 x)) from HB0.out.setCell (by show w.heap.size ≤ w1.heap.size; omega) _)
        obtain ⟨s0, s1, _, _⟩ := S0.out.two
        obtain ⟨t0, t1, t2⟩ := T1.out.three
        have hszw : w.heap.size ≤ (wd.setCell ⟨w1.heap.size, d, none⟩ (.int .i64 x)).heap.size := HB1'.out.size
        clear hx hsx ht hr hb HT HTd W0 S0 R0 HB0
        go_wp2_with fail
        refine (othersExchanged_calls t x _ (by omega)).mono ?_
        rintro e w3 ⟨rfl, hb3⟩
        have T3 := Lib.hid (T1.out.below hb3 T1.out.lt)
        have W3 := Lib.hid (W1'.out.below hb3 W1'.out.lt)
        have S3 := Lib.hid (S1.out.below hb3 S1.out.lt)
        have R3 := Lib.hid (R1.out.of_block (hb3.block _ R1.out.lt))
        have HB3 := Lib.hid (HB1'.out.trans (hb3.mono hszw))
        clear hb3 t0 t1 t2 s0 s1 hszw T1 W1' S1 R1 HB1'
        obtain ⟨t0, t1, t2⟩ := T3.out.three
        have g0 := T3.out.frozen 0
        have g1 := T3.out.frozen 1
        have g2 := T3.out.frozen 2
        go_wp2
        go_roundw
        case rel =>
          refine ⟨d, by omega, rfl, ?_, ?_, ?_, ?_, ?_⟩
          · exact ((W3.out.other (by show w.heap.size ≠ (w1.heap.size + 1 + 1); omega) _).other (by show w.heap.size ≠ (w1.heap.size + 1 + 1); omega) _).other (by show w.heap.size ≠ (w1.heap.size + 1 + 1); omega) _
          · exact ((S3.out.other (by show w1.heap.size + 1 ≠ (w1.heap.size + 1 + 1); omega) _).other (by show w1.heap.size + 1 ≠ (w1.heap.size + 1 + 1); omega) _).other (by show w1.heap.size + 1 ≠ (w1.heap.size + 1 + 1); omega) _
          · rw [HLD.out]
            exact ((T3.out.set 0 _).set 1 _).set 2 _
          · exact (((R3.out.setOther (by show w1.heap.size ≠ (w1.heap.size + 1 + 1); omega) _).setOther (by show w1.heap.size ≠ (w1.heap.size + 1 + 1); omega) _).setOther (by show w1.heap.size ≠ (w1.heap.size + 1 + 1); omega) _).congr (fun j _ => by rw [← HDS.out j, HWA.out])
          · exact ((HB3.out.setCell (by show w.heap.size ≤ (w1.heap.size + 1 + 1); omega) _).setCell (by show w.heap.size ≤ (w1.heap.size + 1 + 1); omega) _).setCell (by show w.heap.size ≤ (w1.heap.size + 1 + 1); omega) _
        case measure => simp [intOf]
  · have hs' : stateB 3 L = false := by simpa using hs
    obtain ⟨q1, q2, q3⟩ := sow_no hs'
    have hz' : (wcode 3 L != 0) = true := by rw [q3]; rfl
    rw [q1, q2]
    clear hL q1 q2 q3 hs
    go_enter Try.func25, Try.ntmps25
    go_wp2_with fail
    refine (codeOfWords_one (w.heap.size + 1) 3 A n c L _ Y0.out HL.out hn HI0.out).mono ?_
    rintro e w1 ⟨rfl, hb1⟩
    have X1 := Lib.hid (X0.out.below hb1 X0.out.lt)
    have HB1 := Lib.hid (HB0.out.trans (hb1.mono HB0.out.size))
    clear hb1
    obtain ⟨x0, x1, f0, f1⟩ := X1.out.two
    go_wp2
    have hb3 : Hid (Box ((w1.setCell ⟨w.heap.size, 0, none⟩ (.int .i64 0)).setCell ⟨w.heap.size, 1, none⟩ (.slice none 0 0)) w.heap.size 35 #[.int .i64 0, .slice none 0 0]) := (X1.out.set 0 _).set 1 _
    obtain ⟨z0, z1, _, _⟩ := hb3.out.two
    refine bodyPost_ret (v := .tuple #[.agg #[.int .i64 0, .slice none 0 0], .int .i64 (wcode 3 L)]) (by simp [results, Try.results25, go_sem, z0, z1]) rfl ⟨none, 0, rfl, Own.nilS _ _, ?_⟩
    exact (HB1.out.setCell (Nat.le_refl _) _).setCell (Nat.le_refl _) _

def SMade (w1 : World) (n : Nat) (t4 t5 : Value) (wc : World) : Prop :=
  ∃ gl go gs : Nat, t4 = .slice (some ⟨gl, 0, none⟩) 3 3 ∧ t5 = .pointer (some ⟨gs, 0, none⟩) ∧ gl ≠ go ∧ gs ≠ gl ∧ gs ≠ go ∧ w1.heap.size ≤ gl ∧ w1.heap.size ≤ go ∧ w1.heap.size ≤ gs ∧ Box wc gl 2 #[.int .i64 0, .int .i64 1, .int .i64 2] ∧ wc.rowIs go 2 n (fun _ => .int .i64 0) ∧ Box wc gs 35 #[.int .i64 3, .slice (some ⟨go, 0, none⟩) n n] ∧ Below w1.heap.size w1 wc

theorem rowMade {w : World} {b t n : Nat} {z : Value} (h : w.heap[b]? = some (.cells (madeCells #[z] n) t (0, 0))) : w.rowIs b t n (fun _ => z) :=
  ⟨_, h, size_madeCells _ _, fun i hi => by simp [madeCells, hi, Nat.mod_one]⟩
theorem alloc3 (w : World) (o1 o2 o3 : Obj) : (((w.alloc o1).alloc o2).alloc o3).drew.heap[w.heap.size]? = some o1 ∧ (((w.alloc o1).alloc o2).alloc o3).drew.heap[w.heap.size + 1]? = some o2 ∧ (((w.alloc o1).alloc o2).alloc o3).drew.heap[w.heap.size + 1 + 1]? = some o3 ∧ Below w.heap.size w (((w.alloc o1).alloc o2).alloc o3).drew := by
  have e1 : (w.alloc o1).heap.size = w.heap.size + 1 := World.size_alloc _ _
  have e2 : ((w.alloc o1).alloc o2).heap.size = w.heap.size + 1 + 1 := by rw [World.size_alloc, e1]
  refine ⟨?_, ?_, ?_, ((((Below.refl _ _).alloc (Nat.le_refl _) _).alloc (by omega) _).alloc (by omega) _).drew⟩
  · show (((w.alloc o1).alloc o2).alloc o3).heap[w.heap.size]? = some o1
    rw [Below.heap_alloc _ _ _ (by omega), Below.heap_alloc _ _ _ (by omega)]
    exact heap_alloc_new w o1
  · show (((w.alloc o1).alloc o2).alloc o3).heap[w.heap.size + 1]? = some o2
    rw [Below.heap_alloc _ _ _ (by omega), ← e1]
    exact heap_alloc_new (w.alloc o1) o2
  · show (((w.alloc o1).alloc o2).alloc o3).heap[w.heap.size + 1 + 1]? = some o3
    rw [← e2]
    exact heap_alloc_new ((w.alloc o1).alloc o2) o3

set_option maxHeartbeats 4000000 in
theorem specStateOfWord_ret (A : Option Addr) (n c : Nat) (L : List Int) (w : World) (hL : L.length = n) (hn : n ≤ 1048576) (hI : Ints w A L) :
    Calls Try.prog 24 #[.slice A n c] w (RetState w (sowP L) (sowV L).length (sowV L) (wcode 3 L)) := by
  have HL := Lib.hid hL
  have X0 := Lib.hid (Box.new w 35 #[.int .i64 0, .slice none 0 0])
  have HB0 := Lib.hid ((Below.refl w.heap.size w).alloc (Nat.le_refl _) (.cells #[.int .i64 0, .slice none 0 0] 35))
  have HI0 := Lib.hid (hI.below HB0.out)
  have HIw := Lib.hid hI
  clear hI
  have hsz : w.heap.size < (w.alloc (.cells #[.int .i64 0, .slice none 0 0] 35)).heap.size := X0.out.lt
  by_cases hs : stateB 3 L = true
  · obtain ⟨q1, q2, q3⟩ := sow_yes hs
    have hf := state_facts hs hL
    have HS := Lib.hid hs
    rw [q1, q2, q3]
    have HWL := Lib.hid ((sowL_len L).trans hL)
    have hmk := run_make_row' (P := Try.prog) 22 2 (.int .i64 0) 8 Try.underlying22 Try.infoI rfl .i64 .i64 n (by omega) (by omega)
    clear hL q1 q2 q3
    go_enter Try.func24, Try.ntmps24
    go_wp2_with fail
    refine (l04Is_calls 3 A n c L _ HL.out hn HI0.out).mono ?_
    rintro e w' ⟨rfl, rfl⟩
    generalize w.alloc (.cells #[.int .i64 0, .slice none 0 0] 35) = w1 at *
    go_upto_region 3 with (fail)
    go_cut [4, 5] (fun t4 t5 wc => SMade w1 n t4 t5 wc)
    case first =>
      go_region
      all_goals
        go_wp2_with fail
        go_meet
        case rel =>
          first
          | exact ⟨w1.heap.size, w1.heap.size + 1, w1.heap.size + 1 + 1, rfl, rfl, by omega, by omega, by omega, by omega, by omega, by omega, (by first | exact (alloc3 w1 _ _ _).1 | exact (alloc3 w1 _ _ _).2.1 | exact (alloc3 w1 _ _ _).2.2.1), rowMade (by first | exact (alloc3 w1 _ _ _).1 | exact (alloc3 w1 _ _ _).2.1 | exact (alloc3 w1 _ _ _).2.2.1), (by first | exact (alloc3 w1 _ _ _).1 | exact (alloc3 w1 _ _ _).2.1 | exact (alloc3 w1 _ _ _).2.2.1), (alloc3 w1 _ _ _).2.2.2⟩
          | exact ⟨w1.heap.size, w1.heap.size + 1 + 1, w1.heap.size + 1, rfl, rfl, by omega, by omega, by omega, by omega, by omega, by omega, (by first | exact (alloc3 w1 _ _ _).1 | exact (alloc3 w1 _ _ _).2.1 | exact (alloc3 w1 _ _ _).2.2.1), rowMade (by first | exact (alloc3 w1 _ _ _).1 | exact (alloc3 w1 _ _ _).2.1 | exact (alloc3 w1 _ _ _).2.2.1), (by first | exact (alloc3 w1 _ _ _).1 | exact (alloc3 w1 _ _ _).2.1 | exact (alloc3 w1 _ _ _).2.2.1), (alloc3 w1 _ _ _).2.2.2⟩
          | exact ⟨w1.heap.size + 1, w1.heap.size, w1.heap.size + 1 + 1, rfl, rfl, by omega, by omega, by omega, by omega, by omega, by omega, (by first | exact (alloc3 w1 _ _ _).1 | exact (alloc3 w1 _ _ _).2.1 | exact (alloc3 w1 _ _ _).2.2.1), rowMade (by first | exact (alloc3 w1 _ _ _).1 | exact (alloc3 w1 _ _ _).2.1 | exact (alloc3 w1 _ _ _).2.2.1), (by first | exact (alloc3 w1 _ _ _).1 | exact (alloc3 w1 _ _ _).2.1 | exact (alloc3 w1 _ _ _).2.2.1), (alloc3 w1 _ _ _).2.2.2⟩
          | exact ⟨w1.heap.size + 1, w1.heap.size + 1 + 1, w1.heap.size, rfl, rfl, by omega, by omega, by omega, by omega, by omega, by omega, (by first | exact (alloc3 w1 _ _ _).1 | exact (alloc3 w1 _ _ _).2.1 | exact (alloc3 w1 _ _ _).2.2.1), rowMade (by first | exact (alloc3 w1 _ _ _).1 | exact (alloc3 w1 _ _ _).2.1 | exact (alloc3 w1 _ _ _).2.2.1), (by first | exact (alloc3 w1 _ _ _).1 | exact (alloc3 w1 _ _ _).2.1 | exact (alloc3 w1 _ _ _).2.2.1), (alloc3 w1 _ _ _).2.2.2⟩
          | exact ⟨w1.heap.size + 1 + 1, w1.heap.size, w1.heap.size + 1, rfl, rfl, by omega, by omega, by omega, by omega, by omega, by omega, (by first | exact (alloc3 w1 _ _ _).1 | exact (alloc3 w1 _ _ _).2.1 | exact (alloc3 w1 _ _ _).2.2.1), rowMade (by first | exact (alloc3 w1 _ _ _).1 | exact (alloc3 w1 _ _ _).2.1 | exact (alloc3 w1 _ _ _).2.2.1), (by first | exact (alloc3 w1 _ _ _).1 | exact (alloc3 w1 _ _ _).2.1 | exact (alloc3 w1 _ _ _).2.2.1), (alloc3 w1 _ _ _).2.2.2⟩
          | exact ⟨w1.heap.size + 1 + 1, w1.heap.size + 1, w1.heap.size, rfl, rfl, by omega, by omega, by omega, by omega, by omega, by omega, (by first | exact (alloc3 w1 _ _ _).1 | exact (alloc3 w1 _ _ _).2.1 | exact (alloc3 w1 _ _ _).2.2.1), rowMade (by first | exact (alloc3 w1 _ _ _).1 | exact (alloc3 w1 _ _ _).2.1 | exact (alloc3 w1 _ _ _).2.2.1), (by first | exact (alloc3 w1 _ _ _).1 | exact (alloc3 w1 _ _ _).2.1 | exact (alloc3 w1 _ _ _).2.2.1), (alloc3 w1 _ _ _).2.2.2⟩
    case rest =>
      obtain ⟨gl, go, gs, rfl, rfl, hne, hgsl, hgso, hgl, hgo, hgs, hbx, hrow, hst, hbel⟩ := hcut
      have X2 := Lib.hid (X0.out.below hbel X0.out.lt)
      have T2 := Lib.hid hbx
      have R2 := Lib.hid hrow
      have S2 := Lib.hid hst
      have HB2 := Lib.hid (HB0.out.trans (hbel.mono HB0.out.size))
      clear hbx hrow hbel hst hmk hs X0 HB0 HI0
      go_wp2
      go_loopw [6, 7, 8, 9, 10] (fun i _ _ _ _ wr => ∃ m : Nat, m ≤ n ∧ i = .int .i64 ((m : Int) - 1) ∧ Box wr w.heap.size 35 #[.int .i64 0, .slice none 0 0] ∧ Box wr gs 35 #[.int .i64 3, .slice (some ⟨go, 0, none⟩) n n] ∧ Box wr gl 2 #[.int .i64 (ltrW (L.drop m)).1, .int .i64 (ltrW (L.drop m)).2.1, .int .i64 (ltrW (L.drop m)).2.2] ∧ wr.rowIs go 2 n (downto (sowL L) m) ∧ Below w.heap.size w wr) (fun i _ _ _ _ _ => (intOf i + 1).toNat)
      case atStart =>
        refine ⟨n, Nat.le_refl _, rfl, X2.out, S2.out, ?_, R2.out.congr (fun i hi => by simp [downto, hi]), HB2.out⟩
        rw [List.drop_of_length_le (by rw [HL.out]; exact Nat.le_refl _)]
        exact T2.out
      case round =>
        obtain ⟨m, hm, rfl, hx, hsx, ht, hr, hb⟩ := hrel
        clear X2 S2 T2 R2 HB2
        cases m with
        | zero =>
          obtain ⟨x0, x1, f0, f1⟩ := hx.two
          obtain ⟨s0, s1, _, _⟩ := hsx.two
          have HX := Lib.hid hx
          have HR := Lib.hid hr
          have HB := Lib.hid hb
          clear hx ht hr hb hsx
          go_wp2
          have hb3 : Hid (Box ((wr.setCell ⟨w.heap.size, 0, none⟩ (.int .i64 3)).setCell ⟨w.heap.size, 1, none⟩ (.slice (some ⟨go, 0, none⟩) n n)) w.heap.size 35 #[.int .i64 3, .slice (some ⟨go, 0, none⟩) n n]) := (HX.out.set 0 _).set 1 _
          obtain ⟨z0, z1, _, _⟩ := hb3.out.two
          have HRR := Lib.hid ((HR.out.setOther (a := ⟨w.heap.size, 0, none⟩) (by show go ≠ w.heap.size; omega) (.int .i64 3)).setOther (a := ⟨w.heap.size, 1, none⟩) (by show go ≠ w.heap.size; omega) (.slice (some ⟨go, 0, none⟩) n n))
          refine bodyPost_ret (v := .tuple #[.agg #[.int .i64 3, .slice (some ⟨go, 0, none⟩) n n], .int .i64 0]) (by simp [results, Try.results24, go_sem, z0, z1]) rfl ⟨some ⟨go, 0, none⟩, n, by rw [HWL.out], ?_, (HB.out.setCell (Nat.le_refl _) _).setCell (Nat.le_refl _) _⟩
          have hro : Row ((wr.setCell ⟨w.heap.size, 0, none⟩ (.int .i64 3)).setCell ⟨w.heap.size, 1, none⟩ (.slice (some ⟨go, 0, none⟩) n n)) go 2 (sowL L) := by
            unfold Row
            rw [HWL.out]
            exact HRR.out.congr (fun i hi => by simp [downto])
          have := hro.own (B := w.heap.size) (by omega) (by rw [HWL.out]; omega)
          rw [HWL.out] at this ⊢
          exact this
        | succ d =>
          have hd : d < L.length := by rw [HL.out]; omega
          have hx2 := state_at HS.out d hd
          have HLD := Lib.hid (ltrW_drop hd)
          have HWA := Lib.hid (sowL_at L d hd)
          obtain ⟨ad, rfl, had, hc0⟩ := HIw.out d hd
          have hc : wr.cell? (ad.add d) = some (.int .i64 (L[d]?.getD 0)) := by
            rw [hb.cell (p := ad.add d) (by rw [add_block]; exact had), hc0]
            simp
          obtain ⟨t, hte⟩ : ∃ t, ltrW (L.drop (d + 1)) = t := ⟨_, rfl⟩
          have hok : okT t := by rw [← hte]; exact okT_ltrW _
          rw [hte] at ht HLD HWA
          have hi0 : (0 : Int) ≤ (d : Int) := by omega
          have hi1 : (d : Int) < (n : Int) := by omega
          have hi2 : ((d + 1 : Nat) : Int) - 1 = (d : Int) := by omega
          rw [hi2]
          have HDS := Lib.hid (downto_step (sowL L) d)
          have hx3 := idxT_lt t (L[d]?.getD 0)
          have HEQ := Lib.hid (idxT_at hok (v := L[d]?.getD 0) (by omega))
          have HNE := Lib.hid (fun j => idxT_ne (t := t) (v := L[d]?.getD 0) (j := j))
          clear hc0 hte hi2 hd
          generalize idxT t (L[d]?.getD 0) = x at *
          generalize L[d]?.getD 0 = v at *
          have HX := Lib.hid hx
          have HSX := Lib.hid hsx
          have HT := Lib.hid ht
          have HR := Lib.hid hr
          have HB := Lib.hid hb
          clear hx hsx ht hr hb hok
          go_wp2
          go_loopw [7] (fun a wi => ∃ j : Nat, j ≤ x ∧ a = .int .i64 j ∧ ∃ k, wi = wr.drewN k) (fun a _ => 3 - (intOf a).toNat)
          case atStart => exact ⟨0, Nat.zero_le _, rfl, 0, rfl⟩
          case round =>
            obtain ⟨j, hj, rfl, k0, rfl⟩ := hrel
            have hj3 : (j : Int) < 3 := by omega
            have hj0 : (0 : Int) ≤ (j : Int) := by omega
            have hcj := three_at HT.out (x := j) (by omega)
            by_cases hlt : j < x
            · have hdd : (selT t j != v) = true := by have := HNE.out j hlt; simpa using this
              go_wp2_with fail
              go_quiet (fail)
              go_wp2
              go_roundw
              case rel => exact ⟨j + 1, by omega, by go_num, by first | exact ⟨_, rfl⟩ | exact ⟨_, World.drewN_drewN _ _ _⟩⟩
              case measure => simp [intOf]; omega
            · obtain rfl : j = x := by omega
              have hdd : (selT t j != v) = false := by rw [HEQ.out]; simp
              go_wp2_with fail
              go_quiet (fail)
              have W0 : Hid (Box ((wr.drewN k0).drewN nq) w.heap.size 35 #[.int .i64 0, .slice none 0 0]) := HX.out
              have S0 : Hid (Box ((wr.drewN k0).drewN nq) gs 35 #[.int .i64 3, .slice (some ⟨go, 0, none⟩) n n]) := HSX.out
              have T0 : Hid (Box ((wr.drewN k0).drewN nq) gl 2 #[.int .i64 t.1, .int .i64 t.2.1, .int .i64 t.2.2]) := HT.out
              have R0 : Hid (((wr.drewN k0).drewN nq).rowIs go 2 n (downto (sowL L) (d + 1))) := HR.out
              have HB0 : Hid (Below w.heap.size w ((wr.drewN k0).drewN nq)) := Lib.hid (belowDraws (belowDraws HB.out _) _)
              clear hc hcj hdd HX HSX HT HR HB HNE HEQ
              generalize (wr.drewN k0).drewN nq = wd at *
              have hfz := R0.out.frozen d
              have hold := R0.out.cell (i := d) (by omega)
              have hjj : j = 0 ∨ j = 1 ∨ j = 2 := by omega
              clear hj hlt hj3 hj0 hx3
              rcases hjj with rfl | rfl | rfl
              · have T1 := Lib.hid (show Box (wd.setCell ⟨go, d, none⟩ (.int .i64 0)) gl 2 #[.int .i64 t.1, .int .i64 t.2.1, .int .i64 t.2.2] from T0.out.other (by exact hne) _)
                have T2 := Lib.hid (show Box ((wd.setCell ⟨go, d, none⟩ (.int .i64 0)).setCell ⟨gl, 1, none⟩ (.int .i64 t.2.2)) gl 2 ((#[.int .i64 t.1, .int .i64 t.2.1, .int .i64 t.2.2] : Array Value).setIfInBounds 1 (.int .i64 t.2.2)) from T1.out.set 1 _)
                have W1' := Lib.hid (show Box (wd.setCell ⟨go, d, none⟩ (.int .i64 0)) w.heap.size 35 #[.int .i64 0, .slice none 0 0] from W0.out.other (by show w.heap.size ≠ go; omega) _)
                have S1 := Lib.hid (show Box (wd.setCell ⟨go, d, none⟩ (.int .i64 0)) gs 35 #[.int .i64 3, .slice (some ⟨go, 0, none⟩) n n] from S0.out.other (by exact hgso) _)
                have R1 := Lib.hid (R0.out.set d (.int .i64 0))
                have HB1' := Lib.hid (show Below w.heap.size w (wd.setCell ⟨go, d, none⟩ (.int .i64 0)) from HB0.out.setCell (by show w.heap.size ≤ go; omega) _)
                obtain ⟨s0, s1, _, _⟩ := S0.out.two
                obtain ⟨t0, t1, t2⟩ := T1.out.three
                have f0 := T1.out.frozen 1
                have f1 := T2.out.frozen 2
                clear W0 S0 T0 R0 HB0
                go_wp2
                go_roundw
                case rel =>
                  refine ⟨d, by omega, rfl, ?_, ?_, ?_, ?_, ?_⟩
                  · exact (W1'.out.other (by show w.heap.size ≠ gl; omega) _).other (by show w.heap.size ≠ gl; omega) _
                  · exact (S1.out.other (by exact hgsl) _).other (by exact hgsl) _
                  · rw [HLD.out]
                    exact T2.out.set 2 _
                  · exact ((R1.out.setOther (by exact fun e => hne e.symm) _).setOther (by exact fun e => hne e.symm) _).congr (fun j _ => by rw [← HDS.out j, HWA.out]; rfl)
                  · exact (HB1'.out.setCell (by show w.heap.size ≤ gl; omega) _).setCell (by show w.heap.size ≤ gl; omega) _
                case measure => simp [intOf]
              · have T1 := Lib.hid (show Box (wd.setCell ⟨go, d, none⟩ (.int .i64 1)) gl 2 #[.int .i64 t.1, .int .i64 t.2.1, .int .i64 t.2.2] from T0.out.other (by exact hne) _)
                have T2 := Lib.hid (show Box ((wd.setCell ⟨go, d, none⟩ (.int .i64 1)).setCell ⟨gl, 2, none⟩ (.int .i64 t.1)) gl 2 ((#[.int .i64 t.1, .int .i64 t.2.1, .int .i64 t.2.2] : Array Value).setIfInBounds 2 (.int .i64 t.1)) from T1.out.set 2 _)
                have W1' := Lib.hid (show Box (wd.setCell ⟨go, d, none⟩ (.int .i64 1)) w.heap.size 35 #[.int .i64 0, .slice none 0 0] from W0.out.other (by show w.heap.size ≠ go; omega) _)
                have S1 := Lib.hid (show Box (wd.setCell ⟨go, d, none⟩ (.int .i64 1)) gs 35 #[.int .i64 3, .slice (some ⟨go, 0, none⟩) n n] from S0.out.other (by exact hgso) _)
                have R1 := Lib.hid (R0.out.set d (.int .i64 1))
                have HB1' := Lib.hid (show Below w.heap.size w (wd.setCell ⟨go, d, none⟩ (.int .i64 1)) from HB0.out.setCell (by show w.heap.size ≤ go; omega) _)
                obtain ⟨s0, s1, _, _⟩ := S0.out.two
                obtain ⟨t0, t1, t2⟩ := T1.out.three
                have f0 := T1.out.frozen 2
                have f1 := T2.out.frozen 0
                clear W0 S0 T0 R0 HB0
                go_wp2
                go_roundw
                case rel =>
                  refine ⟨d, by omega, rfl, ?_, ?_, ?_, ?_, ?_⟩
                  · exact (W1'.out.other (by show w.heap.size ≠ gl; omega) _).other (by show w.heap.size ≠ gl; omega) _
                  · exact (S1.out.other (by exact hgsl) _).other (by exact hgsl) _
                  · rw [HLD.out]
                    exact T2.out.set 0 _
                  · exact ((R1.out.setOther (by exact fun e => hne e.symm) _).setOther (by exact fun e => hne e.symm) _).congr (fun j _ => by rw [← HDS.out j, HWA.out]; rfl)
                  · exact (HB1'.out.setCell (by show w.heap.size ≤ gl; omega) _).setCell (by show w.heap.size ≤ gl; omega) _
                case measure => simp [intOf]
              · have T1 := Lib.hid (show Box (wd.setCell ⟨go, d, none⟩ (.int .i64 2)) gl 2 #[.int .i64 t.1, .int .i64 t.2.1, .int .i64 t.2.2] from T0.out.other (by exact hne) _)
                have T2 := Lib.hid (show Box ((wd.setCell ⟨go, d, none⟩ (.int .i64 2)).setCell ⟨gl, 0, none⟩ (.int .i64 t.2.1)) gl 2 ((#[.int .i64 t.1, .int .i64 t.2.1, .int .i64 t.2.2] : Array Value).setIfInBounds 0 (.int .i64 t.2.1)) from T1.out.set 0 _)
                have W1' := Lib.hid (show Box (wd.setCell ⟨go, d, none⟩ (.int .i64 2)) w.heap.size 35 #[.int .i64 0, .slice none 0 0] from W0.out.other (by show w.heap.size ≠ go; omega) _)
                have S1 := Lib.hid (show Box (wd.setCell ⟨go, d, none⟩ (.int .i64 2)) gs 35 #[.int .i64 3, .slice (some ⟨go, 0, none⟩) n n] from S0.out.other (by exact hgso) _)
                have R1 := Lib.hid (R0.out.set d (.int .i64 2))
                have HB1' := Lib.hid (show Below w.heap.size w (wd.setCell ⟨go, d, none⟩ (.int .i64 2)) from HB0.out.setCell (by show w.heap.size ≤ go; omega) _)
                obtain ⟨s0, s1, _, _⟩ := S0.out.two
                obtain ⟨t0, t1, t2⟩ := T1.out.three
                have f0 := T1.out.frozen 0
                have f1 := T2.out.frozen 1
                clear W0 S0 T0 R0 HB0
                go_wp2
                go_roundw
                case rel =>
                  refine ⟨d, by omega, rfl, ?_, ?_, ?_, ?_, ?_⟩
                  · exact (W1'.out.other (by show w.heap.size ≠ gl; omega) _).other (by show w.heap.size ≠ gl; omega) _
                  · exact (S1.out.other (by exact hgsl) _).other (by exact hgsl) _
                  · rw [HLD.out]
                    exact T2.out.set 1 _
                  · exact ((R1.out.setOther (by exact fun e => hne e.symm) _).setOther (by exact fun e => hne e.symm) _).congr (fun j _ => by rw [← HDS.out j, HWA.out]; rfl)
                  · exact (HB1'.out.setCell (by show w.heap.size ≤ gl; omega) _).setCell (by show w.heap.size ≤ gl; omega) _
                case measure => simp [intOf]
  · have hs' : stateB 3 L = false := by simpa using hs
    obtain ⟨q1, q2, q3⟩ := sow_no hs'
    rw [q1, q2, q3]
    clear hL q1 q2 q3 hs
    obtain ⟨x0, x1, f0, f1⟩ := X0.out.two
    go_enter Try.func24, Try.ntmps24
    go_wp2_with fail
    refine (l04Is_calls 3 A n c L _ HL.out hn HI0.out).mono ?_
    rintro e w' ⟨rfl, rfl⟩
    generalize w.alloc (.cells #[.int .i64 0, .slice none 0 0] 35) = w1 at *
    go_wp2
    have hb3 : Hid (Box ((w1.setCell ⟨w.heap.size, 0, none⟩ (.int .i64 0)).setCell ⟨w.heap.size, 1, none⟩ (.slice none 0 0)) w.heap.size 35 #[.int .i64 0, .slice none 0 0]) := (X0.out.set 0 _).set 1 _
    obtain ⟨z0, z1, _, _⟩ := hb3.out.two
    refine bodyPost_ret (v := .tuple #[.agg #[.int .i64 0, .slice none 0 0], .int .i64 2]) (by simp [results, Try.results24, go_sem, z0, z1]) rfl ⟨none, 0, rfl, Own.nilS _ _, ?_⟩
    exact (HB0.out.setCell (Nat.le_refl _) _).setCell (Nat.le_refl _) _

end Go.Proofs.Ytnfjdggiaodhmaa
