/- Contracts: ParseMove, by the specification's model and by the program. -/
import Derived.Test.YteokldpodaknpaaSplit
import Derived.Deep.RegionHeld3
import Derived.Deep.DeepCutAuto
import Derived.Deep.RegionWith
namespace Go.Proofs.Yteokldpodaknpaa
open Go.RowKit
set_option linter.unusedVariables false

theorem size_part (s : ByteArray) (a b : Nat) (h : b ≤ s.size) : (s.extract a b).size = b - a := by rw [ByteArray.size_extract]; omega
theorem btN_part (s : ByteArray) (a b i : Nat) (h : b ≤ s.size) (hi : a + i < b) : btN (s.extract a b) i = btN s (a + i) := by
  unfold btN
  rw [List.getD_eq_getElem?_getD, List.getD_eq_getElem?_getD]
  simp only [ByteArray.data_extract, Array.toList_extract, List.extract_eq_take_drop]
  rw [List.getElem?_take, if_pos (by omega), List.getElem?_drop]
theorem splT_none {s : ByteArray} {b : Nat} (h : (rngT s b s.size).1 = []) : (splT s b).length = 1 := by unfold splT; rw [h]; rfl
theorem splT_more {s : ByteArray} {b : Nat} (h : 2 ≤ (rngT s b s.size).1.length) : 3 ≤ (splT s b).length := by unfold splT; rw [List.length_append]; simp; omega
theorem splT_two {s : ByteArray} {b p : Nat} (h : (rngT s b s.size).1 = [(0, p)]) (h' : (rngT s b s.size).2 = p + 1) : splT s b = [(0, p), (p + 1, s.size)] := by unfold splT; rw [h, h']; rfl

def mvT (s : ByteArray) : Prop := s.size = 5 ∧ btN s 1 = 58 ∧ btN s 3 = 62 ∧ (0 ≤ dgt s 0 ∧ dgt s 0 ≤ 7) ∧ (0 ≤ dgt s 2 ∧ dgt s 2 ≤ 4) ∧ (0 ≤ dgt s 4 ∧ dgt s 4 ≤ 4)
def mvB (s : ByteArray) : Bool := decide (s.size = 5 ∧ btN s 1 = 58 ∧ btN s 3 = 62 ∧ (0 ≤ dgt s 0 ∧ dgt s 0 ≤ 7) ∧ (0 ≤ dgt s 2 ∧ dgt s 2 ≤ 4) ∧ (0 ≤ dgt s 4 ∧ dgt s 4 ≤ 4))
theorem mvB_yes {s : ByteArray} (h : mvT s) : mvB s = true := decide_eq_true h
theorem mvB_no {s : ByteArray} (h : ¬ mvT s) : mvB s = false := decide_eq_false h
def pmV (s : ByteArray) (i : Nat) : Int := if mvB s = true then dgt s i else 0
def pmE (s : ByteArray) : Int := if mvB s = true then 0 else 6
/-- In a move's text 58 stands at 1 alone, 62 at 3 alone. -/
theorem mvT_58 {s : ByteArray} (h : mvT s) {p : Nat} (hp : p < s.size) (hb : btN s p = 58) : p = 1 := by
  obtain ⟨h5, h1, h3, h0, h2, h4⟩ := h
  rw [btN_dgt] at h0 h2 h4
  have : p = 0 ∨ p = 1 ∨ p = 2 ∨ p = 3 ∨ p = 4 := by omega
  rcases this with rfl | rfl | rfl | rfl | rfl <;> omega
theorem mvT_62 {s : ByteArray} (h : mvT s) {p : Nat} (hp : p < s.size) (hb : btN s p = 62) : p = 3 := by
  obtain ⟨h5, h1, h3, h0, h2, h4⟩ := h
  rw [btN_dgt] at h0 h2 h4
  have : p = 0 ∨ p = 1 ∨ p = 2 ∨ p = 3 ∨ p = 4 := by omega
  rcases this with rfl | rfl | rfl | rfl | rfl <;> omega

theorem l01Plain_calls (a b c : Int) (w : World) :
    Calls Try.prog 42 #[.agg #[.int .i64 a, .int .i64 b, .int .i64 c]] w fun e w' => e = .returned (.bool (inB a 0 7 && (inB b 0 4 && inB c 0 4))) ∧ Below w.heap.size w w' := by
  by_cases h1 : inB a 0 7 = true
  · by_cases h2 : inB b 0 4 = true
    · go_enter Try.func42, Try.ntmps42
      go_wp2_with fail
      refine (l01In_calls a 0 7 _).mono ?_
      rintro e w' ⟨rfl, rfl⟩
      go_wp2_with fail
      refine (l01In_calls b 0 4 _).mono ?_
      rintro e w' ⟨rfl, rfl⟩
      go_wp2_with fail
      refine (l01In_calls c 0 4 _).mono ?_
      rintro e w' ⟨rfl, rfl⟩
      go_wp2
      go_ret
      exact ⟨ret_bool (by rw [h1, h2]; simp), (Below.refl _ _).alloc (Nat.le_refl _) _⟩
    · have h2' : inB b 0 4 = false := by simpa using h2
      clear h2
      go_enter Try.func42, Try.ntmps42
      go_wp2_with fail
      refine (l01In_calls a 0 7 _).mono ?_
      rintro e w' ⟨rfl, rfl⟩
      go_wp2_with fail
      refine (l01In_calls b 0 4 _).mono ?_
      rintro e w' ⟨rfl, rfl⟩
      go_wp2
      go_ret
      exact ⟨ret_bool (by rw [h1, h2']; simp), (Below.refl _ _).alloc (Nat.le_refl _) _⟩
  · have h1' : inB a 0 7 = false := by simpa using h1
    clear h1
    go_enter Try.func42, Try.ntmps42
    go_wp2_with fail
    refine (l01In_calls a 0 7 _).mono ?_
    rintro e w' ⟨rfl, rfl⟩
    go_wp2
    go_ret
    exact ⟨ret_bool (by rw [h1']; simp), (Below.refl _ _).alloc (Nat.le_refl _) _⟩

/-- The move of the region's end: a box of its own. -/
def MvMade (W : World) (a b c : Int) (t6 : Value) (wc : World) : Prop :=
  ∃ g : Nat, t6 = .pointer (some ⟨g, 0, none⟩) ∧ W.heap.size ≤ g ∧ Box wc g 37 #[.int .i64 a, .int .i64 b, .int .i64 c] ∧ Below W.heap.size W wc
def RetMB (w : World) (a b c : Int) (d : Bool) (e : Ending) (w' : World) : Prop := e = .returned (.tuple #[.agg #[.int .i64 a, .int .i64 b, .int .i64 c], .bool d]) ∧ Below w.heap.size w w'

set_option maxRecDepth 100000 in
set_option maxHeartbeats 8000000 in
theorem l01ReadMove_calls (s : ByteArray) (w : World) (hs : s.size ≤ 1048576) :
    Calls Try.prog 28 #[.string s] w (RetMB w (pmV s 0) (pmV s 2) (pmV s 4) (mvB s)) := by
  have X0 := Lib.hid (Box.new w 37 #[.int .i64 0, .int .i64 0, .int .i64 0])
  have HB0 := Lib.hid ((Below.refl w.heap.size w).alloc (Nat.le_refl _) (.cells #[.int .i64 0, .int .i64 0, .int .i64 0] 37))
  rcases rngT_cases s 58 s.size with ⟨h1, h2, h3⟩ | ⟨p, hp, hb, h1, h2, h3⟩ | ⟨h1, p, q, hpq, hq, h2, h3⟩
  · have HN : Hid (mvB s = false) := mvB_no (fun h => by have := h3 1 (by have := h.1; omega); exact this h.2.1)
    have hlen := splT_none h1
    go_enter Try.func28, Try.ntmps28
    go_wp2_with fail
    refine (l01Split_calls s 58 _ (by omega) hs).mono ?_
    rintro e w1 ⟨A1, c1, rfl, hO1, hb1⟩
    have X1 := Lib.hid (X0.out.below hb1 X0.out.lt)
    have HB1 := Lib.hid (HB0.out.trans (hb1.mono HB0.out.size))
    clear hb1
    rw [hlen]
    obtain ⟨x0, x1, x2⟩ := X1.out.three
    have f0 := X1.out.frozen 0
    have f1 := X1.out.frozen 1
    have f2 := X1.out.frozen 2
    go_wp2
    have hb9 : Hid (Box (((w1.setCell ⟨w.heap.size, 0, none⟩ (.int .i64 0)).setCell ⟨w.heap.size, 1, none⟩ (.int .i64 0)).setCell ⟨w.heap.size, 2, none⟩ (.int .i64 0)) w.heap.size 37 #[.int .i64 0, .int .i64 0, .int .i64 0]) := ((X1.out.set 0 _).set 1 _).set 2 _
    obtain ⟨z0, z1, z2⟩ := hb9.out.three
    have hz : ∀ i, pmV s i = 0 := fun i => by unfold pmV; rw [HN.out]; rfl
    refine bodyPost_ret (v := .tuple #[.agg #[.int .i64 0, .int .i64 0, .int .i64 0], .bool false]) (by simp [results, Try.results28, go_sem, z0, z1, z2]) rfl ⟨by rw [hz, hz, hz, HN.out], ?_⟩
    exact ((HB1.out.setCell (Nat.le_refl _) _).setCell (Nat.le_refl _) _).setCell (Nat.le_refl _) _
  · obtain ⟨s1, hs1⟩ : ∃ s1, s.extract (p + 1) s.size = s1 := ⟨_, rfl⟩
    have hsz1 : s1.size = s.size - (p + 1) := by rw [← hs1]; exact size_part s _ _ (Nat.le_refl _)
    have hb1 : ∀ i, i < s1.size → btN s1 i = btN s (p + 1 + i) := fun i hi => by rw [← hs1]; exact btN_part s _ _ i (Nat.le_refl _) (by omega)
    obtain ⟨s0, hs0⟩ : ∃ s0, s.extract 0 p = s0 := ⟨_, rfl⟩
    have hsz0 : s0.size = p := by rw [← hs0, size_part s _ _ (by omega)]; omega
    have hspl := splT_two h1 h2
    rcases rngT_cases s1 62 s1.size with ⟨k1, k2, k3⟩ | ⟨q, hq, hqb, k1, k2, k3⟩ | ⟨k1, q, q', hqq, hq', k2, k3⟩
    · have HN : Hid (mvB s = false) := mvB_no (fun h => by
        have h5 := h.1
        obtain rfl := mvT_58 h hp hb
        have := k3 1 (by omega)
        rw [hb1 1 (by omega)] at this
        exact this h.2.2.1)
      have hlen := splT_none k1
      go_enter Try.func28, Try.ntmps28
      go_wp2_with fail
      refine (l01Split_calls s 58 _ (by omega) hs).mono ?_
      rintro e w1 ⟨A1, c1, rfl, hO1, hb1⟩
      have X1 := Lib.hid (X0.out.below hb1 X0.out.lt)
      have HB1 := Lib.hid (HB0.out.trans (hb1.mono HB0.out.size))
      clear hb1
      rw [hspl] at hO1 ⊢
      obtain ⟨g1, rfl, _, _, hc1⟩ := hO1.cell 1 (by simp)
      have hc1' : w1.cell? ⟨g1, 1, none⟩ = some (.string s1) := by rw [hc1, ← hs1]; rfl
      clear hc1
      simp only [List.length_cons, List.length_nil]
      go_wp2_with fail
      refine (l01Split_calls s1 62 _ (by omega) (by omega)).mono ?_
      rintro e w2 ⟨A2, c2, rfl, hO2, hb2⟩
      have X2 := Lib.hid (X1.out.below hb2 X1.out.lt)
      have HB2 := Lib.hid (HB1.out.trans (hb2.mono HB1.out.size))
      clear hb2 hc1'
      rw [hlen]
      obtain ⟨x0, x1, x2⟩ := X2.out.three
      have f0 := X2.out.frozen 0
      have f1 := X2.out.frozen 1
      have f2 := X2.out.frozen 2
      go_wp2
      have hb9 : Hid (Box (((w2.setCell ⟨w.heap.size, 0, none⟩ (.int .i64 0)).setCell ⟨w.heap.size, 1, none⟩ (.int .i64 0)).setCell ⟨w.heap.size, 2, none⟩ (.int .i64 0)) w.heap.size 37 #[.int .i64 0, .int .i64 0, .int .i64 0]) := ((X2.out.set 0 _).set 1 _).set 2 _
      obtain ⟨z0, z1, z2⟩ := hb9.out.three
      have hz : ∀ i, pmV s i = 0 := fun i => by unfold pmV; rw [HN.out]; rfl
      refine bodyPost_ret (v := .tuple #[.agg #[.int .i64 0, .int .i64 0, .int .i64 0], .bool false]) (by simp [results, Try.results28, go_sem, z0, z1, z2]) rfl ⟨by rw [hz, hz, hz, HN.out], ?_⟩
      exact ((HB2.out.setCell (Nat.le_refl _) _).setCell (Nat.le_refl _) _).setCell (Nat.le_refl _) _
    · obtain ⟨e0, he0⟩ : ∃ e0, s1.extract 0 q = e0 := ⟨_, rfl⟩
      obtain ⟨e1, he1⟩ : ∃ e1, s1.extract (q + 1) s1.size = e1 := ⟨_, rfl⟩
      have hsze0 : e0.size = q := by rw [← he0, size_part s1 _ _ (by omega)]; omega
      have hsze1 : e1.size = s1.size - (q + 1) := by rw [← he1]; exact size_part s1 _ _ (Nat.le_refl _)
      have hspl1 := splT_two k1 k2
      have HVV : Hid (mvT s → numT s0 = dgt s 0 ∧ numT e0 = dgt s 2 ∧ numT e1 = dgt s 4) := by
        intro hm
        have h5 := hm.1
        obtain rfl := mvT_58 hm hp hb
        have hq1 : 2 + q = 3 := mvT_62 hm (by omega) (by rw [← hqb, hb1 q hq])
        obtain rfl : q = 1 := by omega
        have d0 : numT s0 = dgt s 0 := by
          have e : dgt s0 0 = dgt s 0 := by rw [btN_dgt, ← hs0, btN_part s 0 1 0 (by omega) (by omega), btN_dgt]
          rw [numT_digit hsz0 (by rw [e]; have := hm.2.2.2.1; omega), e]
        have d1 : numT e0 = dgt s 2 := by
          have e : dgt e0 0 = dgt s 2 := by rw [btN_dgt, ← he0, btN_part s1 0 1 0 (by omega) (by omega), hb1 0 (by omega), btN_dgt]
          rw [numT_digit hsze0 (by rw [e]; have := hm.2.2.2.2.1; omega), e]
        have d2 : numT e1 = dgt s 4 := by
          have e : dgt e1 0 = dgt s 4 := by rw [btN_dgt, ← he1, btN_part s1 2 _ 0 (by omega) (by omega), hb1 2 (by omega), btN_dgt]
          rw [numT_digit (by omega) (by rw [e]; have := hm.2.2.2.2.2; omega), e]
        exact ⟨d0, d1, d2⟩
      have HB : Hid (mvB s = (inB (numT s0) 0 7 && (inB (numT e0) 0 4 && inB (numT e1) 0 4))) := by
        unfold Hid
        by_cases hm : mvT s
        · obtain ⟨d0, d1, d2⟩ := HVV.out hm
          rw [mvB_yes hm, d0, d1, d2, inB_yes hm.2.2.2.1.1 hm.2.2.2.1.2, inB_yes hm.2.2.2.2.1.1 hm.2.2.2.2.1.2, inB_yes hm.2.2.2.2.2.1 hm.2.2.2.2.2.2]
          rfl
        · rw [mvB_no hm]
          symm
          rw [Bool.eq_false_iff]
          intro hc
          rw [Bool.and_eq_true, Bool.and_eq_true] at hc
          obtain ⟨c0, c1, c2⟩ := hc
          obtain ⟨z0, y0⟩ := numT_small (t := s0) (by have := inB_of c0; omega)
          obtain ⟨z1, y1⟩ := numT_small (t := e0) (by have := inB_of c1; omega)
          obtain ⟨z2, y2⟩ := numT_small (t := e1) (by have := inB_of c2; omega)
          obtain rfl : p = 1 := by omega
          obtain rfl : q = 1 := by omega
          have hs3 : s1.size = 3 := by omega
          have e0' : dgt s0 0 = dgt s 0 := by rw [btN_dgt, ← hs0, btN_part s 0 1 0 (by omega) (by omega), btN_dgt]
          have e1' : dgt e0 0 = dgt s 2 := by rw [btN_dgt, ← he0, btN_part s1 0 1 0 (by omega) (by omega), hb1 0 (by omega), btN_dgt]
          have e2' : dgt e1 0 = dgt s 4 := by rw [btN_dgt, ← he1, btN_part s1 2 _ 0 (by omega) (by omega), hb1 2 (by omega), btN_dgt]
          have hb3 : btN s 3 = 62 := by rw [← hqb, hb1 1 (by omega)]
          refine hm ⟨by omega, hb, hb3, ?_, ?_, ?_⟩
          · have := inB_of c0; omega
          · have := inB_of c1; omega
          · have := inB_of c2; omega
      go_enter Try.func28, Try.ntmps28
      go_wp2_with fail
      refine (l01Split_calls s 58 _ (by omega) hs).mono ?_
      rintro e w1 ⟨A1, c1, rfl, hO1, hb1⟩
      have X1 := Lib.hid (X0.out.below hb1 X0.out.lt)
      have HB1 := Lib.hid (HB0.out.trans (hb1.mono HB0.out.size))
      clear hb1
      rw [hspl] at hO1 ⊢
      obtain ⟨g1, rfl, _, _, hc1⟩ := hO1.cell 1 (by simp)
      have hc1' : w1.cell? ⟨g1, 1, none⟩ = some (.string s1) := by rw [hc1, ← hs1]; rfl
      clear hc1
      simp only [List.length_cons, List.length_nil]
      go_wp2_with fail
      refine (l01Split_calls s1 62 _ (by omega) (by omega)).mono ?_
      rintro e w2 ⟨A2, c2, rfl, hO2, hb2⟩
      have X2 := Lib.hid (X1.out.below hb2 X1.out.lt)
      have HB2 := Lib.hid (HB1.out.trans (hb2.mono HB1.out.size))
      have HO1 := Lib.hid (hO1.below hb2)
      clear hb2 hc1'
      rw [hspl1] at hO2 ⊢
      obtain ⟨g2, rfl, _, _, hc20⟩ := hO2.cell 0 (by simp)
      obtain ⟨_, h0, _, _, hc21⟩ := hO2.cell 1 (by simp)
      cases h0
      obtain ⟨_, h0, _, _, hc10⟩ := HO1.out.cell 0 (by simp)
      cases h0
      have d0 : w2.cell? ⟨g1, 0, none⟩ = some (.string s0) := by rw [hc10, ← hs0]; rfl
      have d1 : w2.cell? ⟨g2, 0, none⟩ = some (.string e0) := by rw [hc20, ← he0]; rfl
      have d2 : w2.cell? ⟨g2, 1, none⟩ = some (.string e1) := by rw [hc21, ← he1]; rfl
      clear hc20 hc21 hc10 hO1 hO2
      simp only [List.length_cons, List.length_nil]
      go_upto_region 7 with (fail)
      go_cut [6] (fun t6 wc => MvMade w2 (numT s0) (numT e0) (numT e1) t6 wc)
      case first =>
        go_region_held3 (fun w' => w'.cell? ⟨g1, 0, none⟩ = some (.string s0) ∧ w'.cell? ⟨g2, 0, none⟩ = some (.string e0) ∧ w'.cell? ⟨g2, 1, none⟩ = some (.string e1))
          (first | exact ⟨d0, d1, d2⟩ | go_keep)
          (first
          | (go_at_call 41; (with_reducible refine (l01Number_calls s0 _ ?_).mono ?_); omega; rintro e w3 ⟨rfl, rfl⟩)
          | (go_at_call 41; (with_reducible refine (l01Number_calls e0 _ ?_).mono ?_); omega; rintro e w3 ⟨rfl, rfl⟩)
          | (go_at_call 41; (with_reducible refine (l01Number_calls e1 _ ?_).mono ?_); omega; rintro e w3 ⟨rfl, rfl⟩))
        all_goals
          go_wp2_with fail
          go_meet
          case rel =>
            exact ⟨_, rfl, Nat.le_refl _, Box.new w2 _ _, ((Below.refl _ _).alloc (Nat.le_refl _) _).drew⟩
      case rest =>
        obtain ⟨g6, rfl, hg6, hbx6, hbl6⟩ := hcut
        have Y3 := Lib.hid hbx6
        have X3 := Lib.hid (X2.out.below hbl6 X2.out.lt)
        have HB3 := Lib.hid (HB2.out.trans (hbl6.mono HB2.out.size))
        clear hbx6 hbl6 d0 d1 d2
        obtain ⟨y0, y1, y2⟩ := Y3.out.three
        go_wp2_with fail
        refine (l01Plain_calls _ _ _ _).mono ?_
        rintro e w4 ⟨rfl, hb4⟩
        have Y4 := Lib.hid (Y3.out.below hb4 Y3.out.lt)
        have X4 := Lib.hid (X3.out.below hb4 X3.out.lt)
        have HB4 := Lib.hid (HB3.out.trans (hb4.mono HB3.out.size))
        rw [← HB.out]
        clear hb4 y0 y1 y2
        by_cases hm : mvB s = true
        · obtain ⟨v0, v1, v2⟩ := HVV.out (by have h := hm; unfold mvB at h; rw [decide_eq_true_iff] at h; exact h)
          have HM := Lib.hid hm
          have HV0 := Lib.hid (show pmV s 0 = numT s0 by unfold pmV; rw [if_pos hm, v0])
          have HV1 := Lib.hid (show pmV s 2 = numT e0 by unfold pmV; rw [if_pos hm, v1])
          have HV2 := Lib.hid (show pmV s 4 = numT e1 by unfold pmV; rw [if_pos hm, v2])
          clear v0 v1 v2
          obtain ⟨x0, x1, x2⟩ := X4.out.three
          have f0 := X4.out.frozen 0
          have f1 := X4.out.frozen 1
          have f2 := X4.out.frozen 2
          obtain ⟨y0, y1, y2⟩ := Y4.out.three
          go_wp2
          have hb9 : Hid (Box (((w4.setCell ⟨w.heap.size, 0, none⟩ (.int .i64 (numT s0))).setCell ⟨w.heap.size, 1, none⟩ (.int .i64 (numT e0))).setCell ⟨w.heap.size, 2, none⟩ (.int .i64 (numT e1))) w.heap.size 37 #[.int .i64 (numT s0), .int .i64 (numT e0), .int .i64 (numT e1)]) := ((X4.out.set 0 _).set 1 _).set 2 _
          obtain ⟨z0, z1, z2⟩ := hb9.out.three
          refine bodyPost_ret (v := .tuple #[.agg #[.int .i64 (numT s0), .int .i64 (numT e0), .int .i64 (numT e1)], .bool true]) (by simp [results, Try.results28, go_sem, z0, z1, z2]) rfl ⟨by rw [HV0.out, HV1.out, HV2.out, HM.out], ?_⟩
          exact ((HB4.out.setCell (Nat.le_refl _) _).setCell (Nat.le_refl _) _).setCell (Nat.le_refl _) _
        · have HN : Hid (mvB s = false) := Bool.eq_false_iff.2 hm
          have hm' : mvB s = false := HN.out
          clear hm
          obtain ⟨x0, x1, x2⟩ := X4.out.three
          have f0 := X4.out.frozen 0
          have f1 := X4.out.frozen 1
          have f2 := X4.out.frozen 2
          go_wp2
          have hb9 : Hid (Box (((w4.setCell ⟨w.heap.size, 0, none⟩ (.int .i64 0)).setCell ⟨w.heap.size, 1, none⟩ (.int .i64 0)).setCell ⟨w.heap.size, 2, none⟩ (.int .i64 0)) w.heap.size 37 #[.int .i64 0, .int .i64 0, .int .i64 0]) := ((X4.out.set 0 _).set 1 _).set 2 _
          obtain ⟨z0, z1, z2⟩ := hb9.out.three
          have hz : ∀ i, pmV s i = 0 := fun i => by unfold pmV; rw [HN.out]; rfl
          refine bodyPost_ret (v := .tuple #[.agg #[.int .i64 0, .int .i64 0, .int .i64 0], .bool false]) (by simp [results, Try.results28, go_sem, z0, z1, z2]) rfl ⟨by rw [hz, hz, hz, HN.out], ?_⟩
          exact ((HB4.out.setCell (Nat.le_refl _) _).setCell (Nat.le_refl _) _).setCell (Nat.le_refl _) _
    · have HN : Hid (mvB s = false) := mvB_no (fun h => by
        obtain rfl := mvT_58 h hp hb
        have e1 := mvT_62 h (p := 2 + q) (by omega) (by rw [← k2, hb1 q (by omega)])
        have e2 := mvT_62 h (p := 2 + q') (by omega) (by rw [← k3, hb1 q' (by omega)])
        omega)
      have hlen := splT_more k1
      go_enter Try.func28, Try.ntmps28
      go_wp2_with fail
      refine (l01Split_calls s 58 _ (by omega) hs).mono ?_
      rintro e w1 ⟨A1, c1, rfl, hO1, hb1⟩
      have X1 := Lib.hid (X0.out.below hb1 X0.out.lt)
      have HB1 := Lib.hid (HB0.out.trans (hb1.mono HB0.out.size))
      clear hb1
      rw [hspl] at hO1 ⊢
      obtain ⟨g1, rfl, _, _, hc1⟩ := hO1.cell 1 (by simp)
      have hc1' : w1.cell? ⟨g1, 1, none⟩ = some (.string s1) := by rw [hc1, ← hs1]; rfl
      clear hc1
      simp only [List.length_cons, List.length_nil]
      go_wp2_with fail
      refine (l01Split_calls s1 62 _ (by omega) (by omega)).mono ?_
      rintro e w2 ⟨A2, c2, rfl, hO2, hb2⟩
      have X2 := Lib.hid (X1.out.below hb2 X1.out.lt)
      have HB2 := Lib.hid (HB1.out.trans (hb2.mono HB1.out.size))
      clear hb2 hc1'
      generalize (splT s1 62).length = m2 at *
      have hd : ((m2 : Int) != 2) = true := by rw [bne_iff_ne]; omega
      obtain ⟨x0, x1, x2⟩ := X2.out.three
      have f0 := X2.out.frozen 0
      have f1 := X2.out.frozen 1
      have f2 := X2.out.frozen 2
      go_wp2
      have hb9 : Hid (Box (((w2.setCell ⟨w.heap.size, 0, none⟩ (.int .i64 0)).setCell ⟨w.heap.size, 1, none⟩ (.int .i64 0)).setCell ⟨w.heap.size, 2, none⟩ (.int .i64 0)) w.heap.size 37 #[.int .i64 0, .int .i64 0, .int .i64 0]) := ((X2.out.set 0 _).set 1 _).set 2 _
      obtain ⟨z0, z1, z2⟩ := hb9.out.three
      have hz : ∀ i, pmV s i = 0 := fun i => by unfold pmV; rw [HN.out]; rfl
      refine bodyPost_ret (v := .tuple #[.agg #[.int .i64 0, .int .i64 0, .int .i64 0], .bool false]) (by simp [results, Try.results28, go_sem, z0, z1, z2]) rfl ⟨by rw [hz, hz, hz, HN.out], ?_⟩
      exact ((HB2.out.setCell (Nat.le_refl _) _).setCell (Nat.le_refl _) _).setCell (Nat.le_refl _) _
  · have HN : Hid (mvB s = false) := mvB_no (fun h => by
      have e1 := mvT_58 h (by omega) h2
      have e2 := mvT_58 h (by omega) h3
      omega)
    have hlen := splT_more h1
    go_enter Try.func28, Try.ntmps28
    go_wp2_with fail
    refine (l01Split_calls s 58 _ (by omega) hs).mono ?_
    rintro e w1 ⟨A1, c1, rfl, hO1, hb1⟩
    have X1 := Lib.hid (X0.out.below hb1 X0.out.lt)
    have HB1 := Lib.hid (HB0.out.trans (hb1.mono HB0.out.size))
    clear hb1
    generalize (splT s 58).length = m1 at *
    have hd : ((m1 : Int) != 2) = true := by rw [bne_iff_ne]; omega
    obtain ⟨x0, x1, x2⟩ := X1.out.three
    have f0 := X1.out.frozen 0
    have f1 := X1.out.frozen 1
    have f2 := X1.out.frozen 2
    go_wp2
    have hb9 : Hid (Box (((w1.setCell ⟨w.heap.size, 0, none⟩ (.int .i64 0)).setCell ⟨w.heap.size, 1, none⟩ (.int .i64 0)).setCell ⟨w.heap.size, 2, none⟩ (.int .i64 0)) w.heap.size 37 #[.int .i64 0, .int .i64 0, .int .i64 0]) := ((X1.out.set 0 _).set 1 _).set 2 _
    obtain ⟨z0, z1, z2⟩ := hb9.out.three
    have hz : ∀ i, pmV s i = 0 := fun i => by unfold pmV; rw [HN.out]; rfl
    refine bodyPost_ret (v := .tuple #[.agg #[.int .i64 0, .int .i64 0, .int .i64 0], .bool false]) (by simp [results, Try.results28, go_sem, z0, z1, z2]) rfl ⟨by rw [hz, hz, hz, HN.out], ?_⟩
    exact ((HB1.out.setCell (Nat.le_refl _) _).setCell (Nat.le_refl _) _).setCell (Nat.le_refl _) _

def RetMv (w : World) (a b c E : Int) (e : Ending) (w' : World) : Prop := e = .returned (.tuple #[.agg #[.int .i64 a, .int .i64 b, .int .i64 c], .int .i64 E]) ∧ Below w.heap.size w w'

set_option maxHeartbeats 4000000 in
theorem specParseMove_ret (s : ByteArray) (w : World) (hs : s.size ≤ 1048576) :
    Calls Try.prog 14 #[.string s] w (RetMv w (pmV s 0) (pmV s 2) (pmV s 4) (pmE s)) := by
  have X0 := Lib.hid (Box.new w 37 #[.int .i64 0, .int .i64 0, .int .i64 0])
  have HB0 := Lib.hid ((Below.refl w.heap.size w).alloc (Nat.le_refl _) (.cells #[.int .i64 0, .int .i64 0, .int .i64 0] 37))
  by_cases hm : mvB s = true
  · have HE := Lib.hid (show pmE s = 0 by unfold pmE; rw [if_pos hm])
    go_enter Try.func14, Try.ntmps14
    go_wp2_with fail
    refine (l01ReadMove_calls s _ hs).mono ?_
    rintro e w1 ⟨rfl, hb1⟩
    have X1 := Lib.hid ((X0.out.below hb1 X0.out.lt).alloc (.cells #[.int .i64 (pmV s 0), .int .i64 (pmV s 2), .int .i64 (pmV s 4)] 37))
    have Y1 := Lib.hid (Box.new w1 37 #[.int .i64 (pmV s 0), .int .i64 (pmV s 2), .int .i64 (pmV s 4)])
    have HB1 := Lib.hid ((HB0.out.trans (hb1.mono HB0.out.size)).alloc (by have h1 := HB0.out.size; have h2 := hb1.size; omega) (.cells #[.int .i64 (pmV s 0), .int .i64 (pmV s 2), .int .i64 (pmV s 4)] 37))
    clear hb1
    obtain ⟨y0, y1, y2⟩ := Y1.out.three
    obtain ⟨x0, x1, x2⟩ := X1.out.three
    have f0 := X1.out.frozen 0
    have f1 := X1.out.frozen 1
    have f2 := X1.out.frozen 2
    go_wp2
    have hb9 : Hid (Box ((((w1.alloc (.cells #[.int .i64 (pmV s 0), .int .i64 (pmV s 2), .int .i64 (pmV s 4)] 37)).setCell ⟨w.heap.size, 0, none⟩ (.int .i64 (pmV s 0))).setCell ⟨w.heap.size, 1, none⟩ (.int .i64 (pmV s 2))).setCell ⟨w.heap.size, 2, none⟩ (.int .i64 (pmV s 4))) w.heap.size 37 #[.int .i64 (pmV s 0), .int .i64 (pmV s 2), .int .i64 (pmV s 4)]) := ((X1.out.set 0 _).set 1 _).set 2 _
    obtain ⟨z0, z1, z2⟩ := hb9.out.three
    refine bodyPost_ret (v := .tuple #[.agg #[.int .i64 (pmV s 0), .int .i64 (pmV s 2), .int .i64 (pmV s 4)], .int .i64 0]) (by simp [results, Try.results14, go_sem, z0, z1, z2]) rfl ⟨by rw [HE.out], ?_⟩
    exact ((HB1.out.setCell (Nat.le_refl _) _).setCell (Nat.le_refl _) _).setCell (Nat.le_refl _) _
  · have HN : Hid (mvB s = false) := Bool.eq_false_iff.2 hm
    have hm' : mvB s = false := HN.out
    have HE := Lib.hid (show pmE s = 6 by unfold pmE; rw [HN.out]; rfl)
    have hz : ∀ i, pmV s i = 0 := fun i => by unfold pmV; rw [HN.out]; rfl
    rw [hz 0, hz 2, hz 4]
    clear hm
    go_enter Try.func14, Try.ntmps14
    go_wp2_with fail
    refine (l01ReadMove_calls s _ hs).mono ?_
    rintro e w1 ⟨rfl, hb1⟩
    rw [hz 0, hz 2, hz 4]
    have X1 := Lib.hid ((X0.out.below hb1 X0.out.lt).alloc (.cells #[.int .i64 0, .int .i64 0, .int .i64 0] 37))
    have HB1 := Lib.hid ((HB0.out.trans (hb1.mono HB0.out.size)).alloc (by have h1 := HB0.out.size; have h2 := hb1.size; omega) (.cells #[.int .i64 0, .int .i64 0, .int .i64 0] 37))
    clear hb1 hz
    obtain ⟨x0, x1, x2⟩ := X1.out.three
    have f0 := X1.out.frozen 0
    have f1 := X1.out.frozen 1
    have f2 := X1.out.frozen 2
    go_wp2
    have hb9 : Hid (Box ((((w1.alloc (.cells #[.int .i64 0, .int .i64 0, .int .i64 0] 37)).setCell ⟨w.heap.size, 0, none⟩ (.int .i64 0)).setCell ⟨w.heap.size, 1, none⟩ (.int .i64 0)).setCell ⟨w.heap.size, 2, none⟩ (.int .i64 0)) w.heap.size 37 #[.int .i64 0, .int .i64 0, .int .i64 0]) := ((X1.out.set 0 _).set 1 _).set 2 _
    obtain ⟨z0, z1, z2⟩ := hb9.out.three
    refine bodyPost_ret (v := .tuple #[.agg #[.int .i64 0, .int .i64 0, .int .i64 0], .int .i64 6]) (by simp [results, Try.results14, go_sem, z0, z1, z2]) rfl ⟨by rw [HE.out], ?_⟩
    exact ((HB1.out.setCell (Nat.le_refl _) _).setCell (Nat.le_refl _) _).setCell (Nat.le_refl _) _

theorem hasText_calls (a b c : Int) (w : World) :
    Calls Try.prog 30 #[.agg #[.int .i64 a, .int .i64 b, .int .i64 c]] w fun e w' => e = .returned (.bool (inB a 0 7 && (inB b 0 4 && inB c 0 4))) ∧ Below w.heap.size w w' := by
  have p1 : Hid (pegB 5 b = inB b 0 4) := by unfold Hid; rw [pegB_in]; rfl
  have p2 : Hid (pegB 5 c = inB c 0 4) := by unfold Hid; rw [pegB_in]; rfl
  by_cases h0 : 0 ≤ a
  · by_cases h7 : a < 8
    · have h1 := Lib.hid (inB_yes h0 (show a ≤ 7 by omega))
      by_cases h2 : inB b 0 4 = true
      · have H2 := Lib.hid h2
        rw [← p1.out] at h2
        go_enter Try.func30, Try.ntmps30
        go_wp2_with fail
        refine (isPeg_calls 5 b _).mono ?_
        rintro e w' ⟨rfl, rfl⟩
        go_wp2_with fail
        refine (isPeg_calls 5 c _).mono ?_
        rintro e w' ⟨rfl, rfl⟩
        rw [p2.out]
        go_wp2
        go_ret
        exact ⟨ret_bool (by rw [h1.out, H2.out]; simp), (Below.refl _ _).alloc (Nat.le_refl _) _⟩
      · have h2' : inB b 0 4 = false := by simpa using h2
        have H2 := Lib.hid h2'
        rw [← p1.out] at h2'
        clear h2
        go_enter Try.func30, Try.ntmps30
        go_wp2_with fail
        refine (isPeg_calls 5 b _).mono ?_
        rintro e w' ⟨rfl, rfl⟩
        go_wp2
        go_ret
        exact ⟨ret_bool (by rw [h1.out, H2.out]; simp), (Below.refl _ _).alloc (Nat.le_refl _) _⟩
    · have h1 := Lib.hid (show inB a 0 7 = false from inB_no (by omega))
      go_enter Try.func30, Try.ntmps30
      go_wp2
      go_ret
      exact ⟨ret_bool (by rw [h1.out]; simp), (Below.refl _ _).alloc (Nat.le_refl _) _⟩
  · have h1 := Lib.hid (show inB a 0 7 = false from inB_no (by omega))
    go_enter Try.func30, Try.ntmps30
    go_wp2
    go_ret
    exact ⟨ret_bool (by rw [h1.out]; simp), (Below.refl _ _).alloc (Nat.le_refl _) _⟩

end Go.Proofs.Yteokldpodaknpaa
