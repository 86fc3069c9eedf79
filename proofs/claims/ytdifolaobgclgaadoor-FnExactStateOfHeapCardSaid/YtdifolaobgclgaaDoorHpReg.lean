/- Contracts: regular heaps by the program. -/
import Derived.Test.YtdifolaobgclgaaDoorHpWrS
import Derived.Test.YtdifolaobgclgaaDoorHpO
namespace Go.Proofs.YtdifolaobgclgaaDoor
open Go.RowKit
set_option linter.unusedVariables false

theorem isNaN_calls (x : Int) (w : World) : Calls Tryd.prog 44 #[.int .i64 x] w fun e w' => e = .returned (.bool false) ∧ w = w' := by
  go_enter Tryd.func44, Tryd.ntmps44
  go_wp2
  go_ret
  exact ⟨rfl, rfl⟩
theorem less_calls (x y : Int) (w : World) : Calls Tryd.prog 43 #[.int .i64 x, .int .i64 y] w fun e w' => e = .returned (.bool (decide (x < y))) ∧ ∃ m, w' = w.drewN m := by
  go_enter Tryd.func43, Tryd.ntmps43
  go_wp2_with fail
  refine (isNaN_calls x w).mono ?_
  rintro e w' ⟨rfl, rfl⟩
  go_wp2
  go_ret
  exact ⟨rfl, 0, rfl⟩
/-- Each element is at most the next one. -/
def srtL (L : List Int) (k : Nat) : Prop := ∀ j, k ≤ j → j + 1 < L.length → L[j]?.getD 0 ≤ L[j + 1]?.getD 0

set_option maxHeartbeats 1000000 in
theorem isSorted_calls (ad : Addr) (n c : Nat) (L : List Int) (w : World) (hL : L.length = n) (hn : n ≤ 1048576) (hI : Ints w (some ad) L) (b : Bool) (hb : b = true ↔ srtL L 0) :
    Calls Tryd.prog 40 #[.slice (some ad) n c] w fun e w' => e = .returned (.bool b) ∧ ∃ m, w' = w.drewN m := by
  have HL := Lib.hid hL
  have HI := Lib.hid hI
  have HB := Lib.hid hb
  clear hL hI hb
  go_enter Tryd.func40, Tryd.ntmps40
  go_wp2
  go_loopw [3] (fun i wr => ∃ m : Nat, m ≤ n ∧ i = .int .i64 ((m : Int) - 1) ∧ Hid (srtL L (m - 1)) ∧ Hid (∃ q, wr = w.drewN q)) (fun i _ => (intOf i + 1).toNat)
  case atStart => exact ⟨n, Nat.le_refl _, rfl, by intro j hj hj2; rw [HL.out] at hj2; omega, 0, rfl⟩
  case round =>
    obtain ⟨m, hm, rfl, hs, hw⟩ := hrel
    by_cases hlt : 2 ≤ m
    · obtain ⟨k, rfl⟩ : ∃ k, m = k + 2 := ⟨m - 2, by omega⟩
      have hIr : Ints wr (some ad) L := by obtain ⟨q, hq⟩ := hw.out; rw [hq]; exact HI.out
      obtain ⟨a1, h1, had1, hc1⟩ := hIr (k + 1) (by rw [HL.out]; omega)
      obtain ⟨a0, h0, had0, hc0⟩ := hIr k (by rw [HL.out]; omega)
      injection h1 with h1
      injection h0 with h0
      subst h1
      subst h0
      rw [List.getD_eq_getElem?_getD] at hc0 hc1
      have hidx : ((k + 2 : Nat) : Int) - 1 = ((k + 1 : Nat) : Int) := by omega
      have hidx0 : ((k + 1 : Nat) : Int) - 1 = (k : Int) := by omega
      have hkn : ((k + 1 : Nat) : Int) < (n : Int) := by omega
      have hk0 : (k : Int) < (n : Int) := by omega
      have hpos : (0 : Int) < ((k + 1 : Nat) : Int) := by omega
      obtain ⟨x, hx⟩ : ∃ x, x = L[k + 1]?.getD 0 := ⟨_, rfl⟩
      obtain ⟨y, hy⟩ : ∃ y, y = L[k]?.getD 0 := ⟨_, rfl⟩
      rw [← hx] at hc1
      rw [← hy] at hc0
      have HX := Lib.hid (And.intro hx hy)
      rw [hidx]
      clear hx hy hIr hidx
      generalize hK : k + 1 = K at *
      have HK := Lib.hid hK
      clear hK
      go_wp2_with fail
      go_quiet ((go_at_call 43; exact Calls.quiet_of (less_calls x y _)))
      by_cases hxy : x < y
      · have hd : decide (x < y) = true := by simpa using hxy
        have hbf : Hid (b = false) := by
          unfold Hid
          cases hb : b with
          | false => rfl
          | true =>
            have h1 := HB.out.1 hb k (Nat.zero_le _) (by rw [HL.out, HK.out]; omega)
            rw [HK.out, ← HX.out.1, ← HX.out.2] at h1
            omega
        rw [hd]
        clear hxy hd
        go_wp2
        go_ret
        refine ⟨ret_bool hbf.out.symm, ?_⟩
        obtain ⟨q, hq⟩ := hw.out
        exact ⟨q + nq, by rw [hq, World.drewN_drewN]⟩
      · have hd : decide (x < y) = false := by simpa using hxy
        have hs2 : Hid (srtL L k) := by
          intro j hj hj2
          by_cases hjk : j = k
          · subst hjk
            rw [HK.out, ← HX.out.1, ← HX.out.2]
            omega
          · exact hs.out j (by omega) hj2
        rw [hd]
        clear hxy hd
        go_wp2
        go_roundw
        case rel =>
          refine ⟨k + 1, by omega, by go_num, hs2.out, ?_⟩
          obtain ⟨q, hq⟩ := hw.out
          exact ⟨q + nq, by rw [hq, World.drewN_drewN]⟩
        case measure => simp [intOf]; omega
    · have hbt : Hid (b = true) := HB.out.2 (by have h1 := hs.out; rw [show m - 1 = 0 by omega] at h1; exact h1)
      have hng : ¬ (0 : Int) < (m : Int) - 1 := by omega
      go_wp2
      go_ret
      exact ⟨ret_bool hbt.out.symm, hw.out⟩

/-- What an index into the piles, or into one, gives. -/
theorem ix_piles (Z : Nat → Int) (a : Nat) (ha : a < 3) (w : World) : (Instr.index 48 (.agg (zA Z)) (.int .i64 (a : Int))).run Tryd.prog w = .ok (.agg #[.int .i64 (Z (a * 4)), .int .i64 (Z (a * 4 + 1)), .int .i64 (Z (a * 4 + 2)), .int .i64 (Z (a * 4 + 3))]) w := by
  match a, ha with
  | 0, _ => simp [Instr.index, zA, go_sem]
  | 1, _ => simp [Instr.index, zA, go_sem]
  | 2, _ => simp [Instr.index, zA, go_sem]
theorem ix_pile (x y z u : Int) (j : Nat) (hj : j < 4) (w : World) : (Instr.index 46 (.agg #[.int .i64 x, .int .i64 y, .int .i64 z, .int .i64 u]) (.int .i64 (j : Int))).run Tryd.prog w = .ok (.int .i64 ([x, y, z, u][j]?.getD 0)) w := by
  match j, hj with
  | 0, _ => simp [Instr.index, go_sem]
  | 1, _ => simp [Instr.index, go_sem]
  | 2, _ => simp [Instr.index, go_sem]
  | 3, _ => simp [Instr.index, go_sem]

/-- The four places of a pile, as a list. -/
def zL (Z : Nat → Int) (a : Nat) : List Int := [Z (a * 4), Z (a * 4 + 1), Z (a * 4 + 2), Z (a * 4 + 3)]
instance (L : List Int) : Decidable (srtL L 0) :=
  decidable_of_iff (∀ j, j < L.length → j + 1 < L.length → L[j]?.getD 0 ≤ L[j + 1]?.getD 0) ⟨fun h j _ h2 => h j (by omega) h2, fun h j _ h2 => h j (Nat.zero_le _) h2⟩
def regZ (Z : Nat → Int) : Bool := decide (srtL (zL Z 0) 0 ∧ srtL (zL Z 1) 0 ∧ srtL (zL Z 2) 0)
theorem regZ_at {Z : Nat → Int} (h : regZ Z = true) {a : Nat} (ha : a < 3) : srtL (zL Z a) 0 := by
  unfold regZ at h
  obtain ⟨h0, h1, h2⟩ := of_decide_eq_true h
  match a, ha with
  | 0, _ => exact h0
  | 1, _ => exact h1
  | 2, _ => exact h2
theorem regZ_of {Z : Nat → Int} (h : ∀ a, a < 3 → srtL (zL Z a) 0) : regZ Z = true := by
  unfold regZ
  exact decide_eq_true ⟨h 0 (by omega), h 1 (by omega), h 2 (by omega)⟩

theorem Box.ints4 {w : World} {b t : Nat} {x y z u : Int} (h : Box w b t #[.int .i64 x, .int .i64 y, .int .i64 z, .int .i64 u]) : Ints w (some ⟨b, 0, none⟩) [x, y, z, u] := by
  intro k hk
  refine ⟨_, rfl, h.lt, ?_⟩
  rw [add_zero_at, h.cell k]
  simp at hk
  match k, hk with
  | 0, _ => rfl
  | 1, _ => rfl
  | 2, _ => rfl
  | 3, _ => rfl

set_option maxHeartbeats 2000000 in
theorem isRegular_calls (Z : Nat → Int) (w : World) :
    Calls Tryd.prog 28 #[.agg (zA Z)] w fun e w' => e = .returned (.bool (regZ Z)) ∧ Below w.heap.size w w' := by
  have hix := fun a (ha : a < 3) w => ix_piles Z a ha w
  have HIX := Lib.hid hix
  have P0 := Lib.hid (Box.new w 48 (zA Z))
  have hb0 : Below w.heap.size w (w.alloc (.cells (zA Z) 48)) := (Below.refl _ _).alloc (Nat.le_refl _) _
  obtain ⟨W0, hW0⟩ : ∃ W0, W0 = w.alloc (.cells (zA Z) 48) := ⟨_, rfl⟩
  rw [← hW0] at P0 hb0
  have HB0 := Lib.hid hb0
  have HW := Lib.hid hW0
  clear hix hb0 hW0
  obtain ⟨c0, c1, c2, c3, c4, c5, c6, c7, c8, c9, c10, c11⟩ := P0.out.z12
  simp only [zA] at HIX HW
  simp only [zA]
  go_enter Tryd.func28, Tryd.ntmps28
  go_wp2
  rw [← HW.out]
  go_loopw [6] (fun i wr => ∃ a : Nat, a ≤ 3 ∧ i = .int .i64 a ∧ Hid (∀ b, b < a → srtL (zL Z b) 0) ∧ Below W0.heap.size W0 wr) (fun i _ => 3 - (intOf i).toNat)
  case atStart => exact ⟨0, by omega, rfl, fun b hb => absurd hb (by omega), Below.refl _ _⟩
  case round =>
    obtain ⟨a, ha, rfl, hs, hbl⟩ := hrel
    have HBl := Lib.hid hbl
    clear hbl
    by_cases hlt : a < 3
    · have hlt2 : (a : Int) < 3 := by omega
      have hix := HIX.out a hlt
      obtain ⟨b, hb⟩ : ∃ b : Bool, b = true ↔ srtL (zL Z a) 0 := ⟨decide (srtL (zL Z a) 0), by simp⟩
      have HB := Lib.hid hb
      have hIn := Lib.hid (Box.ints4 (Box.new wr 46 #[.int .i64 (Z (a * 4)), .int .i64 (Z (a * 4 + 1)), .int .i64 (Z (a * 4 + 2)), .int .i64 (Z (a * 4 + 3))]))
      have HB1 := Lib.hid (HBl.out.alloc HBl.out.size (.cells #[.int .i64 (Z (a * 4)), .int .i64 (Z (a * 4 + 1)), .int .i64 (Z (a * 4 + 2)), .int .i64 (Z (a * 4 + 3))] 46))
      clear hb
      go_wp2_with fail
      refine (isSorted_calls ⟨wr.heap.size, 0, none⟩ 4 4 (zL Z a) _ rfl (by omega) hIn.out b HB.out).mono ?_
      rintro e w1 ⟨rfl, q, rfl⟩
      cases b with
      | true =>
        have hs2 : Hid (∀ b, b < a + 1 → srtL (zL Z b) 0) := by
          intro b hb
          by_cases hba : b = a
          · subst hba; exact HB.out.1 rfl
          · exact hs.out b (by omega)
        go_wp2
        go_roundw
        case rel => exact ⟨a + 1, by omega, by go_num, hs2.out, belowDraws HB1.out q⟩
        case measure => simp [intOf]; omega
      | false =>
        have hr : Hid (regZ Z = false) := by
          unfold Hid
          cases h : regZ Z with
          | false => rfl
          | true => have := HB.out.2 (regZ_at h hlt); cases this
        go_wp2
        go_ret
        exact ⟨ret_bool hr.out.symm, HB0.out.trans ((belowDraws HB1.out q).mono HB0.out.size)⟩
    · have hr : Hid (regZ Z = true) := regZ_of (fun b hb => hs.out b (by omega))
      have hge : ¬ (a : Int) < 3 := by omega
      go_wp2
      go_ret
      exact ⟨ret_bool hr.out.symm, HB0.out.trans (HBl.out.mono HB0.out.size)⟩

theorem wP_zero {l : List Int} : wP l = 0 ↔ l.Pairwise (fun x y => x ≤ y) := by
  induction l with
  | nil => simp [wP]
  | cons x t ih =>
    rw [wP, List.pairwise_cons, ← ih]
    have h1 : lessN x t = 0 ↔ ∀ y ∈ t, x ≤ y := by
      unfold lessN
      rw [List.length_eq_zero_iff, List.filter_eq_nil_iff]
      simp
    rw [← h1]
    omega
theorem srt4 (x y z u : Int) : srtL [x, y, z, u] 0 ↔ wP [x, y, z, u] = 0 := by
  rw [wP_zero]
  constructor
  · intro h
    have h0 := h 0 (by omega) (by simp)
    have h1 := h 1 (by omega) (by simp)
    have h2 := h 2 (by omega) (by simp)
    simp at h0 h1 h2
    simp
    omega
  · intro h j _ hj
    simp at h hj
    match j, hj with
    | 0, _ => simp; omega
    | 1, _ => simp; omega
    | 2, _ => simp; omega
theorem zL_piles {LL : List (List Int)} {a : Nat} {l : List Int} (h : LL[a]? = some l) : zL (pilesOf LL) a = pl4 l := by
  have e0 := pilesOf_at LL a 0 (by omega)
  simp only [Nat.add_zero] at e0
  unfold zL
  rw [e0, pilesOf_at LL a 1 (by omega), pilesOf_at LL a 2 (by omega), pilesOf_at LL a 3 (by omega), h]
  rfl
theorem reg_piles {LL : List (List Int)} (h : heapB LL = true) : regZ (pilesOf LL) = decide (wrongs LL = 0) := by
  have h3 := (heapB_facts h).1
  have key : ∀ a (ha : a < 3), srtL (zL (pilesOf LL) a) 0 ↔ wP (LL[a]).reverse = 0 := by
    intro a ha
    have hl : LL[a]? = some LL[a] := List.getElem?_eq_getElem (by omega)
    obtain ⟨q1, q2⟩ := heap_stack h hl
    rw [← wP_pl4 q1 (fun x hx => (q2 x hx).2.2), zL_piles hl]
    exact srt4 _ _ _ _
  have hw : wrongs LL = wP (LL[0]).reverse + wP (LL[1]).reverse + wP (LL[2]).reverse := by
    have e : wrongs LL = wrK LL 3 := by unfold wrongs; rw [h3]
    have e2 : wrK LL 3 = wrK LL 2 + wP (LL[2]).reverse := wrK_succ (LL := LL) (a := 2) (List.getElem?_eq_getElem (by omega))
    have e1 : wrK LL 2 = wrK LL 1 + wP (LL[1]).reverse := wrK_succ (LL := LL) (a := 1) (List.getElem?_eq_getElem (by omega))
    have e0 : wrK LL 1 = wrK LL 0 + wP (LL[0]).reverse := wrK_succ (LL := LL) (a := 0) (List.getElem?_eq_getElem (by omega))
    have ez : wrK LL 0 = 0 := by simp [wrK]
    rw [e]
    omega
  unfold regZ
  rw [decide_eq_decide, key 0 (by omega), key 1 (by omega), key 2 (by omega), hw]
  omega

set_option maxHeartbeats 1000000 in
theorem specIsRegularHeap_h (A : Option Addr) (n c : Nat) (rs : List Rw) (w : World) (hL : rs.length = n) (hn : n ≤ 1048576) (hb : totN rs ≤ 1048576) (hI : IntsSS w A rs) :
    Calls Tryd.prog 12 #[.agg #[.slice A n c]] w fun e w' => e = .returned (.tuple #[.bool (regV (LLof rs)), .int .i64 (doorE (LLof rs))]) ∧ Below w.heap.size w w' := by
  have hb0 : Below w.heap.size w (w.alloc (.cells #[.slice A n c] 27)) := (Below.refl _ _).alloc (Nat.le_refl _) _
  have HL := Lib.hid hL
  have HI := Lib.hid (hI.below hb0)
  have HB0 := Lib.hid hb0
  have HT := Lib.hid hb
  have X0 := Lib.hid (Box.new w 27 #[.slice A n c])
  clear hb0 hI hL hb
  go_enter Tryd.func12, Tryd.ntmps12
  go_wp2_with fail
  refine (l06Is_calls A n c rs _ HL.out hn HT.out HI.out).mono ?_
  rintro e w1 ⟨rfl, hb1⟩
  have HB1 := Lib.hid (HB0.out.trans (hb1.mono HB0.out.size))
  have HI1 := Lib.hid (HI.out.below hb1)
  have X1 := Lib.hid (X0.out.below hb1 X0.out.lt)
  clear hb1 HB0 HI X0
  cases hh : heapB (LLof rs) with
  | true =>
    have HD := Lib.hid (And.intro (reg_yes hh) (door_yes hh))
    have HH := Lib.hid hh
    clear hh
    obtain ⟨x0, _⟩ := X1.out.one
    go_wp2_with fail
    refine (l06Wrong_calls A n c rs _ HL.out HI1.out HH.out).mono ?_
    rintro e w2 ⟨rfl, hb2⟩
    have HB2 := Lib.hid (HB1.out.trans (hb2.mono HB1.out.size))
    clear hb2
    have e1 : Hid ((((wrongs (LLof rs) : Nat) : Int) == 0) = regV (LLof rs)) := by
      unfold Hid
      rw [HD.out.1.1]
      by_cases h : wrongs (LLof rs) = 0
      · rw [h]; rfl
      · rw [decide_eq_false h]; simp; exact h
    have e2 : Hid (doorE (LLof rs) = 0) := HD.out.2.2
    generalize ((wrongs (LLof rs) : Nat) : Int) = x at *
    go_wp2
    go_ret2
    rw [e1.out, e2.out]
    exact ⟨rfl, HB2.out⟩
  | false =>
    have HD := Lib.hid (And.intro (reg_no hh) (door_no hh))
    clear hh
    go_wp2
    go_ret2
    rw [HD.out.1.1, HD.out.2.2]
    exact ⟨rfl, HB1.out⟩

set_option maxHeartbeats 2000000 in
theorem implIsRegularHeap_h (A : Option Addr) (n c : Nat) (rs : List Rw) (ea : Addr) (w : World) (hL : rs.length = n) (hn : n ≤ 1048576) (hb : totN rs ≤ 1048576) (hI : IntsSS w A rs) (hS : Sent w ea) :
    Calls Tryd.prog 13 #[.agg #[.slice A n c]] w fun e w' => e = .returned (.tuple #[.bool (regV (LLof rs)), .int .i64 (doorE (LLof rs))]) ∧ Below w.heap.size w w' := by
  have hb0 : Below w.heap.size w (w.alloc (.cells #[.slice A n c] 27)) := (Below.refl _ _).alloc (Nat.le_refl _) _
  have HL := Lib.hid hL
  have HI := Lib.hid (hI.below hb0)
  have HB0 := Lib.hid hb0
  have S0 := Lib.hid (hS.below hb0)
  have HT := Lib.hid hb
  clear hb0 hI hL hb hS
  go_enter Tryd.func13, Tryd.ntmps13
  go_wp2_with fail
  refine (heapDoor_calls A n c rs ea _ HL.out hn HT.out HI.out S0.out).mono ?_
  rintro e w1 ⟨rfl, hb1⟩
  have HB1 := Lib.hid (HB0.out.trans (hb1.mono HB0.out.size))
  clear hb1
  cases hh : heapB (LLof rs) with
  | true =>
    have HD := Lib.hid (And.intro (reg_yes hh) (reg_piles hh))
    have hd := door_yes hh
    rw [hd.1, hd.2]
    have HE := Lib.hid hd.2
    clear hd hh
    have P1 := Lib.hid (Box.new w1 48 (zA (pilesOf (LLof rs))))
    have HB2 := Lib.hid (HB1.out.alloc HB1.out.size (.cells (zA (pilesOf (LLof rs))) 48))
    have hr := Lib.hid (isRegular_calls (pilesOf (LLof rs)) (w1.alloc (.cells (zA (pilesOf (LLof rs))) 48)))
    have e1 : Hid (regZ (pilesOf (LLof rs)) = regV (LLof rs)) := by unfold Hid; rw [HD.out.2, HD.out.1.1]
    rw [e1.out] at hr
    clear HD e1
    generalize pilesOf (LLof rs) = Z at *
    simp only [zA] at hr HB2
    simp only [zA]
    go_wp2_with fail
    refine hr.out.mono ?_
    rintro e w2 ⟨rfl, hb2⟩
    have HB3 := Lib.hid (HB2.out.trans (hb2.mono HB2.out.size))
    clear hb2
    go_wp2
    go_ret2
    rw [HE.out]
    exact ⟨rfl, HB3.out⟩
  | false =>
    have HD := Lib.hid (reg_no hh)
    have hd := door_no hh
    rw [hd.1, hd.2]
    have HE := Lib.hid hd.2
    clear hd hh
    simp only [zA]
    go_wp2
    go_ret2
    rw [HE.out, HD.out.1]
    exact ⟨rfl, HB1.out.alloc HB1.out.size _⟩

end Go.Proofs.YtdifolaobgclgaaDoor
