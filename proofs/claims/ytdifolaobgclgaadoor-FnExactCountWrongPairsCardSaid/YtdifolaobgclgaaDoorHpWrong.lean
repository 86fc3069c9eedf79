/- Contracts: the number of wrong pairs. -/
import Derived.Test.YtdifolaobgclgaaDoorHpReg
namespace Go.Proofs.YtdifolaobgclgaaDoor
open Go.RowKit
set_option linter.unusedVariables false

set_option maxHeartbeats 1000000 in
theorem specCountWrongPairs_h (A : Option Addr) (n c : Nat) (rs : List Rw) (w : World) (hL : rs.length = n) (hn : n ≤ 1048576) (hb : totN rs ≤ 1048576) (hI : IntsSS w A rs) :
    Calls Tryd.prog 20 #[.agg #[.slice A n c]] w fun e w' => e = .returned (.tuple #[.int .i64 (wrongV (LLof rs)), .int .i64 (doorE (LLof rs))]) ∧ Below w.heap.size w w' := by
  have hb0 : Below w.heap.size w (w.alloc (.cells #[.slice A n c] 27)) := (Below.refl _ _).alloc (Nat.le_refl _) _
  have HL := Lib.hid hL
  have HI := Lib.hid (hI.below hb0)
  have HB0 := Lib.hid hb0
  have HT := Lib.hid hb
  have X0 := Lib.hid (Box.new w 27 #[.slice A n c])
  clear hb0 hI hL hb
  go_enter Tryd.func20, Tryd.ntmps20
  go_wp2_with fail
  refine (l06Is_calls A n c rs _ HL.out hn HT.out HI.out).mono ?_
  rintro e w1 ⟨rfl, hb1⟩
  have HB1 := Lib.hid (HB0.out.trans (hb1.mono HB0.out.size))
  have HI1 := Lib.hid (HI.out.below hb1)
  have X1 := Lib.hid (X0.out.below hb1 X0.out.lt)
  clear hb1 HB0 HI X0
  cases hh : heapB (LLof rs) with
  | true =>
    have HD := Lib.hid (And.intro (reg_yes hh) (door_yes hh))
    have HH := Lib.hid hh
    clear hh
    obtain ⟨x0, _⟩ := X1.out.one
    go_wp2_with fail
    refine (l06Wrong_calls A n c rs _ HL.out HI1.out HH.out).mono ?_
    rintro e w2 ⟨rfl, hb2⟩
    have HB2 := Lib.hid (HB1.out.trans (hb2.mono HB1.out.size))
    clear hb2
    go_wp2
    go_ret2
    rw [HD.out.1.2, HD.out.2.2]
    exact ⟨rfl, HB2.out⟩
  | false =>
    have HD := Lib.hid (And.intro (reg_no hh) (door_no hh))
    clear hh
    go_wp2
    go_ret2
    rw [HD.out.1.2, HD.out.2.2]
    exact ⟨rfl, HB1.out⟩

theorem slice_pile (b j : Nat) (hj : j < 4) : ∃ o : Nat, (j < 3 → o = j + 1) ∧ ∀ w, (Instr.sliceAt 46 (.pointer (some ⟨b, 0, none⟩)) (some (.int .i64 ((j : Int) + 1))) none none).run Tryd.prog w = .ok (.slice (some ⟨b, o, none⟩) (3 - j) (3 - j)) w := by
  match j, hj with
  | 0, _ => exact ⟨1, fun _ => rfl, fun w => by simp [Instr.sliceAt, go_sem]⟩
  | 1, _ => exact ⟨2, fun _ => rfl, fun w => by simp [Instr.sliceAt, go_sem]⟩
  | 2, _ => exact ⟨3, fun _ => rfl, fun w => by simp [Instr.sliceAt, go_sem]⟩
  | 3, _ => exact ⟨0, fun h => absurd h (by omega), fun w => by simp [Instr.sliceAt, go_sem]⟩
theorem zL_len (Z : Nat → Int) (a : Nat) : (zL Z a).length = 4 := rfl
theorem wP_heap {LL : List (List Int)} (h : heapB LL = true) {a : Nat} {l : List Int} (hl : LL[a]? = some l) : wrK LL (a + 1) = wrK LL a + wP (zL (pilesOf LL) a) := by
  obtain ⟨q1, q2⟩ := heap_stack h hl
  rw [wrK_succ hl, zL_piles hl, wP_pl4 q1 (fun x hx => (q2 x hx).2.2)]
theorem wP_four (l : List Int) (h : l.length = 4) : wP l ≤ 16 := by have := wP_le l; rw [h] at this; exact this

set_option maxRecDepth 100000 in
set_option maxHeartbeats 4000000 in
theorem implCountWrongPairs_h (A : Option Addr) (n c : Nat) (rs : List Rw) (ea : Addr) (w : World) (hL : rs.length = n) (hn : n ≤ 1048576) (hb : totN rs ≤ 1048576) (hI : IntsSS w A rs) (hS : Sent w ea) :
    Calls Tryd.prog 21 #[.agg #[.slice A n c]] w fun e w' => e = .returned (.tuple #[.int .i64 (wrongV (LLof rs)), .int .i64 (doorE (LLof rs))]) ∧ Below w.heap.size w w' := by
  have hb0 : Below w.heap.size w (w.alloc (.cells #[.slice A n c] 27)) := (Below.refl _ _).alloc (Nat.le_refl _) _
  have HL := Lib.hid hL
  have HI := Lib.hid (hI.below hb0)
  have HB0 := Lib.hid hb0
  have S0 := Lib.hid (hS.below hb0)
  have HT := Lib.hid hb
  clear hb0 hI hL hb hS
  go_enter Tryd.func21, Tryd.ntmps21
  go_wp2_with fail
  refine (heapDoor_calls A n c rs ea _ HL.out hn HT.out HI.out S0.out).mono ?_
  rintro e w1 ⟨rfl, hb1⟩
  have HB1 := Lib.hid (HB0.out.trans (hb1.mono HB0.out.size))
  clear hb1
  cases hh : heapB (LLof rs) with
  | true =>
    have HD := Lib.hid (reg_yes hh)
    have HH := Lib.hid hh
    have hd := door_yes hh
    rw [hd.1, hd.2]
    have HE := Lib.hid hd.2
    have h3 := (heapB_facts hh).1
    have H3 := Lib.hid h3
    clear hd hh h3
    have P1 := Lib.hid (Box.new w1 48 (zA (pilesOf (LLof rs))))
    have HB2 := Lib.hid (HB1.out.alloc HB1.out.size (.cells (zA (pilesOf (LLof rs))) 48))
    obtain ⟨Z, hZ⟩ : ∃ Z, Z = pilesOf (LLof rs) := ⟨_, rfl⟩
    rw [← hZ] at P1 HB2
    rw [← hZ]
    have HZ := Lib.hid hZ
    clear hZ
    have HIX : Hid (∀ a : Nat, a < 3 → ∀ w, (Instr.index 48 (.agg (zA Z)) (.int .i64 (a : Int))).run Tryd.prog w = .ok (.agg #[.int .i64 (Z (a * 4)), .int .i64 (Z (a * 4 + 1)), .int .i64 (Z (a * 4 + 2)), .int .i64 (Z (a * 4 + 3))]) w) := fun a ha w => ix_piles Z a ha w
    obtain ⟨W0, hW0⟩ : ∃ W0, W0 = w1.alloc (.cells (zA Z) 48) := ⟨_, rfl⟩
    rw [← hW0] at P1 HB2
    have HW := Lib.hid hW0
    clear hW0
    simp only [zA] at HIX HW
    simp only [zA]
    go_wp2
    rw [← HW.out]
    go_loopw [6, 22] (fun m i wr => ∃ a q : Nat, a ≤ 3 ∧ i = .int .i64 a ∧ m = .int .i64 q ∧ Hid (q = wrK (LLof rs) a) ∧ q ≤ 16 * a ∧ Below W0.heap.size W0 wr) (fun _ i _ => 3 - (intOf i).toNat)
    case atStart => exact ⟨0, 0, by omega, rfl, rfl, by unfold Hid wrK; simp, by omega, Below.refl _ _⟩
    case round =>
      obtain ⟨a, q, ha, rfl, rfl, hq, hqb, hbl⟩ := hrel
      have HBl := Lib.hid hbl
      clear hbl
      obtain ⟨wr', hwr'⟩ : ∃ wr', wr' = wr := ⟨_, rfl⟩
      subst hwr'
      by_cases hlt : a < 3
      · have hlt2 : (a : Int) < 3 := by omega
        have hix := HIX.out a hlt
        have Hs : Hid (wrK (LLof rs) (a + 1) = wrK (LLof rs) a + wP (zL Z a)) := by unfold Hid; rw [HZ.out]; exact wP_heap HH.out (List.getElem?_eq_getElem (by rw [H3.out]; exact hlt))
        have hB8 := Box.new wr' 46 #[.int .i64 (Z (a * 4)), .int .i64 (Z (a * 4 + 1)), .int .i64 (Z (a * 4 + 2)), .int .i64 (Z (a * 4 + 3))]
        have hal : Below wr'.heap.size wr' (wr'.alloc (.cells #[.int .i64 (Z (a * 4)), .int .i64 (Z (a * 4 + 1)), .int .i64 (Z (a * 4 + 2)), .int .i64 (Z (a * 4 + 3))] 46)) := (Below.refl _ _).alloc (Nat.le_refl _) _
        obtain ⟨W8, hW8⟩ : ∃ W8, W8 = wr'.alloc (.cells #[.int .i64 (Z (a * 4)), .int .i64 (Z (a * 4 + 1)), .int .i64 (Z (a * 4 + 2)), .int .i64 (Z (a * 4 + 3))] 46) := ⟨_, rfl⟩
        rw [← hW8] at hB8 hal
        have X8 := Lib.hid hB8
        have I8 := Lib.hid hB8.ints4
        have HAL := Lib.hid hal
        have HW8 := Lib.hid hW8
        have hwp := wP_four (zL Z a) rfl
        obtain ⟨pl, hpl⟩ : ∃ pl, pl = zL Z a := ⟨_, rfl⟩
        rw [← hpl] at Hs hwp
        have HPL := Lib.hid hpl
        have HL4 : Hid (pl.length = 4) := by unfold Hid; rw [hpl]; rfl
        have HIX4 : Hid (∀ j : Nat, j < 4 → ∀ w, (Instr.index 46 (.agg #[.int .i64 (Z (a * 4)), .int .i64 (Z (a * 4 + 1)), .int .i64 (Z (a * 4 + 2)), .int .i64 (Z (a * 4 + 3))]) (.int .i64 (j : Int))).run Tryd.prog w = .ok (.int .i64 (pl[j]?.getD 0)) w) := by
          intro j hj w
          rw [hpl]
          exact ix_pile _ _ _ _ j hj w
        have I8' : Hid (Ints W8 (some ⟨wr'.heap.size, 0, none⟩) pl) := by unfold Hid; rw [hpl]; exact I8.out
        clear hB8 hal hW8 hpl I8
        go_wp2
        rw [← HW8.out]
        go_loopw [6, 26] (fun m i wq => ∃ j p : Nat, j ≤ 4 ∧ i = .int .i64 j ∧ m = .int .i64 ((q + p : Nat) : Int) ∧ Hid (p + wP (pl.drop j) = wP pl) ∧ p ≤ 16 ∧ Below W8.heap.size W8 wq) (fun _ i _ => 4 - (intOf i).toNat)
        case atStart => exact ⟨0, 0, by omega, rfl, by simp, by unfold Hid; simp, by omega, Below.refl _ _⟩
        case round =>
          obtain ⟨j, p, hj, rfl, rfl, hp, hpb, hbl⟩ := hrel
          have HB3 := Lib.hid hbl
          clear hbl
          by_cases hjl : j < 4
          · have hjl2 : (j : Int) < 4 := by omega
            have hix4 := HIX4.out j hjl
            have hdr := Lib.hid (wP_drop (l := pl) (q := j) (by rw [HL4.out]; exact hjl))
            obtain ⟨x, hx⟩ : ∃ x, x = pl[j]?.getD 0 := ⟨_, rfl⟩
            rw [← hx] at hix4 hdr
            clear hx
            have hz8 := Nat.le_trans HAL.out.size HB3.out.size
            obtain ⟨o, ho, hsl⟩ := slice_pile wr'.heap.size j hjl
            have HO := Lib.hid ho
            clear ho
            obtain ⟨r, hr⟩ : ∃ r, r = 3 - j := ⟨_, rfl⟩
            rw [← hr] at hsl
            have HRr := Lib.hid hr
            have hr3 : r ≤ 3 := by omega
            clear hr
            go_wp2
            go_loopw [6, 12, 34] (fun m _ i wx => ∃ k z : Nat, k ≤ r ∧ i = .int .i64 k ∧ m = .int .i64 ((q + p + z : Nat) : Int) ∧ Hid (z + lessN x (pl.drop (j + 1 + k)) = lessN x (pl.drop (j + 1))) ∧ z ≤ k ∧ Below W8.heap.size W8 wx) (fun _ _ i _ => r - (intOf i).toNat)
            case atStart => exact ⟨0, 0, by omega, rfl, by simp, by unfold Hid; simp, by omega, HB3.out⟩
            case round =>
              obtain ⟨k, z, hk, rfl, rfl, hz, hzb, hbl⟩ := hrel
              have HB4 := Lib.hid hbl
              have hI8 := Lib.hid (I8'.out.below hbl)
              clear hbl
              by_cases hkr : k < r
              · have hkr2 : (k : Int) < (r : Int) := by omega
                have ho2 := HO.out (by have := HRr.out; omega)
                subst ho2
                obtain ⟨ae, hae, had2, hck⟩ := hI8.out (j + 1 + k) (by rw [HL4.out]; have := HRr.out; omega)
                injection hae with hae
                subst hae
                rw [add_zero_at, List.getD_eq_getElem?_getD] at hck
                have hdk := Lib.hid (lessN_drop (x := x) (l := pl) (q := j + 1 + k) (by rw [HL4.out]; have := HRr.out; omega))
                generalize pl[j + 1 + k]?.getD 0 = y at *
                by_cases hgt : x > y
                · have hd2 : Hid (z + 1 + lessN x (pl.drop (j + 1 + (k + 1))) = lessN x (pl.drop (j + 1))) := by
                    have h1 := hdk.out
                    rw [if_pos hgt] at h1
                    have h2 := hz.out
                    unfold Hid
                    rw [show j + 1 + (k + 1) = j + 1 + k + 1 by omega]
                    omega
                  have hgt2 : y < x := hgt
                  clear hgt hdk
                  go_wp2
                  go_roundw
                  case rel => exact ⟨k + 1, z + 1, by omega, by go_num, by go_num, hd2.out, by omega, HB4.out⟩
                  case measure => simp [intOf]; omega
                · have hd2 : Hid (z + lessN x (pl.drop (j + 1 + (k + 1))) = lessN x (pl.drop (j + 1))) := by
                    have h1 := hdk.out
                    rw [if_neg hgt] at h1
                    have h2 := hz.out
                    unfold Hid
                    rw [show j + 1 + (k + 1) = j + 1 + k + 1 by omega]
                    omega
                  have hgt2 : ¬ y < x := hgt
                  clear hgt hdk
                  go_wp2
                  go_roundw
                  case rel => exact ⟨k + 1, z, by omega, by go_num, by go_num, hd2.out, by omega, HB4.out⟩
                  case measure => simp [intOf]; omega
              · obtain rfl : k = r := by omega
                have e : Hid (z = lessN x (pl.drop (j + 1))) := by
                  have h := hz.out
                  rw [List.drop_eq_nil_of_le (by rw [HL4.out]; have := HRr.out; omega)] at h
                  exact h
                have hp2 : Hid (p + z + wP (pl.drop (j + 1)) = wP pl) := by
                  have h1 := hp.out
                  have h2 := hdr.out
                  have h3 := e.out
                  unfold Hid
                  omega
                have hpz : p + z ≤ 16 := by have := hp2.out; omega
                go_wp2
                go_roundw
                case rel => exact ⟨j + 1, p + z, by omega, by go_num, by go_num, hp2.out, hpz, HB4.out⟩
                case measure => simp [intOf]; omega
          · obtain rfl : j = 4 := by omega
            have e : Hid (p = wP pl) := by
              have h := hp.out
              rw [List.drop_eq_nil_of_le (by rw [HL4.out]; exact Nat.le_refl _)] at h
              exact h
            go_wp2
            go_roundw
            case rel => exact ⟨a + 1, q + p, by omega, by go_num, by go_num, by unfold Hid; rw [Hs.out, ← hq.out, e.out], by omega, HBl.out.trans ((HAL.out.trans (HB3.out.mono HAL.out.size)).mono HBl.out.size)⟩
            case measure => simp [intOf]; omega
      · obtain rfl : a = 3 := by omega
        have e : Hid ((q : Int) = wrongV (LLof rs)) := by unfold Hid; rw [HD.out.2]; unfold wrongs; rw [H3.out, ← hq.out]
        go_wp2
        go_ret2
        rw [HE.out, e.out]
        exact ⟨rfl, HB2.out.trans (HBl.out.mono HB2.out.size)⟩
  | false =>
    have HD := Lib.hid (reg_no hh)
    have hd := door_no hh
    rw [hd.1, hd.2]
    have HE := Lib.hid hd.2
    clear hd hh
    simp only [zA]
    go_wp2
    go_ret2
    rw [HE.out, HD.out.2]
    exact ⟨rfl, HB1.out.alloc HB1.out.size _⟩

end Go.Proofs.YtdifolaobgclgaaDoor
