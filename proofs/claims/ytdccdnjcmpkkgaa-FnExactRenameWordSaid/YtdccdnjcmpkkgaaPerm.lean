/- Contracts: a list that names each of 0 to k - 1 once. -/
import Derived.Test.YtdccdnjcmpkkgaaWord
import Derived.Test.YtdccdnjcmpkkgaaTo
import Derived.Test.YtdccdnjcmpkkgaaMark
import Derived.Test.YtdccdnjcmpkkgaaOwnG
namespace Go.Proofs.Ytdccdnjcmpkkgaa
open Go.RowKit
set_option linter.unusedVariables false

/-- v is among the first j. -/
def metTo (P : List Int) : Nat → Int → Bool
  | 0, _ => false
  | j + 1, v => metTo P j v || decide (v = P[j]?.getD 0)
/-- The first j are in range, and none is met twice. -/
def okTo (k : Int) (P : List Int) : Nat → Bool
  | 0 => true
  | j + 1 => okTo k P j && (inB (P[j]?.getD 0) 0 (k - 1) && !metTo P j (P[j]?.getD 0))
def permB (k : Int) (P : List Int) : Bool := decide ((P.length : Int) = k) && okTo k P P.length
theorem okTo_no {k : Int} {P : List Int} : ∀ j m, j ≤ m → okTo k P j = false → okTo k P m = false
  | j, 0, h, h' => by obtain rfl : j = 0 := by omega
                      exact h'
  | j, m + 1, h, h' => by
    by_cases hj : j = m + 1
    · subst hj; exact h'
    · rw [okTo, okTo_no j m (by omega) h']; rfl
theorem okTo_at {k : Int} {P : List Int} : ∀ m, okTo k P m = true → ∀ j, j < m → 0 ≤ P[j]?.getD 0 ∧ P[j]?.getD 0 ≤ k - 1
  | 0, _, j, hj => absurd hj (by omega)
  | m + 1, h, j, hj => by
    rw [okTo, Bool.and_eq_true, Bool.and_eq_true] at h
    by_cases hjm : j = m
    · subst hjm; exact inB_of h.2.1
    · exact okTo_at m h.1 j (by omega)
def metV (P : List Int) (j v : Nat) : Value := .bool (metTo P j v)
theorem metV_step {P : List Int} {j x : Nat} (hx : P[j]?.getD 0 = x) : ∀ v, (if v = x then Value.bool true else metV P j v) = metV P (j + 1) v := by
  intro v
  show _ = Value.bool (metTo P j v || decide ((v : Int) = P[j]?.getD 0))
  rw [hx]
  by_cases h : v = x
  · subst h; simp
  · rw [if_neg h]
    have : ¬ (v : Int) = (x : Int) := by omega
    rw [decide_eq_false this, Bool.or_false]
    rfl

theorem rowFive (w : World) (P : List Int) (e : Nat) : (w.alloc (.cells #[.bool false, .bool false, .bool false, .bool false, .bool false] e)).rowIs w.heap.size e 5 (metV P 0) :=
  World.rowIs_alloc w #[.bool false, .bool false, .bool false, .bool false, .bool false] e (metV P 0) (fun i hi => by
    have hi' : i < 5 := hi
    have : i = 0 ∨ i = 1 ∨ i = 2 ∨ i = 3 ∨ i = 4 := by omega
    rcases this with rfl | rfl | rfl | rfl | rfl <;> rfl)

set_option maxHeartbeats 2000000 in
theorem isPegList_calls (k : Int) (A : Option Addr) (n c : Nat) (P : List Int) (w : World) (h3 : 3 ≤ k ∧ k ≤ 5) (hP : P.length = n) (hn : n ≤ 1048576) (hI : Ints w A P) :
    Calls Try.prog 36 #[.int .i64 k, .slice A n c] w fun e w' => e = .returned (.bool (permB k P)) ∧ Below w.heap.size w w' := by
  have HP := Lib.hid hP
  have HI := Lib.hid hI
  clear hP hI
  by_cases hk : (n : Int) = k
  · have hd : ((n : Int) != k) = false := by simpa using hk
    have HPB := Lib.hid (show permB k P = okTo k P n by unfold permB; rw [HP.out, decide_eq_true hk]; rfl)
    go_enter Try.func36, Try.ntmps36
    go_wp2
    go_loopw [7, 14] (fun _ i wr => ∃ j : Nat, j ≤ n ∧ i = .int .i64 j ∧ Hid (okTo k P j = true) ∧ wr.rowIs w.heap.size 67 5 (metV P j) ∧ Below w.heap.size w wr) (fun _ i _ => n - (intOf i).toNat)
    case atStart => exact ⟨0, Nat.zero_le _, rfl, Lib.hid rfl, rowFive _ _ _, (Below.refl _ _).alloc (Nat.le_refl _) _⟩
    case round =>
      obtain ⟨j, hj, rfl, HK, hrow, hb⟩ := hrel
      by_cases hlt : j < n
      · obtain ⟨ad, rfl, had, hc⟩ := (HI.out.below hb) j (by rw [HP.out]; exact hlt)
        have hR := Lib.hid hrow
        have HB := Lib.hid hb
        clear hb
        by_cases hin : inB (P[j]?.getD 0) 0 (k - 1) = true
        · obtain ⟨x, hx⟩ := Int.eq_ofNat_of_zero_le (inB_of hin).1
          have hx5 : x < 5 := by have := (inB_of hin).2; omega
          have hcell := hrow.cell (i := x) hx5
          have hfz := hrow.frozen x
          have hpg : pegB k x = true := by rw [pegB_in, ← hx]; exact hin
          have HX := Lib.hid hx
          have hc' : wr.cell? (ad.add j) = some (.int .i64 x) := by rw [← hx]; simpa using hc
          have HIN := Lib.hid hin
          clear hc hrow hx hin
          by_cases hm : metTo P j x = true
          · have hv : metV P j x = .bool true := by unfold metV; rw [hm]
            rw [hv] at hcell
            have HN := Lib.hid (show permB k P = false by rw [HPB.out]; exact okTo_no (j + 1) n (by omega) (by rw [okTo, HX.out, hm]; simp))
            clear hm hv
            go_wp2_with fail
            refine (isPeg_calls k x _).mono ?_
            rintro e w' ⟨rfl, rfl⟩
            go_wp2
            go_ret
            exact ⟨ret_bool HN.out.symm, HB.out⟩
          · have hm' : metTo P j x = false := by simpa using hm
            have hv : metV P j x = .bool false := by unfold metV; rw [hm']
            rw [hv] at hcell
            have HK' := Lib.hid (show okTo k P (j + 1) = true by rw [okTo, HK.out, HIN.out, HX.out, hm']; rfl)
            have HST := Lib.hid (metV_step HX.out)
            clear hm hm' hv
            go_wp2_with fail
            refine (isPeg_calls k x _).mono ?_
            rintro e w' ⟨rfl, rfl⟩
            go_wp2
            go_roundw
            case rel => exact ⟨j + 1, by omega, by go_num, HK', (hR.out.set x _).congr (fun v _ => HST.out v), HB.out.setCell (Nat.le_refl _) _⟩
            case measure => simp [intOf]; omega
        · have hin' : inB (P[j]?.getD 0) 0 (k - 1) = false := by simpa using hin
          have hpg : pegB k (P[j]?.getD 0) = false := by rw [pegB_in]; exact hin'
          have HN := Lib.hid (show permB k P = false by rw [HPB.out]; exact okTo_no (j + 1) n (by omega) (by rw [okTo, hin']; simp))
          clear hin hin' hrow
          go_wp2_with fail
          refine (isPeg_calls k _ _).mono ?_
          rintro e w' ⟨rfl, rfl⟩
          go_wp2
          go_ret
          exact ⟨ret_bool HN.out.symm, HB.out⟩
      · obtain rfl : j = n := by omega
        go_wp2
        go_ret
        exact ⟨ret_bool (HPB.out.trans HK.out).symm, hb⟩
  · have hd : ((n : Int) != k) = true := by simpa using hk
    have HN := Lib.hid (show permB k P = false by unfold permB; rw [HP.out, decide_eq_false hk]; rfl)
    clear hk
    go_enter Try.func36, Try.ntmps36
    go_wp2
    go_ret
    exact ⟨ret_bool HN.out.symm, Below.refl _ _⟩

/-- What RenameWord answers. -/
def rnL (L P : List Int) : List Int := L.map (fun x => P[x.toNat]?.getD 0)
def rwB (k : Int) (L P : List Int) : Bool := stateB k L && permB k P
def rwV (k : Int) (L P : List Int) : List Int := if rwB k L P = true then rnL L P else []
def rwC (k : Int) (L P : List Int) : Int := if rwB k L P = true then 0 else 2
theorem rw_yes {k : Int} {L P : List Int} (h1 : stateB k L = true) (h2 : permB k P = true) : rwV k L P = rnL L P ∧ rwC k L P = 0 := by
  have h : rwB k L P = true := by unfold rwB; rw [h1, h2]; rfl
  exact ⟨by unfold rwV; rw [if_pos h], by unfold rwC; rw [if_pos h]⟩
theorem rw_no {k : Int} {L P : List Int} (h : rwB k L P = false) : rwV k L P = [] ∧ rwC k L P = 2 := ⟨by unfold rwV; rw [h]; rfl, by unfold rwC; rw [h]; rfl⟩
theorem rwV_len (k : Int) (L P : List Int) : (rwV k L P).length ≤ 8 := by
  by_cases h : rwB k L P = true
  · have h1 : stateB k L = true := by unfold rwB at h; rw [Bool.and_eq_true] at h; exact h.1
    have := (state_facts h1 rfl).2.2.1
    unfold rwV rnL
    rw [if_pos h, List.length_map]
    exact this
  · unfold rwV; rw [if_neg h]; simp
theorem perm_len {k : Int} {P : List Int} (h : permB k P = true) : (P.length : Int) = k := by unfold permB at h; rw [Bool.and_eq_true, decide_eq_true_iff] at h; exact h.1
theorem rnL_at {L P : List Int} {j x : Nat} (hj : j < L.length) (hx : L[j]?.getD 0 = x) : (rnL L P)[j]?.getD 0 = P[x]?.getD 0 := by
  unfold rnL
  rw [List.getElem?_map, List.getElem?_eq_getElem hj]
  rw [List.getElem?_eq_getElem hj, Option.getD_some] at hx
  simp [hx]

set_option maxHeartbeats 2000000 in
theorem implRenameWord_ret (k : Int) (A : Option Addr) (n c : Nat) (L : List Int) (B : Option Addr) (m d : Nat) (P : List Int) (w : World) (hL : L.length = n) (hn : n ≤ 1048576) (hI : Ints w A L) (hP : P.length = m) (hm : m ≤ 1048576) (hJ : Ints w B P) :
    Calls Try.prog 20 #[.int .i64 k, .slice A n c, .slice B m d] w (RetInts w (rwV k L P).length (rwV k L P) (rwC k L P)) := by
  have HL := Lib.hid hL
  have HP := Lib.hid hP
  have HI := Lib.hid hI
  have HJ := Lib.hid hJ
  clear hI hJ
  by_cases hs : stateB k L = true
  · have hf := state_facts hs hL
    by_cases hp : permB k P = true
    · obtain ⟨e1, e2⟩ := rw_yes hs hp
      have hlen := perm_len hp
      rw [HP.out] at hlen
      rw [e1, e2]
      have hmk := run_make_row' (P := Try.prog) 25 2 (.int .i64 0) 8 Try.underlying25 Try.infoI rfl .i64 .i64 n (by omega) (by omega)
      have HS := Lib.hid hs
      have HRL := Lib.hid (show (rnL L P).length = n by unfold rnL; rw [List.length_map, HL.out])
      clear e1 e2 hL hP
      go_enter Try.func20, Try.ntmps20
      go_wp2_with fail
      refine (implIsSierpinskiWord_calls k A n c L _ HL.out hn HI.out).mono ?_
      rintro e w1 ⟨rfl, hb1⟩
      have HB1 := Lib.hid hb1
      have HI1 := Lib.hid (HI.out.below hb1)
      have HJ1 := Lib.hid (HJ.out.below hb1)
      clear hb1
      go_wp2_with fail
      refine (isPegList_calls k B m d P _ (by omega) HP.out hm HJ1.out).mono ?_
      rintro e w2 ⟨rfl, hb2⟩
      have HB2 := Lib.hid (HB1.out.trans (hb2.mono HB1.out.size))
      have HI2 := Lib.hid (HI1.out.below hb2)
      have HJ2 := Lib.hid (HJ1.out.below hb2)
      have hsz := HB2.out.size
      clear hb2 HI1 HJ1 HB1
      go_wp2
      clear hs hp
      go_loopw [9, 10, 26] (fun _ _ i wr => ∃ j : Nat, j ≤ n ∧ i = .int .i64 j ∧ wr.rowIs w2.heap.size 2 n (upto (rnL L P) j) ∧ Below w2.heap.size w2 wr) (fun _ _ i _ => n - (intOf i).toNat)
      case atStart => exact ⟨0, Nat.zero_le _, rfl, (World.rowIs_made _ _ _ _).congr (fun i _ => by simp [upto]), (Below.refl _ _).alloc (Nat.le_refl _) _⟩
      case round =>
        obtain ⟨j, hj, rfl, hrow, hb⟩ := hrel
        by_cases hlt : j < n
        · obtain ⟨ad, rfl, had, hc⟩ := (HI2.out.below hb) j (by rw [HL.out]; exact hlt)
          have hx0 := state_at HS.out j (by rw [HL.out]; exact hlt)
          obtain ⟨x, hx⟩ := Int.eq_ofNat_of_zero_le hx0.1
          obtain ⟨ad', rfl, had', hc2⟩ := (HJ2.out.below hb) x (by rw [HP.out]; omega)
          have hc' : wr.cell? (ad.add j) = some (.int .i64 x) := by rw [← hx]; simpa using hc
          have hxm : (x : Int) < (m : Int) := by omega
          have hx00 : (0 : Int) ≤ (x : Int) := by omega
          have HAT := Lib.hid (rnL_at (P := P) (by rw [HL.out]; exact hlt) hx)
          have hR := Lib.hid hrow
          have HB := Lib.hid hb
          have hfz := hrow.frozen j
          have hold := hrow.cell hlt
          clear hc hx hx0 hrow hb
          go_wp2
          go_roundw
          case rel => exact ⟨j + 1, by omega, by go_num, (hR.out.set j _).congr (fun i _ => by rw [← upto_step, HAT.out]), HB.out.setCell (Nat.le_refl _) _⟩
          case measure => simp [intOf]; omega
        · obtain rfl : j = n := by omega
          go_wp2
          go_ret2
          refine ⟨_, j, by rw [HRL.out]; rfl, ?_, HB2.out.trans (hb.mono hsz)⟩
          have hro : Row wr w2.heap.size 2 (rnL L P) := by
            unfold Row
            rw [HRL.out]
            exact hrow.congr (fun i hi => by simp [upto, hi])
          have := hro.own (B := w.heap.size) hsz (by rw [HRL.out]; omega)
          rw [HRL.out] at this ⊢
          exact this
    · have hp' : permB k P = false := by simpa using hp
      obtain ⟨e1, e2⟩ := rw_no (show rwB k L P = false by unfold rwB; rw [hs, hp']; rfl)
      rw [e1, e2]
      clear e1 e2 hp hL hP
      go_enter Try.func20, Try.ntmps20
      go_wp2_with fail
      refine (implIsSierpinskiWord_calls k A n c L _ HL.out hn HI.out).mono ?_
      rintro e w1 ⟨rfl, hb1⟩
      have HB1 := Lib.hid hb1
      have HJ1 := Lib.hid (HJ.out.below hb1)
      clear hb1
      go_wp2_with fail
      refine (isPegList_calls k B m d P _ (by omega) HP.out hm HJ1.out).mono ?_
      rintro e w2 ⟨rfl, hb2⟩
      have HB2 := Lib.hid (HB1.out.trans (hb2.mono HB1.out.size))
      clear hb2
      go_wp2
      go_ret2
      exact retInts_zero rfl HB2.out
  · have hs' : stateB k L = false := by simpa using hs
    obtain ⟨e1, e2⟩ := rw_no (show rwB k L P = false by unfold rwB; rw [hs']; rfl)
    rw [e1, e2]
    clear e1 e2 hs hL hP
    go_enter Try.func20, Try.ntmps20
    go_wp2_with fail
    refine (implIsSierpinskiWord_calls k A n c L _ HL.out hn HI.out).mono ?_
    rintro e w1 ⟨rfl, hb1⟩
    go_wp2
    go_ret2
    exact retInts_zero rfl hb1

theorem rnL_take {L P : List Int} {j x : Nat} (hj : j < L.length) (hx : L[j]?.getD 0 = x) : rnL (L.take (j + 1)) P = rnL (L.take j) P ++ [P[x]?.getD 0] := by
  rw [List.getElem?_eq_getElem hj, Option.getD_some] at hx
  unfold rnL
  rw [List.take_succ_eq_append_getElem hj, List.map_append, List.map_cons, List.map_nil, hx, Int.toNat_natCast]

set_option maxHeartbeats 4000000 in
theorem specRenameWord_ret (k : Int) (A : Option Addr) (n c : Nat) (L : List Int) (B : Option Addr) (m d : Nat) (P : List Int) (w : World) (hL : L.length = n) (hn : n ≤ 1048576) (hI : Ints w A L) (hP : P.length = m) (hm : m ≤ 1048576) (hJ : Ints w B P) :
    Calls Try.prog 19 #[.int .i64 k, .slice A n c, .slice B m d] w (RetInts w (rwV k L P).length (rwV k L P) (rwC k L P)) := by
  have HL := Lib.hid hL
  have HP := Lib.hid hP
  have HI := Lib.hid hI
  have HJ := Lib.hid hJ
  clear hI hJ
  by_cases hs : stateB k L = true
  · have hf := state_facts hs hL
    obtain ⟨K, rfl⟩ := Int.eq_ofNat_of_zero_le (a := k) (by omega)
    by_cases hk : m = K
    · subst hk
      have hd : ((m : Int) != (m : Int)) = false := by simp
      have hmk := run_make_row' (P := Try.prog) 54 4 (.bool false) 1 Try.underlying54 (by kernel_rfl) rfl .i64 .i64 m (by omega) (by omega)
      have HS := Lib.hid hs
      have HPB := Lib.hid (show permB m P = okTo m P m by unfold permB; rw [HP.out, decide_eq_true rfl]; rfl)
      obtain ⟨i0, hi, hz0, hz1, hz2⟩ := info_parts Try.infoI
      clear hL hP
      go_enter Try.func19, Try.ntmps19
      go_wp2_with fail
      refine (l04Is_calls m A n c L _ HL.out hn HI.out).mono ?_
      rintro e w1 ⟨rfl, rfl⟩
      go_wp2
      clear hmk hs
      go_loopw [9] (fun i wr => ∃ j : Nat, j ≤ m ∧ i = .int .i64 j ∧ Hid (okTo m P j = true) ∧ wr.rowIs w.heap.size 4 m (metV P j) ∧ Below w.heap.size w wr) (fun i _ => m - (intOf i).toNat)
      case atStart => exact ⟨0, Nat.zero_le _, rfl, Lib.hid rfl, (World.rowIs_made _ _ _ _).congr (fun i _ => rfl), (Below.refl _ _).alloc (Nat.le_refl _) _⟩
      case round =>
        obtain ⟨j, hj, rfl, HK, hrow, hb⟩ := hrel
        by_cases hlt : j < m
        · obtain ⟨ad, rfl, had, hc⟩ := (HJ.out.below hb) j (by rw [HP.out]; exact hlt)
          have hR := Lib.hid hrow
          have HB := Lib.hid hb
          have hw : IntKind.i64.wrap ((m : Int) - 1) = (m : Int) - 1 := IntWalk.i64_in _ (by omega)
          clear hb
          by_cases hin : inB (P[j]?.getD 0) 0 (m - 1) = true
          · obtain ⟨x, hx⟩ := Int.eq_ofNat_of_zero_le (inB_of hin).1
            have hx5 : x < m := by have := (inB_of hin).2; omega
            have hx6 : (x : Int) < (m : Int) := by omega
            have hx7 : (0 : Int) ≤ (x : Int) := by omega
            have hcell := hrow.cell (i := x) hx5
            have hfz := hrow.frozen x
            have HX := Lib.hid hx
            have hc' : wr.cell? (ad.add j) = some (.int .i64 x) := by rw [← hx]; simpa using hc
            have HIN := Lib.hid hin
            have hin2 : inB x 0 ((m : Int) - 1) = true := by rw [← hx]; exact hin
            clear hc hrow hx hin
            by_cases hmt : metTo P j x = true
            · have hv : metV P j x = .bool true := by unfold metV; rw [hmt]
              rw [hv] at hcell
              have HN := Lib.hid (show permB m P = false by rw [HPB.out]; exact okTo_no (j + 1) m (by omega) (by rw [okTo, HX.out, hmt]; simp))
              clear hmt hv
              go_wp2_with fail
              refine (l01In_calls x 0 (m - 1) _).mono ?_
              rintro e w' ⟨rfl, rfl⟩
              go_wp2
              go_ret2
              obtain ⟨e1, e2⟩ := rw_no (show rwB m L P = false by unfold rwB; rw [HN.out]; simp)
              rw [e1, e2]
              exact retInts_zero rfl HB.out
            · have hm' : metTo P j x = false := by simpa using hmt
              have hv : metV P j x = .bool false := by unfold metV; rw [hm']
              rw [hv] at hcell
              have HK' := Lib.hid (show okTo m P (j + 1) = true by rw [okTo, HK.out, HIN.out, HX.out, hm']; rfl)
              have HST := Lib.hid (metV_step HX.out)
              clear hmt hm' hv
              go_wp2_with fail
              refine (l01In_calls x 0 (m - 1) _).mono ?_
              rintro e w' ⟨rfl, rfl⟩
              go_wp2
              go_roundw
              case rel => exact ⟨j + 1, by omega, by go_num, HK', (hR.out.set x _).congr (fun v _ => HST.out v), HB.out.setCell (Nat.le_refl _) _⟩
              case measure => simp [intOf]; omega
          · have hin' : inB (P[j]?.getD 0) 0 ((m : Int) - 1) = false := by simpa using hin
            have HN := Lib.hid (show permB m P = false by rw [HPB.out]; exact okTo_no (j + 1) m (by omega) (by rw [okTo, hin']; simp))
            clear hin hrow
            go_wp2_with fail
            refine (l01In_calls _ 0 (m - 1) _).mono ?_
            rintro e w' ⟨rfl, rfl⟩
            go_wp2
            go_ret2
            obtain ⟨e1, e2⟩ := rw_no (show rwB m L P = false by unfold rwB; rw [HN.out]; simp)
            rw [e1, e2]
            exact retInts_zero rfl HB.out
        · obtain rfl : j = m := by omega
          obtain ⟨e1, e2⟩ := rw_yes (L := L) (P := P) HS.out (HPB.out.trans HK.out)
          have HE1 := Lib.hid e1
          have HE2 := Lib.hid e2
          have HB := Lib.hid hb
          have hsz := hb.size
          have HI2 := Lib.hid (HI.out.below hb)
          have HJ2 := Lib.hid (HJ.out.below hb)
          clear e1 e2 hb hrow
          go_wp2
          go_loopw [10, 11] (fun o i w3 => ∃ l : Nat, l ≤ n ∧ i = .int .i64 l ∧ (∃ A c', o = .slice A l c' ∧ OwnG 2 1 w.heap.size w3 A l c' ((rnL (L.take l) P).map (Value.int .i64))) ∧ Below w.heap.size w w3) (fun _ i _ => n - (intOf i).toNat)
          case atStart => exact ⟨0, Nat.zero_le _, rfl, ⟨_, _, rfl, OwnG.emptyAt (Box.new wr _ _) hsz⟩, HB.out.alloc hsz _⟩
          case round =>
            obtain ⟨l, hl, rfl, ⟨A3, c3, rfl, hO⟩, hb3⟩ := hrel
            have HO3 := Lib.hid hO
            have HB3 := Lib.hid hb3
            have hsz3 := hb3.size
            by_cases hlt : l < n
            · obtain ⟨ad, rfl, had, hc⟩ := (HI.out.below hb3) l (by rw [HL.out]; exact hlt)
              have hx0 := state_at HS.out l (by rw [HL.out]; exact hlt)
              obtain ⟨x, hx⟩ := Int.eq_ofNat_of_zero_le hx0.1
              obtain ⟨ad', rfl, had', hc2⟩ := (HJ.out.below hb3) x (by rw [HP.out]; omega)
              have hc' : wr.cell? (ad.add l) = some (.int .i64 x) := by rw [← hx]; simpa using hc
              have hxm : (x : Int) < (j : Int) := by omega
              have hx00 : (0 : Int) ≤ (x : Int) := by omega
              have HTK := Lib.hid (rnL_take (P := P) (by rw [HL.out]; exact hlt) hx)
              clear hc hx hx0 hO hb3
              go_wp2_with (at_builtin; refine wpList_append_own _ rfl _ _ 25 rfl w.heap.size 2 i0 (.int .i64 0) 1 8 Try.underlying25 hi hz0 hz1 hz2 rfl (by decide) _ _ _ rfl (HO3.out.alloc _) ⟨wr.heap.size, 0, none⟩ 1 1 [.int .i64 (P[x]?.getD 0)] rfl rfl (cell_one_new _ _ _) (by simp [Value.oneCell']) (by unfold maxLen; omega) (by omega) (by simp; omega) ?_; intro v' w4 hown' hgrow _; obtain ⟨A4, c4, rfl⟩ := ownG_shape hown'; have HO4 := Lib.hid hown'; have HB4 := Lib.hid (HB3.out.trans (HO3.out.grown_below hgrow (Nat.le_refl _) hsz3)); clear hown' hgrow)
              go_roundw
              case rel =>
                refine ⟨l + 1, by omega, by go_num, ⟨A4, c4, rfl, ?_⟩, HB4.out⟩
                rw [HTK.out, List.map_append]
                exact HO4.out
              case measure => simp [intOf]; omega
            · obtain rfl : l = n := by omega
              have hTL : L.take l = L := by rw [List.take_of_length_le]; rw [HL.out]; exact Nat.le_refl _
              rw [hTL] at hO
              have HO := Lib.hid hO
              have HRL := Lib.hid (show (rnL L P).length = l by unfold rnL; rw [List.length_map, HL.out])
              clear hO hTL
              go_wp2
              go_ret2
              rw [HE1.out, HE2.out]
              refine ⟨A3, c3, by rw [HRL.out]; rfl, ?_, HB3.out⟩
              rw [HRL.out]
              exact HO.out
    · have hd : ((m : Int) != (K : Int)) = true := by simp; omega
      obtain ⟨e1, e2⟩ := rw_no (show rwB K L P = false by unfold rwB permB; rw [HP.out, decide_eq_false (by omega)]; simp)
      rw [e1, e2]
      clear e1 e2 hL hP hk
      go_enter Try.func19, Try.ntmps19
      go_wp2_with fail
      refine (l04Is_calls K A n c L _ HL.out hn HI.out).mono ?_
      rintro e w1 ⟨rfl, rfl⟩
      go_wp2
      go_ret2
      exact retInts_zero rfl (Below.refl _ _)
  · have hs' : stateB k L = false := by simpa using hs
    obtain ⟨e1, e2⟩ := rw_no (show rwB k L P = false by unfold rwB; rw [hs']; rfl)
    rw [e1, e2]
    clear e1 e2 hs hL hP
    go_enter Try.func19, Try.ntmps19
    go_wp2_with fail
    refine (l04Is_calls k A n c L _ HL.out hn HI.out).mono ?_
    rintro e w1 ⟨rfl, rfl⟩
    go_wp2
    go_ret2
    exact retInts_zero rfl (Below.refl _ _)

end Go.Proofs.Ytdccdnjcmpkkgaa
