/- Contracts: a list that names each of 0 to k - 1 once. -/
import Derived.Test.YtfdjlgpdbgmdkaaWord
import Derived.Test.YtfdjlgpdbgmdkaaTo
import Derived.Test.YtfdjlgpdbgmdkaaMark
import Derived.Test.YtfdjlgpdbgmdkaaOwnG
namespace Go.Proofs.Ytfdjlgpdbgmdkaa
open Go.RowKit
set_option linter.unusedVariables false

/-- v is among the first j. -/
def metTo (P : List Int) : Nat → Int → Bool
  | 0, _ => false
  | j + 1, v => metTo P j v || decide (v = P[j]?.getD 0)
/-- The first j are in range, and none is met twice. -/
def okTo (k : Int) (P : List Int) : Nat → Bool
  | 0 => true
  | j + 1 => okTo k P j && (inB (P[j]?.getD 0) 0 (k - 1) && !metTo P j (P[j]?.getD 0))
def permB (k : Int) (P : List Int) : Bool := decide ((P.length : Int) = k) && okTo k P P.length
theorem okTo_no {k : Int} {P : List Int} : ∀ j m, j ≤ m → okTo k P j = false → okTo k P m = false
  | j, 0, h, h' => by obtain rfl : j = 0 := by omega
                      exact h'
  | j, m + 1, h, h' => by
    by_cases hj : j = m + 1
    · subst hj; exact h'
    · rw [okTo, okTo_no j m (by omega) h']; rfl
theorem okTo_at {k : Int} {P : List Int} : ∀ m, okTo k P m = true → ∀ j, j < m → 0 ≤ P[j]?.getD 0 ∧ P[j]?.getD 0 ≤ k - 1
  | 0, _, j, hj => absurd hj (by omega)
  | m + 1, h, j, hj => by
    rw [okTo, Bool.and_eq_true, Bool.and_eq_true] at h
    by_cases hjm : j = m
    · subst hjm; exact inB_of h.2.1
    · exact okTo_at m h.1 j (by omega)
def metV (P : List Int) (j v : Nat) : Value := .bool (metTo P j v)
theorem metV_step {P : List Int} {j x : Nat} (hx : P[j]?.getD 0 = x) : ∀ v, (if v = x then Value.bool true else metV P j v) = metV P (j + 1) v := by
  intro v
  show _ = Value.bool (metTo P j v || decide ((v : Int) = P[j]?.getD 0))
  rw [hx]
  by_cases h : v = x
  · subst h; simp
  · rw [if_neg h]
    have : ¬ (v : Int) = (x : Int) := by omega
    rw [decide_eq_false this, Bool.or_false]
    rfl

theorem rowFive (w : World) (P : List Int) (e : Nat) : (w.alloc (.cells #[.bool false, .bool false, .bool false, .bool false, .bool false] e)).rowIs w.heap.size e 5 (metV P 0) :=
  World.rowIs_alloc w #[.bool false, .bool false, .bool false, .bool false, .bool false] e (metV P 0) (fun i hi => by
    have hi' : i < 5 := hi
    have : i = 0 ∨ i = 1 ∨ i = 2 ∨ i = 3 ∨ i = 4 := by omega
    rcases this with rfl | rfl | rfl | rfl | rfl <;> rfl)

set_option maxHeartbeats 2000000 in
theorem isPegList_calls (k : Int) (A : Option Addr) (n c : Nat) (P : List Int) (w : World) (h3 : 3 ≤ k ∧ k ≤ 5) (hP : P.length = n) (hn : n ≤ 1048576) (hI : Ints w A P) :
    Calls Try.prog 49 #[.int .i64 k, .slice A n c] w fun e w' => e = .returned (.bool (permB k P)) ∧ Below w.heap.size w w' := by
  have HP := Lib.hid hP
  have HI := Lib.hid hI
  clear hP hI
  by_cases hk : (n : Int) = k
  · have hd : ((n : Int) != k) = false := by simpa using hk
    have HPB := Lib.hid (show permB k P = okTo k P n by unfold permB; rw [HP.out, decide_eq_true hk]; rfl)
    go_enter Try.func49, Try.ntmps49
    go_wp2
    go_loopw [7, 14] (fun _ i wr => ∃ j : Nat, j ≤ n ∧ i = .int .i64 j ∧ Hid (okTo k P j = true) ∧ wr.rowIs w.heap.size 93 5 (metV P j) ∧ Below w.heap.size w wr) (fun _ i _ => n - (intOf i).toNat)
    case atStart => exact ⟨0, Nat.zero_le _, rfl, Lib.hid rfl, rowFive _ _ _, (Below.refl _ _).alloc (Nat.le_refl _) _⟩
    case round =>
      obtain ⟨j, hj, rfl, HK, hrow, hb⟩ := hrel
      by_cases hlt : j < n
      · obtain ⟨ad, rfl, had, hc⟩ := (HI.out.below hb) j (by rw [HP.out]; exact hlt)
        have hR := Lib.hid hrow
        have HB := Lib.hid hb
        clear hb
        by_cases hin : inB (P[j]?.getD 0) 0 (k - 1) = true
        · obtain ⟨x, hx⟩ := Int.eq_ofNat_of_zero_le (inB_of hin).1
          have hx5 : x < 5 := by have := (inB_of hin).2; omega
          have hcell := hrow.cell (i := x) hx5
          have hfz := hrow.frozen x
          have hpg : pegB k x = true := by rw [pegB_in, ← hx]; exact hin
          have HX := Lib.hid hx
          have hc' : wr.cell? (ad.add j) = some (.int .i64 x) := by rw [← hx]; simpa using hc
          have HIN := Lib.hid hin
          clear hc hrow hx hin
          by_cases hm : metTo P j x = true
          · have hv : metV P j x = .bool true := by unfold metV; rw [hm]
            rw [hv] at hcell
            have HN := Lib.hid (show permB k P = false by rw [HPB.out]; exact okTo_no (j + 1) n (by omega) (by rw [okTo, HX.out, hm]; simp))
            clear hm hv
            go_wp2_with fail
            refine (isPeg_calls k x _).mono ?_
            rintro e w' ⟨rfl, rfl⟩
            go_wp2
            go_ret
            exact ⟨ret_bool HN.out.symm, HB.out⟩
          · have hm' : metTo P j x = false := by simpa using hm
            have hv : metV P j x = .bool false := by unfold metV; rw [hm']
            rw [hv] at hcell
            have HK' := Lib.hid (show okTo k P (j + 1) = true by rw [okTo, HK.out, HIN.out, HX.out, hm']; rfl)
            have HST := Lib.hid (metV_step HX.out)
            clear hm hm' hv
            go_wp2_with fail
            refine (isPeg_calls k x _).mono ?_
            rintro e w' ⟨rfl, rfl⟩
            go_wp2
            go_roundw
            case rel => exact ⟨j + 1, by omega, by go_num, HK', (hR.out.set x _).congr (fun v _ => HST.out v), HB.out.setCell (Nat.le_refl _) _⟩
            case measure => simp [intOf]; omega
        · have hin' : inB (P[j]?.getD 0) 0 (k - 1) = false := by simpa using hin
          have hpg : pegB k (P[j]?.getD 0) = false := by rw [pegB_in]; exact hin'
          have HN := Lib.hid (show permB k P = false by rw [HPB.out]; exact okTo_no (j + 1) n (by omega) (by rw [okTo, hin']; simp))
          clear hin hin' hrow
          go_wp2_with fail
          refine (isPeg_calls k _ _).mono ?_
          rintro e w' ⟨rfl, rfl⟩
          go_wp2
          go_ret
          exact ⟨ret_bool HN.out.symm, HB.out⟩
      · obtain rfl : j = n := by omega
        go_wp2
        go_ret
        exact ⟨ret_bool (HPB.out.trans HK.out).symm, hb⟩
  · have hd : ((n : Int) != k) = true := by simpa using hk
    have HN := Lib.hid (show permB k P = false by unfold permB; rw [HP.out, decide_eq_false hk]; rfl)
    clear hk
    go_enter Try.func49, Try.ntmps49
    go_wp2
    go_ret
    exact ⟨ret_bool HN.out.symm, Below.refl _ _⟩

/-- What RenameWord answers. -/
def rnL (L P : List Int) : List Int := L.map (fun x => P[x.toNat]?.getD 0)
def rwB (k : Int) (L P : List Int) : Bool := stateB k L && permB k P
def rwV (k : Int) (L P : List Int) : List Int := if rwB k L P = true then rnL L P else []
def rwC (k : Int) (L P : List Int) : Int := if rwB k L P = true then 0 else 2
theorem rw_yes {k : Int} {L P : List Int} (h1 : stateB k L = true) (h2 : permB k P = true) : rwV k L P = rnL L P ∧ rwC k L P = 0 := by
  have h : rwB k L P = true := by unfold rwB; rw [h1, h2]; rfl
  exact ⟨by unfold rwV; rw [if_pos h], by unfold rwC; rw [if_pos h]⟩
theorem rw_no {k : Int} {L P : List Int} (h : rwB k L P = false) : rwV k L P = [] ∧ rwC k L P = 2 := ⟨by unfold rwV; rw [h]; rfl, by unfold rwC; rw [h]; rfl⟩
theorem rwV_len (k : Int) (L P : List Int) : (rwV k L P).length ≤ 8 := by
  by_cases h : rwB k L P = true
  · have h1 : stateB k L = true := by unfold rwB at h; rw [Bool.and_eq_true] at h; exact h.1
    have := (state_facts h1 rfl).2.2.1
    unfold rwV rnL
    rw [if_pos h, List.length_map]
    exact this
  · unfold rwV; rw [if_neg h]; simp
theorem perm_len {k : Int} {P : List Int} (h : permB k P = true) : (P.length : Int) = k := by unfold permB at h; rw [Bool.and_eq_true, decide_eq_true_iff] at h; exact h.1
theorem rnL_at {L P : List Int} {j x : Nat} (hj : j < L.length) (hx : L[j]?.getD 0 = x) : (rnL L P)[j]?.getD 0 = P[x]?.getD 0 := by
  unfold rnL
  rw [List.getElem?_map, List.getElem?_eq_getElem hj]
  rw [List.getElem?_eq_getElem hj, Option.getD_some] at hx
  simp [hx]

theorem rnL_take {L P : List Int} {j x : Nat} (hj : j < L.length) (hx : L[j]?.getD 0 = x) : rnL (L.take (j + 1)) P = rnL (L.take j) P ++ [P[x]?.getD 0] := by
  rw [List.getElem?_eq_getElem hj, Option.getD_some] at hx
  unfold rnL
  rw [List.take_succ_eq_append_getElem hj, List.map_append, List.map_cons, List.map_nil, hx, Int.toNat_natCast]

end Go.Proofs.Ytfdjlgpdbgmdkaa
