/- Contracts: RenamePegs, by the specification's model and by the program. -/
import Derived.Test.YtfdjlgpdbgmdkacPerm
import Derived.Test.YtfdjlgpdbgmdkacState1
import Derived.Test.YtfdjlgpdbgmdkacMark
import Derived.Test.YtfdjlgpdbgmdkacHeld
import Derived.Deep.AppendLies
import Derived.Deep.RegionLaw
namespace Go.Proofs.Ytfdjlgpdbgmdkac
open Go.RowKit
set_option linter.unusedVariables false

def rpE (p : Int) (L P : List Int) : Int := if stateB p L = true then (if permB p P = true then 0 else 2) else 1
def rpP (p : Int) (L P : List Int) : Int := if rpE p L P = 0 then p else 0
def rpV (p : Int) (L P : List Int) : List Int := if rpE p L P = 0 then rnL L P else []
theorem rp_yes {p : Int} {L P : List Int} (h : stateB p L = true) (h' : permB p P = true) : rpP p L P = p ∧ rpV p L P = rnL L P ∧ rpE p L P = 0 := by
  have e : rpE p L P = 0 := by unfold rpE; rw [if_pos h, if_pos h']
  exact ⟨by unfold rpP; rw [if_pos e], by unfold rpV; rw [if_pos e], e⟩
theorem rp_two {p : Int} {L P : List Int} (h : stateB p L = true) (h' : permB p P = false) : rpP p L P = 0 ∧ rpV p L P = [] ∧ rpE p L P = 2 := by
  have e : rpE p L P = 2 := by unfold rpE; rw [if_pos h, h']; rfl
  exact ⟨by unfold rpP; rw [if_neg (by omega)], by unfold rpV; rw [if_neg (by omega)], e⟩
theorem rp_one {p : Int} {L P : List Int} (h : stateB p L = false) : rpP p L P = 0 ∧ rpV p L P = [] ∧ rpE p L P = 1 := by
  have e : rpE p L P = 1 := by unfold rpE; rw [h]; rfl
  exact ⟨by unfold rpP; rw [if_neg (by omega)], by unfold rpV; rw [if_neg (by omega)], e⟩
theorem rpV_len (p : Int) (L P : List Int) : (rpV p L P).length ≤ 8 := by
  by_cases h : stateB p L = true
  · by_cases h' : permB p P = true
    · rw [(rp_yes h h').2.1]; unfold rnL; rw [List.length_map]; exact (state_facts h rfl).2.2.1
    · rw [(rp_two h (by simpa using h')).2.1]; simp
  · rw [(rp_one (by simpa using h)).2.1]; simp

set_option maxHeartbeats 4000000 in
theorem l01Order_calls (K : Nat) (B : Option Addr) (m d : Nat) (P : List Int) (w : World) (h3 : 3 ≤ K ∧ K ≤ 5) (hP : P.length = m) (hm : m ≤ 1048576) (hJ : Ints w B P) :
    Calls Try.prog 45 #[.slice B m d, .int .i64 K] w fun e w' => e = .returned (.bool (permB K P)) ∧ Below w.heap.size w w' := by
  have HP := Lib.hid hP
  have HJ := Lib.hid hJ
  have hmk := run_make_row' (P := Try.prog) 93 4 (.bool false) 1 Try.underlying93 (by kernel_rfl) rfl .i64 .i64 K (by omega) (by omega)
  clear hP hJ
  go_enter Try.func45, Try.ntmps45
  go_wp2
  clear hmk
  go_loopw [6] (fun i wr => ∃ j : Nat, j ≤ m ∧ i = .int .i64 j ∧ Hid (okTo K P j = true) ∧ wr.rowIs w.heap.size 4 K (metV P j) ∧ Below w.heap.size w wr) (fun i _ => m - (intOf i).toNat)
  case atStart => exact ⟨0, Nat.zero_le _, rfl, Lib.hid rfl, (World.rowIs_made _ _ _ _).congr (fun i _ => rfl), (Below.refl _ _).alloc (Nat.le_refl _) _⟩
  case round =>
    obtain ⟨j, hj, rfl, HK, hrow, hb⟩ := hrel
    by_cases hlt : j < m
    · obtain ⟨ad, rfl, had, hc⟩ := (HJ.out.below hb) j (by rw [HP.out]; exact hlt)
      have hR := Lib.hid hrow
      have HB := Lib.hid hb
      have hw : IntKind.i64.wrap ((K : Int) - 1) = (K : Int) - 1 := IntWalk.i64_in _ (by omega)
      clear hb
      by_cases hin : inB (P[j]?.getD 0) 0 (K - 1) = true
      · obtain ⟨x, hx⟩ := Int.eq_ofNat_of_zero_le (inB_of hin).1
        have hx5 : x < K := by have := (inB_of hin).2; omega
        have hx6 : (x : Int) < (K : Int) := by omega
        have hx7 : (0 : Int) ≤ (x : Int) := by omega
        have hcell := hrow.cell (i := x) hx5
        have hfz := hrow.frozen x
        have HX := Lib.hid hx
        have hc' : wr.cell? (ad.add j) = some (.int .i64 x) := by rw [← hx]; simpa using hc
        have HIN := Lib.hid hin
        have hin2 : inB x 0 ((K : Int) - 1) = true := by rw [← hx]; exact hin
        clear hc hrow hx hin
        by_cases hmt : metTo P j x = true
        · have hv : metV P j x = .bool true := by unfold metV; rw [hmt]
          rw [hv] at hcell
          have HN := Lib.hid (show permB K P = false by unfold permB; rw [HP.out, okTo_no (j + 1) m (by omega) (by rw [okTo, HX.out, hmt]; simp)]; simp)
          clear hmt hv
          go_wp2_with fail
          refine (l01In_calls x 0 (K - 1) _).mono ?_
          rintro e w' ⟨rfl, rfl⟩
          go_wp2
          go_ret
          exact ⟨ret_bool HN.out.symm, HB.out⟩
        · have hm' : metTo P j x = false := by simpa using hmt
          have hv : metV P j x = .bool false := by unfold metV; rw [hm']
          rw [hv] at hcell
          have HK' := Lib.hid (show okTo K P (j + 1) = true by rw [okTo, HK.out, HIN.out, HX.out, hm']; rfl)
          have HST := Lib.hid (metV_step HX.out)
          clear hmt hm' hv
          go_wp2_with fail
          refine (l01In_calls x 0 (K - 1) _).mono ?_
          rintro e w' ⟨rfl, rfl⟩
          go_wp2
          go_roundw
          case rel => exact ⟨j + 1, by omega, by go_num, HK', (hR.out.set x _).congr (fun v _ => HST.out v), HB.out.setCell (Nat.le_refl _) _⟩
          case measure => simp [intOf]; omega
      · have hin' : inB (P[j]?.getD 0) 0 ((K : Int) - 1) = false := by simpa using hin
        have HN := Lib.hid (show permB K P = false by unfold permB; rw [HP.out, okTo_no (j + 1) m (by omega) (by rw [okTo, hin']; simp)]; simp)
        clear hin hrow
        go_wp2_with fail
        refine (l01In_calls _ 0 (K - 1) _).mono ?_
        rintro e w' ⟨rfl, rfl⟩
        go_wp2
        go_ret
        exact ⟨ret_bool HN.out.symm, HB.out⟩
    · obtain rfl : j = m := by omega
      have HB := Lib.hid hb
      clear hb hrow
      by_cases hk : j = K
      · have hd : ((j : Int) == (K : Int)) = true := by simp [hk]
        have HN := Lib.hid (show permB K P = true by unfold permB; rw [HP.out, HK.out, hk]; simp)
        clear hk
        go_wp2
        go_ret
        exact ⟨ret_bool HN.out.symm, HB.out⟩
      · have hd : ((j : Int) == (K : Int)) = false := by simp; omega
        have HN := Lib.hid (show permB K P = false by unfold permB; rw [HP.out, decide_eq_false (show ¬ ((j : Nat) : Int) = (K : Int) by omega)]; rfl)
        clear hk
        go_wp2
        go_ret
        exact ⟨ret_bool HN.out.symm, HB.out⟩

end Go.Proofs.Ytfdjlgpdbgmdkac
