/- IsOnWay: which states lie on a way; the codes. -/
import Derived.Test.YtmpmkhfbfaicpaaCodeW
import Derived.Test.YtmpmkhfbfaicpaaCode2
import Derived.Test.YtmpmkhfbfaicpaaWayP
namespace Go.Proofs.Ytmpmkhfbfaicpaa
open Go.RowKit
set_option linter.unusedVariables false

/-- The state behind a move. -/
def apM (N : List Int) (m : Mv) : List Int := N.set m.1.toNat m.2.2
/-- Whether M is met along the moves from N. -/
def onM (M : List Int) : List Int → List Mv → Bool
  | N, [] => decide (N = M)
  | N, m :: r => if N = M then true else onM M (apM N m) r
theorem apM_step (L : List Int) (a : Int) : apM L (mvW L a) = stepW L a := by unfold apM mvW stepW; simp
theorem on_eq (M : List Int) : ∀ W, onM M M W = true
  | [] => by unfold onM; exact decide_eq_true rfl
  | m :: r => by unfold onM; rw [if_pos rfl]
theorem on_more {M L : List Int} {a : Int} (hp : pegsOk L) (ha : 0 ≤ a ∧ a ≤ 2) (hd : fdW L a < L.length) (hne : L ≠ M) : onM M L (wayL L a) = onM M (stepW L a) (wayL (stepW L a) a) := by
  rw [wayL_more hp ha hd, onM, if_neg hne, apM_step]
theorem on_end {M L : List Int} {a : Int} (hd : fdW L a = L.length) (hne : L ≠ M) : onM M L (wayL L a) = false := by
  rw [wayL_end hd, onM]
  exact decide_eq_false hne
def owE (p : Int) (L : List Int) (a q : Int) (M : List Int) : Int := if code2 p L q M = 0 then (if inB a 0 2 = true then 0 else 2) else code2 p L q M
def owV (p : Int) (L : List Int) (a q : Int) (M : List Int) : Bool := if code2 p L q M = 0 ∧ inB a 0 2 = true then onM M L (wayL L a) else false
theorem ow_codeW {p q a : Int} {L M : List Int} (h : code2 p L q M = 0) : codeW p L a = owE p L a q M := by
  obtain ⟨hs, ht, hp, hq, hl⟩ := code2_zero h
  have h1 : code1 p L = 0 := by unfold code1; rw [if_pos hs, if_pos hp]
  unfold codeW owE
  rw [if_pos h1, if_pos h]
theorem ext_of {L M : List Int} {n : Nat} (h1 : L.length = n) (h2 : M.length = n) (h : ∀ i, i < n → L[i]?.getD 0 = M[i]?.getD 0) : L = M :=
  list_ext h1 h2 (fun j hj => by rw [List.getD_eq_getElem?_getD, List.getD_eq_getElem?_getD]; exact h j hj)
theorem fdW_bd {L : List Int} {a : Int} (h : fdW L a < L.length) : (0 : Int) ≤ (fdW L a : Int) := Int.natCast_nonneg _

set_option maxHeartbeats 1000000 in
theorem codeOfPeg_two (g : Nat) (A : Option Addr) (n c : Nat) (p : Int) (L : List Int) (B : Option Addr) (m d : Nat) (q : Int) (M : List Int) (a : Int) (w : World) (hx : Box w g 30 #[.int .i64 p, .slice A n c, .int .i64 q, .slice B m d]) (hL : L.length = n) (hn : n ≤ 1048576) (hI : Ints w A L) (hM : M.length = m) (hm : m ≤ 1048576) (hJ : Ints w B M) :
    Calls Try.prog 24 #[.int .i64 a, .slice (some ⟨g, 0, none⟩) 2 2] w fun e w' => e = .returned (.int .i64 (owE p L a q M)) ∧ Below w.heap.size w w' := by
  have HL := Lib.hid hL
  clear hL
  have hpg : pegB 3 a = inB a 0 2 := by rw [pegB_in]; rfl
  by_cases hz : code2 p L q M = 0
  · have hz' : (code2 p L q M == 0) = true := by simpa using hz
    by_cases ha : inB a 0 2 = true
    · have HZ := Lib.hid hz
      have HA := Lib.hid ha
      rw [← hpg] at ha
      clear hz hpg
      go_enter Try.func24, Try.ntmps24
      go_wp2_with fail
      refine (codeOfStates_two g A n c p L B m d q M _ hx HL.out hn hI hM hm hJ).mono ?_
      rintro e w1 ⟨rfl, hb1⟩
      go_wp2_with fail
      refine (isPeg_calls 3 a _).mono ?_
      rintro e w' ⟨rfl, rfl⟩
      go_wp2
      go_ret
      exact ⟨ret_int' (by unfold owE; rw [if_pos HZ.out, if_pos HA.out, HZ.out]), hb1⟩
    · have ha' : inB a 0 2 = false := by simpa using ha
      have HZ := Lib.hid hz
      have HA := Lib.hid ha'
      rw [← hpg] at ha'
      clear hz ha hpg
      go_enter Try.func24, Try.ntmps24
      go_wp2_with fail
      refine (codeOfStates_two g A n c p L B m d q M _ hx HL.out hn hI hM hm hJ).mono ?_
      rintro e w1 ⟨rfl, hb1⟩
      go_wp2_with fail
      refine (isPeg_calls 3 a _).mono ?_
      rintro e w' ⟨rfl, rfl⟩
      go_wp2
      go_ret
      exact ⟨ret_int' (by unfold owE; rw [if_pos HZ.out, if_neg (by simp [HA.out])]), hb1⟩
  · have hz' : (code2 p L q M == 0) = false := by simpa using hz
    have HZ := Lib.hid hz
    clear hz
    go_enter Try.func24, Try.ntmps24
    go_wp2_with fail
    refine (codeOfStates_two g A n c p L B m d q M _ hx HL.out hn hI hM hm hJ).mono ?_
    rintro e w1 ⟨rfl, hb1⟩
    go_wp2
    go_ret
    exact ⟨ret_int' (by unfold owE; rw [if_neg HZ.out]), hb1⟩

end Go.Proofs.Ytmpmkhfbfaicpaa
