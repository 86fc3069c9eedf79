/- Contracts: strong rules, of both sides. -/
import Derived.Test.YtfdjlgpdbgmdkacRuReach
import Derived.Test.YtfdjlgpdbgmdkacRuCode
namespace Go.Proofs.Ytfdjlgpdbgmdkac
open Go.RowKit
set_option linter.unusedVariables false

theorem zero_one {a : Int} (h : inB a 0 1 = true) : (a == 0) = !(a == 1) := by
  unfold inB at h
  rw [decide_eq_true_iff] at h
  rcases (by omega : a = 0 ∨ a = 1) with rfl | rfl <;> rfl
theorem strong_six : ∀ b1 b2 b3 b5 b6 b7 : Bool, decide (l9 (itT (six b1 b2 b3 b5 b6 b7) 2) = l9 (fun _ => 1)) =
    (!(!b1 && (!b2 || !b7)) && (!(!b2 && (!b1 || !b5)) && (!(!b3 && (!b5 || !b6)) && (!(!b5 && (!b3 || !b2)) && (!(!b6 && (!b7 || !b3)) && !(!b7 && (!b6 || !b1))))))) := by
  decide +kernel
/-- Rules are strong where all pegs are reached from all. -/
theorem strong_iff {r : Nat → Int} (h : ruB r = true) : decide (l9 (itT (alR r) 2) = l9 (fun _ => 1)) = strB r := by
  have hb : inB (r 1) 0 1 = true ∧ inB (r 2) 0 1 = true ∧ inB (r 3) 0 1 = true ∧ inB (r 5) 0 1 = true ∧ inB (r 6) 0 1 = true ∧ inB (r 7) 0 1 = true := by
    unfold ruB at h
    simp only [Bool.and_eq_true] at h
    obtain ⟨_, h1, h2, h3, _, h5, h6, h7, _⟩ := h
    exact ⟨h1, h2, h3, h5, h6, h7⟩
  obtain ⟨h1, h2, h3, h5, h6, h7⟩ := hb
  have e : strB r = (tF r 0 1 && (tF r 0 2 && (tF r 1 0 && (tF r 1 2 && (tF r 2 0 && tF r 2 1))))) := by
    have t0 : tF r 0 0 = true := rfl
    have t4 : tF r 1 1 = true := rfl
    have t8 : tF r 2 2 = true := rfl
    simp [strB, strTo, List.range_succ, t0, t4, t8]
  rw [e, itT_six, strong_six]
  show _ = (!(true && (r 1 == 0 && (r 2 == 0 || r 7 == 0))) && (!(true && (r 2 == 0 && (r 1 == 0 || r 5 == 0))) && (!(true && (r 3 == 0 && (r 5 == 0 || r 6 == 0))) && (!(true && (r 5 == 0 && (r 3 == 0 || r 2 == 0))) && (!(true && (r 6 == 0 && (r 7 == 0 || r 3 == 0))) && !(true && (r 7 == 0 && (r 6 == 0 || r 1 == 0))))))))
  rw [zero_one h1, zero_one h2, zero_one h3, zero_one h5, zero_one h6, zero_one h7]
  rfl

set_option maxRecDepth 100000 in
set_option maxHeartbeats 1000000 in
theorem isStrong_calls (r : Nat → Int) (hr : ruB r = true) (w : World) :
    Calls Try.prog 42 #[.iface 26 (.agg (z9 r))] w fun e w' => e = .returned (.bool (strB r)) ∧ Below w.heap.size w w' := by
  have HE := eq9T (itT (alR r) 2) (fun _ => 1) (fun k _ => itT_wf _ 2 k) (fun k _ => by decide)
  rw [strong_iff hr] at HE
  clear hr
  unfold z9 at HE
  go_enter Try.func42, Try.ntmps42
  go_wp2_with (refine (reachTable_calls r _).mono ?_; rintro e w' ⟨rfl, hb⟩; unfold z9; have HB := Lib.hid hb; clear hb)
  go_ret
  exact ⟨rfl, HB.out⟩

/-- What AreStrong answers. -/
def asV (r : Nat → Int) : Bool := ruB r && strB r
theorem asV_yes {r : Nat → Int} (h : ruB r = true) : asV r = strB r := by unfold asV; rw [h]; rfl
theorem asV_no {r : Nat → Int} (h : ruB r = false) : asV r = false := by unfold asV; rw [h]; rfl
theorem ret_boolcode {a b : Bool} {c d : Int} (h : b = a) (h2 : d = c) : Ending.returned (.tuple #[.bool a, .int .i64 c]) = .returned (.tuple #[.bool b, .int .i64 d]) := by rw [h, h2]

set_option maxRecDepth 100000 in
set_option maxHeartbeats 2000000 in
theorem specAreStrong_calls (r : Nat → Int) (w : World) :
    Calls Try.prog 21 #[.agg (z9 r)] w fun e w' => e = .returned (.tuple #[.bool (asV r), .int .i64 (cR r)]) ∧ Below w.heap.size w w' := by
  have X0 := Lib.hid (Box.new w 26 (z9 r))
  have B0 := Lib.hid ((Below.refl w.heap.size w).alloc (Nat.le_refl _) (.cells (z9 r) 26))
  by_cases hr : ruB r = true
  · have HR := Lib.hid hr
    have hc := cR_yes hr
    unfold z9
    go_enter Try.func21, Try.ntmps21
    go_wp2_with fail
    refine (l07Is_calls r _).mono ?_
    rintro e w1 ⟨rfl, hb⟩
    skip
    have X1 := Lib.hid (X0.out.below hb X0.out.lt)
    have B1 := Lib.hid (B0.out.trans (hb.mono B0.out.size))
    obtain ⟨x0, x1, x2, x3, x4, x5, x6, x7, x8⟩ := X1.out.nine
    clear hb hc X0 B0
    go_wp2_with fail
    refine (l07Strong_calls r _).mono ?_
    rintro e w2 ⟨rfl, hb⟩
    have B2 := Lib.hid (B1.out.trans (hb.mono B1.out.size))
    clear hb x0 x1 x2 x3 x4 x5 x6 x7 x8
    go_wp2
    go_ret2
    exact ⟨ret_boolcode (asV_yes HR.out) (cR_yes HR.out), B2.out⟩
  · have hr' : ruB r = false := by simpa using hr
    have HR := Lib.hid hr'
    have hc := cR_no hr'
    clear hr
    unfold z9
    go_enter Try.func21, Try.ntmps21
    go_wp2_with fail
    refine (l07Is_calls r _).mono ?_
    rintro e w1 ⟨rfl, hb⟩
    skip
    have B1 := Lib.hid (B0.out.trans (hb.mono B0.out.size))
    clear hb hc X0 B0
    go_wp2
    go_ret2
    exact ⟨ret_boolcode (asV_no HR.out) (cR_no HR.out), B1.out⟩

set_option maxRecDepth 100000 in
set_option maxHeartbeats 2000000 in
theorem implAreStrong_calls (r : Nat → Int) (hw : ∀ k, k < 9 → (Lit.int .i64 (r k)).wf = true) (w : World) :
    Calls Try.prog 20 #[.agg (z9 r)] w fun e w' => e = .returned (.tuple #[.bool (asV r), .int .i64 (cR r)]) ∧ Below w.heap.size w w' := by
  have HW := Lib.hid hw
  clear hw
  have X0 := Lib.hid (Box.new w 26 (z9 r))
  have B0 := Lib.hid ((Below.refl w.heap.size w).alloc (Nat.le_refl _) (.cells (z9 r) 26))
  by_cases hr : ruB r = true
  · have HR := Lib.hid hr
    have hc := cR_yes hr
    unfold z9
    go_enter Try.func20, Try.ntmps20
    go_wp2_with fail
    refine (codeOfRules_nil r HW.out _).mono ?_
    rintro e w1 ⟨rfl, hb⟩
    rw [hc]
    have X1 := Lib.hid (X0.out.below hb X0.out.lt)
    have B1 := Lib.hid (B0.out.trans (hb.mono B0.out.size))
    obtain ⟨x0, x1, x2, x3, x4, x5, x6, x7, x8⟩ := X1.out.nine
    clear hb hc X0 B0
    go_wp2_with fail
    refine (isStrong_calls r HR.out _).mono ?_
    rintro e w2 ⟨rfl, hb⟩
    have B2 := Lib.hid (B1.out.trans (hb.mono B1.out.size))
    clear hb x0 x1 x2 x3 x4 x5 x6 x7 x8
    go_wp2
    go_ret2
    exact ⟨ret_boolcode (asV_yes HR.out) (cR_yes HR.out), B2.out⟩
  · have hr' : ruB r = false := by simpa using hr
    have HR := Lib.hid hr'
    have hc := cR_no hr'
    clear hr
    unfold z9
    go_enter Try.func20, Try.ntmps20
    go_wp2_with fail
    refine (codeOfRules_nil r HW.out _).mono ?_
    rintro e w1 ⟨rfl, hb⟩
    rw [hc]
    have B1 := Lib.hid (B0.out.trans (hb.mono B0.out.size))
    clear hb hc X0 B0
    go_wp2
    go_ret2
    exact ⟨ret_boolcode (asV_no HR.out) (cR_no HR.out), B1.out⟩

end Go.Proofs.Ytfdjlgpdbgmdkac
