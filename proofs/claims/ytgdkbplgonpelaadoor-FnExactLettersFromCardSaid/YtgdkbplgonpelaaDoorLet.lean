/- Contracts: the letters of moves. -/
import Derived.Test.YtgdkbplgonpelaaDoorState1
import Derived.Test.YtgdkbplgonpelaaDoorBase
import Derived.Deep.RegionLaw
import Derived.StillTailTactics
import Derived.BigQuiet
import Derived.Test.YtgdkbplgonpelaaDoorDigit
namespace Go.Proofs.YtgdkbplgonpelaaDoor
open Go.RowKit
open Go.RowKit (wrap64)
set_option linter.unusedVariables false

/-- The number of a letter, and its byte. -/
def lnum (a b : Int) : Int := if (a + 1) % 3 = b then a else 3 + b
def lbyte (k : Int) : UInt8 := #[97, 98, 99, 65, 66, 67].getD k.toNat 0
theorem ln01 : lnum 0 1 = 0 := rfl
theorem ln02 : lnum 0 2 = 5 := rfl
theorem ln10 : lnum 1 0 = 3 := rfl
theorem ln12 : lnum 1 2 = 1 := rfl
theorem ln20 : lnum 2 0 = 2 := rfl
theorem ln21 : lnum 2 1 = 4 := rfl
def legB (a b : Int) : Bool := inB a 0 2 && inB b 0 2 && decide (¬ a = b)
theorem leg_cases {a b : Int} (h : legB a b = true) : (a = 0 ∧ b = 1) ∨ (a = 0 ∧ b = 2) ∨ (a = 1 ∧ b = 0) ∨ (a = 1 ∧ b = 2) ∨ (a = 2 ∧ b = 0) ∨ (a = 2 ∧ b = 1) := by
  unfold legB at h
  simp only [Bool.and_eq_true, decide_eq_true_eq] at h
  have h1 := inB_of h.1.1
  have h2 := inB_of h.1.2
  have h3 := h.2
  omega

theorem l10Letters_calls (w : World) :
    Calls Tryd.prog 7 #[] w fun e w' => e = .returned (.slice (some ⟨w.heap.size, 0, none⟩) 6 6) ∧ w' = w.alloc (.cells #[.string ⟨#[97]⟩, .string ⟨#[98]⟩, .string ⟨#[99]⟩, .string ⟨#[65]⟩, .string ⟨#[66]⟩, .string ⟨#[67]⟩] 9) := by
  go_enter Tryd.func7, Tryd.ntmps7
  go_wp2
  go_ret
  exact ⟨rfl, rfl⟩

theorem l10Number_calls (d a b : Int) (w : World) (h : legB a b = true) :
    Calls Tryd.prog 8 #[.agg #[.int .i64 d, .int .i64 a, .int .i64 b]] w fun e w' => e = .returned (.int .i64 (lnum a b)) ∧ w' = w.alloc (.cells #[.int .i64 d, .int .i64 a, .int .i64 b] 30) := by
  rcases leg_cases h with ⟨rfl, rfl⟩ | ⟨rfl, rfl⟩ | ⟨rfl, rfl⟩ | ⟨rfl, rfl⟩ | ⟨rfl, rfl⟩ | ⟨rfl, rfl⟩
  all_goals
    go_enter Tryd.func8, Tryd.ntmps8
    go_wp2
    go_ret
    exact ⟨rfl, rfl⟩

def leV (a b : Int) : ByteArray := if legB a b = true then ⟨#[lbyte (lnum a b)]⟩ else ⟨#[]⟩
def leE (a b : Int) : Int := if legB a b = true then 0 else 2
theorem le_yes {a b : Int} (h : legB a b = true) : leV a b = ⟨#[lbyte (lnum a b)]⟩ ∧ leE a b = 0 := by unfold leV leE; rw [if_pos h, if_pos h]; exact ⟨rfl, rfl⟩
theorem le_no {a b : Int} (h : legB a b = false) : leV a b = ⟨#[]⟩ ∧ leE a b = 2 := by unfold leV leE; rw [h]; exact ⟨rfl, rfl⟩

theorem nextPeg_calls (a : Int) (w : World) (h : 0 ≤ a ∧ a ≤ 2) :
    Calls Tryd.prog 25 #[.int .i64 a] w fun e w' => e = .returned (.int .i64 ((a + 1) % 3)) ∧ w = w' := by
  go_enter Tryd.func25, Tryd.ntmps25
  go_wp2
  go_ret
  exact ⟨ret_int (by first | rfl | (rw [Int.tmod_eq_emod_of_nonneg (by omega)])), rfl⟩

set_option maxHeartbeats 1000000 in
theorem goesOn_calls (d a b : Int) (w : World) (h : 0 ≤ a ∧ a ≤ 2) :
    Calls Tryd.prog 22 #[.agg #[.int .i64 d, .int .i64 a, .int .i64 b]] w fun e w' => e = .returned (.tuple #[.int .i64 a, .bool (b == (a + 1) % 3)]) ∧ Below w.heap.size w w' := by
  go_enter Tryd.func22, Tryd.ntmps22
  go_wp2_with fail
  go_region_law ((go_simp; go_at_call 25; refine (nextPeg_calls a _ h).mono ?_; rintro e w' ⟨rfl, rfl⟩; (try dsimp only)))
  all_goals go_wp2
  all_goals go_ret2
  all_goals refine ⟨rfl, ?_⟩
  all_goals repeat' (first | exact Below.refl _ _ | refine Below.drew ?_ | (refine Below.setCell ?_ (by simp; try omega) _) | (refine Below.alloc ?_ (by simp; try omega) _))
set_option maxHeartbeats 1000000 in
theorem goesBack_calls (d a b : Int) (w : World) (h : 0 ≤ b ∧ b ≤ 2) :
    Calls Tryd.prog 23 #[.agg #[.int .i64 d, .int .i64 a, .int .i64 b]] w fun e w' => e = .returned (.tuple #[.int .i64 b, .bool (a == (b + 1) % 3)]) ∧ Below w.heap.size w w' := by
  go_enter Tryd.func23, Tryd.ntmps23
  go_wp2_with fail
  go_region_law ((go_simp; go_at_call 25; refine (nextPeg_calls b _ h).mono ?_; rintro e w' ⟨rfl, rfl⟩; (try dsimp only)))
  all_goals go_wp2
  all_goals go_ret2
  all_goals refine ⟨rfl, ?_⟩
  all_goals repeat' (first | exact Below.refl _ _ | refine Below.drew ?_ | (refine Below.setCell ?_ (by simp; try omega) _) | (refine Below.alloc ?_ (by simp; try omega) _))

theorem letterKinds_calls (w : World) :
    Calls Tryd.prog 18 #[] w fun e w' => e = .returned (.slice (some ⟨w.heap.size, 0, none⟩) 2 2) ∧ w' = w.alloc (.cells #[.func (.func 22) #[] #[], .func (.func 23) #[] #[]] 43) := by
  go_enter Tryd.func18, Tryd.ntmps18
  go_wp2
  go_ret
  exact ⟨rfl, rfl⟩

def lbV (a b : Int) : Int := if legB a b = true then ((lbyte (lnum a b)).toNat : Int) else 0
theorem lb_yes {a b : Int} (h : legB a b = true) : lbV a b = ((lbyte (lnum a b)).toNat : Int) := by unfold lbV; rw [if_pos h]
theorem lb_no {a b : Int} (h : legB a b = false) : lbV a b = 0 := by unfold lbV; rw [h]; rfl
theorem ret_lb {x y : Int} {p q : Bool} (h : x = y) (h2 : p = q) : Ending.returned (.tuple #[.int .u8 y, .bool q]) = .returned (.tuple #[.int .u8 x, .bool p]) := by rw [h, h2]

theorem leg_on {a b : Int} (h : legB a b = true) (hk : (b == (a + 1) % 3) = true) : (a = 0 ∧ b = 1) ∨ (a = 1 ∧ b = 2) ∨ (a = 2 ∧ b = 0) := by
  rcases leg_cases h with ⟨rfl, rfl⟩ | ⟨rfl, rfl⟩ | ⟨rfl, rfl⟩ | ⟨rfl, rfl⟩ | ⟨rfl, rfl⟩ | ⟨rfl, rfl⟩ <;> first | (exact absurd hk (by decide)) | decide
theorem leg_back {a b : Int} (h : legB a b = true) (hk : (b == (a + 1) % 3) = false) : (a = 0 ∧ b = 2) ∨ (a = 1 ∧ b = 0) ∨ (a = 2 ∧ b = 1) := by
  rcases leg_cases h with ⟨rfl, rfl⟩ | ⟨rfl, rfl⟩ | ⟨rfl, rfl⟩ | ⟨rfl, rfl⟩ | ⟨rfl, rfl⟩ | ⟨rfl, rfl⟩ <;> first | (exact absurd hk (by decide)) | decide
def KS : Array Value := #[.func (.func 22) #[] #[], .func (.func 23) #[] #[]]
/-- The world behind both boxes of letterOf. -/
theorem lo_world (d a b : Int) (w : World) : Hid (Box ((w.alloc (.cells #[.int .i64 d, .int .i64 a, .int .i64 b] 30)).alloc (.cells KS 43)) w.heap.size 30 #[.int .i64 d, .int .i64 a, .int .i64 b]) ∧ Hid (Box ((w.alloc (.cells #[.int .i64 d, .int .i64 a, .int .i64 b] 30)).alloc (.cells KS 43)) (w.heap.size + 1) 43 KS) ∧ Hid (Below w.heap.size w ((w.alloc (.cells #[.int .i64 d, .int .i64 a, .int .i64 b] 30)).alloc (.cells KS 43))) := by
  refine ⟨(Box.new _ _ _).alloc _, ?_, ((Below.refl _ _).alloc (Nat.le_refl _) _).alloc (by simp) _⟩
  have := Box.new (w.alloc (.cells #[.int .i64 d, .int .i64 a, .int .i64 b] 30)) 43 KS
  rw [World.size_alloc] at this
  exact this

set_option maxHeartbeats 4000000 in
theorem letterOf_calls (d a b : Int) (w : World) :
    Calls Tryd.prog 15 #[.agg #[.int .i64 d, .int .i64 a, .int .i64 b]] w fun e w' => e = .returned (.tuple #[.int .u8 (lbV a b), .bool (legB a b)]) ∧ Below w.heap.size w w' := by
  obtain ⟨X0, K0, HB1⟩ := lo_world d a b w
  have HB0 := Lib.hid ((Below.refl w.heap.size w).alloc (Nat.le_refl _) (.cells #[.int .i64 d, .int .i64 a, .int .i64 b] 30))
  by_cases hp : inB a 0 2 = true ∧ inB b 0 2 = true
  · have ha := inB_of hp.1
    have hbb := inB_of hp.2
    have hpa : pegB 3 a = true := by unfold pegB; simp; omega
    have hpb : pegB 3 b = true := by unfold pegB; simp; omega
    by_cases hl : legB a b = true
    · have Q := Lib.hid (lb_yes hl)
      have HL := Lib.hid hl
      cases hk : (b == (a + 1) % 3) with
      | true =>
        rcases leg_on hl hk with ⟨rfl, rfl⟩ | ⟨rfl, rfl⟩ | ⟨rfl, rfl⟩
        all_goals
          clear hl hk hp ha hbb
          go_enter Tryd.func15, Tryd.ntmps15
          go_wp2_with fail
          refine (isPeg_calls 3 _ _).mono ?_
          rintro e w' ⟨rfl, rfl⟩
          rw [hpa]
          go_wp2_with fail
          refine (isPeg_calls 3 _ _).mono ?_
          rintro e w' ⟨rfl, rfl⟩
          rw [hpb]
          go_wp2_with fail
          refine (letterKinds_calls _).mono ?_
          rintro e w' ⟨rfl, rfl⟩
          go_wp2
          refine wp_loop_rounds 3 ?_
          rw [rounds_succ]
          go_wp2_with fail
          refine (goesOn_calls d _ _ _ (by decide)).mono ?_
          rintro e w3 ⟨rfl, hb3⟩
          have HB3 := Lib.hid (HB1.out.trans (hb3.mono HB1.out.size))
          clear hb3
          go_wp2
          go_ret2
          exact ⟨ret_lb Q.out HL.out, HB3.out⟩
      | false =>
        rcases leg_back hl hk with ⟨rfl, rfl⟩ | ⟨rfl, rfl⟩ | ⟨rfl, rfl⟩
        all_goals
          clear hl hk hp ha hbb
          go_enter Tryd.func15, Tryd.ntmps15
          go_wp2_with fail
          refine (isPeg_calls 3 _ _).mono ?_
          rintro e w' ⟨rfl, rfl⟩
          rw [hpa]
          go_wp2_with fail
          refine (isPeg_calls 3 _ _).mono ?_
          rintro e w' ⟨rfl, rfl⟩
          rw [hpb]
          go_wp2_with fail
          refine (letterKinds_calls _).mono ?_
          rintro e w' ⟨rfl, rfl⟩
          go_wp2
          refine wp_loop_rounds 3 ?_
          rw [rounds_succ]
          go_wp2_with fail
          refine (goesOn_calls d _ _ _ (by decide)).mono ?_
          rintro e w3 ⟨rfl, hb3⟩
          have X3 := Lib.hid (X0.out.below hb3 X0.out.lt)
          have K3 := Lib.hid (K0.out.below hb3 K0.out.lt)
          have HB3 := Lib.hid (HB1.out.trans (hb3.mono HB1.out.size))
          clear hb3
          obtain ⟨m0, m1, m2⟩ := X3.out.three
          obtain ⟨k0, k1, _, _⟩ := K3.out.two
          go_wp2
          rw [rounds_succ]
          go_wp2_with fail
          refine (goesBack_calls d _ _ _ (by decide)).mono ?_
          rintro e w4 ⟨rfl, hb4⟩
          have HB4 := Lib.hid (HB3.out.trans (hb4.mono HB3.out.size))
          clear hb4
          go_wp2
          go_ret2
          exact ⟨ret_lb Q.out HL.out, HB4.out⟩
    · have hl' : legB a b = false := by simpa using hl
      have Q := Lib.hid (lb_no hl')
      have HL := Lib.hid hl'
      have he : a = b := by
        unfold legB at hl'
        rw [hp.1, hp.2] at hl'
        simpa using hl'
      subst he
      have k1 : (a == (a + 1) % 3) = false := by simp; omega
      clear hl hl' hp
      go_enter Tryd.func15, Tryd.ntmps15
      go_wp2_with fail
      refine (isPeg_calls 3 _ _).mono ?_
      rintro e w' ⟨rfl, rfl⟩
      rw [hpa]
      go_wp2_with fail
      refine (isPeg_calls 3 _ _).mono ?_
      rintro e w' ⟨rfl, rfl⟩
      rw [hpa]
      go_wp2_with fail
      refine (letterKinds_calls _).mono ?_
      rintro e w' ⟨rfl, rfl⟩
      go_wp2
      refine wp_loop_rounds 3 ?_
      rw [rounds_succ]
      go_wp2_with fail
      refine (goesOn_calls d a a _ ha).mono ?_
      rintro e w3 ⟨rfl, hb3⟩
      rw [k1]
      have X3 := Lib.hid (X0.out.below hb3 X0.out.lt)
      have K3 := Lib.hid (K0.out.below hb3 K0.out.lt)
      have HB3 := Lib.hid (HB1.out.trans (hb3.mono HB1.out.size))
      clear hb3
      obtain ⟨m0, m1, m2⟩ := X3.out.three
      obtain ⟨k0, k1', _, _⟩ := K3.out.two
      go_wp2
      rw [rounds_succ]
      go_wp2_with fail
      refine (goesBack_calls d a a _ ha).mono ?_
      rintro e w4 ⟨rfl, hb4⟩
      rw [k1]
      have HB4 := Lib.hid (HB3.out.trans (hb4.mono HB3.out.size))
      clear hb4
      go_wp2
      rw [rounds_succ]
      go_wp2
      go_ret2
      exact ⟨ret_lb Q.out HL.out, HB4.out⟩
  · have hl' : legB a b = false := by
      unfold legB
      cases h1 : inB a 0 2 with
      | false => rfl
      | true =>
        cases h2 : inB b 0 2 with
        | false => rfl
        | true => exact absurd ⟨h1, h2⟩ hp
    have Q := Lib.hid (lb_no hl')
    have HL := Lib.hid hl'
    clear hl'
    by_cases h1 : 0 ≤ a ∧ a < 3
    · have hpa : pegB 3 a = true := by unfold pegB; simp; omega
      have hpb : pegB 3 b = false := by
        cases h2 : pegB 3 b with
        | false => rfl
        | true =>
          exfalso
          unfold pegB at h2
          simp at h2
          exact hp ⟨inB_yes (by omega) (by omega), inB_yes (by omega) (by omega)⟩
      clear hp
      go_enter Tryd.func15, Tryd.ntmps15
      go_wp2_with fail
      refine (isPeg_calls 3 _ _).mono ?_
      rintro e w' ⟨rfl, rfl⟩
      rw [hpa]
      go_wp2_with fail
      refine (isPeg_calls 3 _ _).mono ?_
      rintro e w' ⟨rfl, rfl⟩
      rw [hpb]
      go_wp2
      go_ret2
      exact ⟨ret_lb Q.out HL.out, HB0.out⟩
    · have hpa : pegB 3 a = false := by
        cases h2 : pegB 3 a with
        | false => rfl
        | true =>
          exfalso
          unfold pegB at h2
          simp at h2
          exact h1 (by omega)
      clear hp h1
      go_enter Tryd.func15, Tryd.ntmps15
      go_wp2_with fail
      refine (isPeg_calls 3 _ _).mono ?_
      rintro e w' ⟨rfl, rfl⟩
      rw [hpa]
      go_wp2
      go_ret2
      exact ⟨ret_lb Q.out HL.out, HB0.out⟩

theorem let_dig {a b : Int} : #[Value.int .u8 ((lbyte (lnum a b)).toNat : Int)] = ([lbyte (lnum a b)].map (fun b => Value.int .u8 (b.toNat : Int))).toArray := rfl

end Go.Proofs.YtgdkbplgonpelaaDoor
