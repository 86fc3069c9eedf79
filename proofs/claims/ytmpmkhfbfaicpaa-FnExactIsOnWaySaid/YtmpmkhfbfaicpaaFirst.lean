/- Contracts: FirstMove, by the specification's model. -/
import Derived.Test.YtmpmkhfbfaicpaaWayTo
namespace Go.Proofs.Ytmpmkhfbfaicpaa
open Go.RowKit
set_option linter.unusedVariables false

theorem Box.set3 {w : World} {b t : Nat} {x y z a c d : Value} (h : Box w b t #[x, y, z]) : Box (((w.setCell ⟨b, 0, none⟩ a).setCell ⟨b, 1, none⟩ c).setCell ⟨b, 2, none⟩ d) b t #[a, c, d] := by
  have h1 := ((h.set 0 a).set 1 c).set 2 d
  simpa using h1
/-- The first move of the way; nothing if there is none. -/
def fmM (p : Int) (L : List Int) (a : Int) : Mv := if codeW p L a = 0 ∧ fdW L a < L.length then mvW L a else (0, 0, 0)
def fmE (p : Int) (L : List Int) (a : Int) : Int := if codeW p L a = 0 then (if fdW L a < L.length then 0 else 5) else codeW p L a
def RetFm (w : World) (m : Mv) (E : Int) (e : Ending) (w' : World) : Prop := e = .returned (.tuple #[.agg #[.int .i64 m.1, .int .i64 m.2.1, .int .i64 m.2.2], .int .i64 E]) ∧ Below w.heap.size w w'

set_option maxHeartbeats 1000000 in
theorem specFirstMove_ret (ad : Addr) (n c : Nat) (p : Int) (L : List Int) (a : Int) (w : World) (hL : L.length = n) (hn : n ≤ 1048576) (hI : Ints w (some ad) L) :
    Calls Try.prog 7 #[.agg #[.int .i64 p, .slice (some ad) n c], .int .i64 a] w (RetFm w (fmM p L a) (fmE p L a)) := by
  have HL := Lib.hid hL
  have hb1 : Below w.heap.size w (w.alloc (.cells #[.int .i64 p, .slice (some ad) n c] 30)) := (Below.refl _ w).alloc (Nat.le_refl _) _
  have X0 := Lib.hid ((Box.new w 30 #[.int .i64 p, .slice (some ad) n c]).alloc (.cells #[.int .i64 0, .int .i64 0, .int .i64 0] 27))
  have hm := Box.new (w.alloc (.cells #[.int .i64 p, .slice (some ad) n c] 30)) 27 #[.int .i64 0, .int .i64 0, .int .i64 0]
  rw [World.size_alloc] at hm
  have M0 := Lib.hid hm
  have HB0 := Lib.hid (hb1.alloc (by simp) (.cells #[.int .i64 0, .int .i64 0, .int .i64 0] 27))
  have HI0 := Lib.hid (hI.below HB0.out)
  clear hL hI hm hb1
  by_cases hz : codeW p L a = 0
  · obtain ⟨hs, hp, ha⟩ := codeW_zero hz
    subst hp
    have hz' : (codeW 3 L a != 0) = false := by simpa using hz
    have h8 := (state_facts hs HL.out).2.2.1
    have HP := Lib.hid (state_pegsOk hs)
    have HWB := Lib.hid (show (wayL L a).length ≤ 255 from wayL_bd (by rw [HL.out]; exact h8))
    by_cases hf : fdW L a < L.length
    · have e1 : fmM 3 L a = mvW L a := by unfold fmM; rw [if_pos ⟨hz, hf⟩]
      have e2 : fmE 3 L a = 0 := by unfold fmE; rw [if_pos hz, if_pos hf]
      have HM := Lib.hid (wayL_more HP.out ha hf)
      rw [e1, e2]
      clear e1 e2 hz hs hf
      go_enter Try.func7, Try.ntmps7
      go_wp2_with fail
      refine (l02With_calls (some ad) n c 3 L a _ HL.out hn HI0.out).mono ?_
      rintro e w1 ⟨rfl, hb1⟩
      have X1 := Lib.hid (X0.out.below hb1 X0.out.lt)
      have M1 := Lib.hid (M0.out.below hb1 M0.out.lt)
      have HB1 := Lib.hid (HB0.out.trans (hb1.mono HB0.out.size))
      have HI1 := Lib.hid (HI0.out.below hb1)
      clear hb1
      obtain ⟨x0, x1, _, _⟩ := X1.out.two
      go_wp2_with fail
      refine (l02Way_calls (some ad) n c L a _ HL.out h8 (fun h => by cases h) HI1.out HP.out ha).mono ?_
      rintro e w2 ⟨A', c', rfl, hO, hb2⟩
      have HB2 := Lib.hid (HB1.out.trans (hb2.mono HB1.out.size))
      have M2 := Lib.hid (M1.out.below hb2 M1.out.lt)
      obtain ⟨g, rfl, hg, k0, k1, k2⟩ := (OwnM.mvs hO) 0 (by rw [HM.out]; simp)
      have e0 : (wayL L a)[0]?.getD (0, 0, 0) = mvW L a := by rw [HM.out]; rfl
      rw [e0] at k0 k1 k2
      have hlen : ((wayL L a).length : Int) = ((wayL (stepW L a) a).length : Int) + 1 := by rw [HM.out]; simp
      have hl0 : (((wayL L a).length : Int) == 0) = false := by rw [beq_eq_false_iff_ne]; omega
      have hl1 : (0 : Int) < ((wayL L a).length : Int) := by omega
      clear hb2 hO x0 x1 e0 hlen
      have hf0 := M2.out.frozen 0
      have hf1 := M2.out.frozen 1
      have hf2 := M2.out.frozen 2
      clear HM
      generalize mvW L a = mv at *
      obtain ⟨y1, y2, y3⟩ := mv
      dsimp only at k0 k1 k2 ⊢
      rw [Nat.zero_mul] at k0
      rw [Nat.zero_mul, Nat.zero_add] at k1 k2
      generalize (wayL L a).length = len at *
      obtain ⟨m0, m1, m2⟩ := M2.out.three
      go_wp2
      obtain ⟨r0, r1, r2⟩ := (M2.out.set3 (a := .int .i64 y1) (c := .int .i64 y2) (d := .int .i64 y3)).three
      refine bodyPost_ret (v := .tuple #[.agg #[.int .i64 y1, .int .i64 y2, .int .i64 y3], .int .i64 0]) (by simp [results, Try.results7, go_sem, r0, r1, r2]) rfl ⟨rfl, ?_⟩
      exact ((HB2.out.setCell (by simp) _).setCell (by simp) _).setCell (by simp) _
    · have e1 : fmM 3 L a = (0, 0, 0) := by unfold fmM; rw [if_neg (fun h => hf h.2)]
      have e2 : fmE 3 L a = 5 := by unfold fmE; rw [if_pos hz, if_neg hf]
      have HM := Lib.hid (wayL_end (a := a) (L := L) (by have := fdW_le L a; omega))
      rw [e1, e2]
      clear e1 e2 hz hs hf
      go_enter Try.func7, Try.ntmps7
      go_wp2_with fail
      refine (l02With_calls (some ad) n c 3 L a _ HL.out hn HI0.out).mono ?_
      rintro e w1 ⟨rfl, hb1⟩
      have X1 := Lib.hid (X0.out.below hb1 X0.out.lt)
      have M1 := Lib.hid (M0.out.below hb1 M0.out.lt)
      have HB1 := Lib.hid (HB0.out.trans (hb1.mono HB0.out.size))
      have HI1 := Lib.hid (HI0.out.below hb1)
      clear hb1
      obtain ⟨x0, x1, _, _⟩ := X1.out.two
      go_wp2_with fail
      refine (l02Way_calls (some ad) n c L a _ HL.out h8 (fun h => by cases h) HI1.out HP.out ha).mono ?_
      rintro e w2 ⟨A', c', rfl, hO, hb2⟩
      have HB2 := Lib.hid (HB1.out.trans (hb2.mono HB1.out.size))
      have M2 := Lib.hid (M1.out.below hb2 M1.out.lt)
      have hl0 : (((wayL L a).length : Int) == 0) = true := by rw [HM.out]; rfl
      clear hb2 hO x0 x1
      obtain ⟨m0, m1, m2⟩ := M2.out.three
      have hf0 := M2.out.frozen 0
      have hf1 := M2.out.frozen 1
      have hf2 := M2.out.frozen 2
      obtain ⟨r0, r1, r2⟩ := (M2.out.set3 (a := .int .i64 0) (c := .int .i64 0) (d := .int .i64 0)).three
      go_wp2
      refine bodyPost_ret (v := .tuple #[.agg #[.int .i64 0, .int .i64 0, .int .i64 0], .int .i64 5]) (by simp [results, Try.results7, go_sem, r0, r1, r2]) rfl ⟨rfl, ?_⟩
      exact ((HB2.out.setCell (by simp) _).setCell (by simp) _).setCell (by simp) _
  · have e1 : fmM p L a = (0, 0, 0) := by unfold fmM; rw [if_neg (fun h => hz h.1)]
    have e2 : fmE p L a = codeW p L a := by unfold fmE; rw [if_neg hz]
    have hz' : (codeW p L a != 0) = true := by simpa using hz
    rw [e1, e2]
    clear e1 e2 hz
    go_enter Try.func7, Try.ntmps7
    go_wp2_with fail
    refine (l02With_calls (some ad) n c p L a _ HL.out hn HI0.out).mono ?_
    rintro e w1 ⟨rfl, hb1⟩
    have M1 := Lib.hid (M0.out.below hb1 M0.out.lt)
    have HB1 := Lib.hid (HB0.out.trans (hb1.mono HB0.out.size))
    clear hb1
    obtain ⟨m0, m1, m2⟩ := M1.out.three
    have hf0 := M1.out.frozen 0
    have hf1 := M1.out.frozen 1
    have hf2 := M1.out.frozen 2
    obtain ⟨r0, r1, r2⟩ := (M1.out.set3 (a := .int .i64 0) (c := .int .i64 0) (d := .int .i64 0)).three
    go_wp2
    refine bodyPost_ret (v := .tuple #[.agg #[.int .i64 0, .int .i64 0, .int .i64 0], .int .i64 (codeW p L a)]) (by simp [results, Try.results7, go_sem, r0, r1, r2]) rfl ⟨rfl, ?_⟩
    exact ((HB1.out.setCell (by simp) _).setCell (by simp) _).setCell (by simp) _

end Go.Proofs.Ytmpmkhfbfaicpaa
