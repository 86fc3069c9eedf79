/- Contracts: turned rules, of both sides. -/
import Derived.Test.YtfdjlgpdbgmdkacRuCode
import Derived.RegionTactic
import Derived.Laws.Rows
namespace Go.Proofs.Ytfdjlgpdbgmdkac
open Go.RowKit
set_option linter.unusedVariables false

/-- Turned rules; noughts for what is no rules. -/
def tu0 (r : Nat → Int) (k : Nat) : Int := r (([0, 3, 6, 1, 4, 7, 2, 5, 8] : List Nat)[k]?.getD 0)
def tuK (r : Nat → Int) (n k : Nat) : Int := if k < n then tu0 r k else 0
theorem tuK_step (r : Nat → Int) (a b : Nat) (ha : a < 3) (hb : b < 3) : ∀ k, k < 9 → (if k = a * 3 + b then r (b * 3 + a) else tuK r (3 * a + b) k) = tuK r (3 * a + (b + 1)) k := by
  intro k hk
  unfold tuK
  by_cases h : k = a * 3 + b
  · subst h
    rw [if_pos rfl, if_pos (by omega)]
    rcases (by omega : a = 0 ∨ a = 1 ∨ a = 2) with rfl | rfl | rfl <;> rcases (by omega : b = 0 ∨ b = 1 ∨ b = 2) with rfl | rfl | rfl <;> rfl
  · rw [if_neg h]
    by_cases h2 : k < 3 * a + b
    · rw [if_pos h2, if_pos (by omega)]
    · rw [if_neg h2, if_neg (by omega)]
theorem Box.get9 {w : World} {b t k : Nat} {r : Nat → Int} (h : Box w b t (z9 r)) (hk : k < 9) : w.cell? ⟨b, k, none⟩ = some (.int .i64 (r k)) := by
  rw [h.cell k]
  match k, hk with
  | 0, _ => rfl
  | 1, _ => rfl
  | 2, _ => rfl
  | 3, _ => rfl
  | 4, _ => rfl
  | 5, _ => rfl
  | 6, _ => rfl
  | 7, _ => rfl
  | 8, _ => rfl
def tuR (r : Nat → Int) : Nat → Int := if ruB r = true then tu0 r else fun _ => 0
theorem results_row_tmp {P : Program} {fn : Func} {p q : Tmp} {ty : TypeId} (h : fn.results = #[.cell p ty, .tmp q]) (tmps : Array Value) (w : World) (g : Nat) (t : TypeId) (cs : Array Value) (fr : Nat × Nat) (d : TypeDesc)
    (hp : tmps.getD p undef = .pointer (some ⟨g, 0, none⟩)) (hg : w.heap[g]? = some (.cells cs t fr))
    (hu : P.underlying ty = some d) (hd : (match d with | .struct _ | .array _ _ => true | _ => false) = true) (hi : (P.info? ty).map (·.size) = some cs.size) :
    (results fn tmps).run P w = .ok (.tuple #[.agg cs, tmps.getD q undef]) w := by
  have hp' : tmps[p]?.getD undef = .pointer (some ⟨g, 0, none⟩) := by simpa using hp
  simp [results, h, hp', asAddr, run_loadVar_row w g t ty cs fr d hg hu hd hi]
theorem ret_two' {u v : Value} {a b : Int} (h : u = v) (h2 : b = a) : Ending.returned (.tuple #[u, .int .i64 a]) = .returned (.tuple #[v, .int .i64 b]) := by rw [h, h2]
theorem z9_congr {f g : Nat → Int} (h : ∀ k, k < 9 → f k = g k) : z9 f = z9 g := by
  unfold z9
  rw [h 0 (by omega), h 1 (by omega), h 2 (by omega), h 3 (by omega), h 4 (by omega), h 5 (by omega), h 6 (by omega), h 7 (by omega), h 8 (by omega)]

set_option maxRecDepth 100000 in
set_option maxHeartbeats 4000000 in
theorem specTurnRules_calls (r : Nat → Int) (w : World) :
    Calls Try.prog 23 #[.agg (z9 r)] w fun e w' => e = .returned (.tuple #[.agg (z9 (tuR r)), .int .i64 (cR r)]) ∧ Below w.heap.size w w' := by
  have X0 := Lib.hid ((Box.new w 26 (z9 r)).alloc (.cells (z9 (fun _ => 0)) 26))
  have HB0 := Lib.hid (((Below.refl w.heap.size w).alloc (Nat.le_refl _) (.cells (z9 r) 26)).alloc (by simp) (.cells (z9 (fun _ => 0)) 26))
  have Q0 : Hid (Box ((w.alloc (.cells (z9 r) 26)).alloc (.cells (z9 (fun _ => 0)) 26)) (w.heap.size + 1) 26 (z9 (fun _ => 0))) := by
    have := Box.new (w.alloc (.cells (z9 r) 26)) 26 (z9 (fun _ => 0))
    rw [World.size_alloc] at this
    exact this
  by_cases hr : ruB r = true
  · have HR := Lib.hid hr
    unfold z9
    go_enter Try.func23, Try.ntmps23
    go_wp2_with fail
    refine (l07Is_calls r _).mono ?_
    rintro e w1 ⟨rfl, hb⟩
    have X1 := Lib.hid (X0.out.below hb X0.out.lt)
    have Q1 := Lib.hid (Q0.out.below hb Q0.out.lt)
    have HB1 := Lib.hid (HB0.out.trans (hb.mono HB0.out.size))
    have hz1 : w.heap.size + 1 < w1.heap.size := Q1.out.lt
    clear hb
    obtain ⟨x0, x1, x2, x3, x4, x5, x6, x7, x8⟩ := X1.out.nine
    have hz0 : w.heap.size < w1.heap.size := X1.out.lt
    go_wp2
    have O0 : Hid (Box (w1.alloc (.cells (z9 (tuK r 0)) 26)) w1.heap.size 26 (z9 (tuK r 0))) := Box.new _ _ _
    have X2 := Lib.hid (X1.out.alloc (.cells (z9 (tuK r 0)) 26))
    have Q2 := Lib.hid (Q1.out.alloc (.cells (z9 (tuK r 0)) 26))
    have HB2 := Lib.hid (HB1.out.alloc (by omega) (.cells (z9 (tuK r 0)) 26))
    change Code.wp _ _ _ _ (w1.alloc (.cells (z9 (tuK r 0)) 26))
    generalize w1.alloc (.cells (z9 (tuK r 0)) 26) = w2 at *
    clear x0 x1 x2 x3 x4 x5 x6 x7 x8 X1 Q1 HB1 X0 Q0 HB0
    generalize w1.heap.size = ob at *
    go_loopw [5] (fun i wr => ∃ a : Nat, a ≤ 3 ∧ i = .int .i64 a ∧ Box wr ob 26 (z9 (tuK r (3 * a))) ∧ Box wr w.heap.size 26 (z9 r) ∧ Box wr (w.heap.size + 1) 26 (z9 (fun _ => 0)) ∧ Below w.heap.size w wr) (fun i _ => 3 - (intOf i).toNat)
    case atStart => exact ⟨0, by omega, rfl, O0.out, X2.out, Q2.out, HB2.out⟩
    case round =>
      obtain ⟨a, ha, rfl, hO, hX, hQ, hB⟩ := hrel
      by_cases hlt : a < 3
      · go_wp2
        go_loopw [6] (fun j wq => ∃ b : Nat, b ≤ 3 ∧ j = .int .i64 b ∧ Box wq ob 26 (z9 (tuK r (3 * a + b))) ∧ Box wq w.heap.size 26 (z9 r) ∧ Box wq (w.heap.size + 1) 26 (z9 (fun _ => 0)) ∧ Below w.heap.size w wq) (fun j _ => 3 - (intOf j).toNat)
        case atStart => exact ⟨0, by omega, rfl, hO, hX, hQ, hB⟩
        case round =>
          obtain ⟨b, hb, rfl, hO, hX, hQ, hB⟩ := hrel
          by_cases hlb : b < 3
          · have g1 := hX.get9 (k := b * 3 + a) (by omega)
            have g2 := hO.get9 (k := a * 3 + b) (by omega)
            have g3 := hO.frozen (a * 3 + b)
            have HO := Lib.hid hO
            have HX := Lib.hid hX
            have HQ := Lib.hid hQ
            have HB := Lib.hid hB
            clear hO hX hQ hB
            go_wp2
            go_region
            go_wp2
            go_roundw
            case rel =>
              refine ⟨b + 1, by omega, by go_num, ?_, (HX.out.draws 1).other (by simp; omega) _, (HQ.out.draws 1).other (by simp; omega) _, (HB.out.drew).setCell (by simp; omega) _⟩
              have := (HO.out.draws 1).setz (k := a * 3 + b) (by omega) (r (b * 3 + a))
              rwa [z9_congr (tuK_step r a b (by omega) (by omega))] at this
            case measure => simp [intOf]; omega
          · obtain rfl : b = 3 := by omega
            go_wp2
            go_roundw
            case rel => exact ⟨a + 1, by omega, by go_num, hO, hX, hQ, hB⟩
            case measure => simp [intOf]; omega
      · obtain rfl : a = 3 := by omega
        obtain ⟨x0, x1, x2, x3, x4, x5, x6, x7, x8⟩ := hO.nine
        obtain ⟨y0, y1, y2, y3, y4, y5, y6, y7, y8⟩ := hQ.nine
        obtain ⟨f0, f1, f2, f3, f4, f5, f6, f7, f8⟩ := hQ.frozen9
        go_wp2
        have hbx := Lib.hid (hQ.set9 (tuK r 9))
        have hb9 := Lib.hid (below_set9 hB (b := w.heap.size + 1) (by omega) (tuK r 9))
        change bodyPost _ _ _ _ _ (set9 wr (w.heap.size + 1) (tuK r 9))
        generalize set9 wr (w.heap.size + 1) (tuK r 9) = w9 at *
        refine bodyPost_ret (results_row_tmp rfl _ _ (w.heap.size + 1) 26 (z9 (tuK r 9)) (0, 0) _ rfl hbx.out Try.underlying26 rfl (by kernel_rfl)) rfl ⟨ret_two' ?_ (cR_yes HR.out), hb9.out⟩
        change Value.agg _ = Value.agg (z9 (tuR r))
        rw [z9_congr (f := tuR r) (g := tuK r 9) (fun k hk => by unfold tuR tuK; rw [if_pos HR.out, if_pos hk])]
  · have hr' : ruB r = false := by simpa using hr
    have HR := Lib.hid hr'
    clear hr
    go_enter Try.func23, Try.ntmps23
    unfold z9
    go_wp2_with fail
    refine (l07Is_calls r _).mono ?_
    rintro e w1 ⟨rfl, hb⟩
    have Q1 := Lib.hid (Q0.out.below hb Q0.out.lt)
    have HB1 := Lib.hid (HB0.out.trans (hb.mono HB0.out.size))
    clear hb
    obtain ⟨y0, y1, y2, y3, y4, y5, y6, y7, y8⟩ := Q1.out.nine
    obtain ⟨f0, f1, f2, f3, f4, f5, f6, f7, f8⟩ := Q1.out.frozen9
    go_wp2
    have hbx := Lib.hid (Q1.out.set9 (fun _ => 0))
    have hb9 := Lib.hid (below_set9 HB1.out (b := w.heap.size + 1) (by omega) (fun _ => 0))
    change bodyPost _ _ _ _ _ (set9 w1 (w.heap.size + 1) (fun _ => 0))
    generalize set9 w1 (w.heap.size + 1) (fun _ => 0) = w9 at *
    refine bodyPost_ret (results_row_tmp rfl _ _ (w.heap.size + 1) 26 (z9 (fun _ => 0)) (0, 0) _ rfl hbx.out Try.underlying26 rfl (by kernel_rfl)) rfl ⟨ret_two' ?_ (cR_no HR.out), hb9.out⟩
    change Value.agg _ = Value.agg (z9 (tuR r))
    rw [show tuR r = fun _ => 0 by unfold tuR; rw [HR.out]; rfl]

/-- The rules with the directions of turned rules. -/
theorem turn_rP {r : Nat → Int} (h : ruB r = true) : ∀ k, k < 9 → rP (fun i j => alR r j i) ppAll k = tuR r k := by
  intro k hk
  have hd := ruB_iff r
  rw [h, decide_eq_true_iff] at hd
  unfold l9 at hd
  simp only [List.cons.injEq, and_true, rP_0, rP_1, rP_2, rP_3, rP_4, rP_5, rP_6, rP_7, rP_8] at hd
  obtain ⟨h0, h1, h2, h3, h4, h5, h6, h7, h8⟩ := hd
  unfold tuR
  rw [if_pos h]
  match k, hk with
  | 0, _ => exact (rP_0 _).trans h0.symm
  | 1, _ => exact (rP_1 _).trans h3.symm
  | 2, _ => exact (rP_2 _).trans h6.symm
  | 3, _ => exact (rP_3 _).trans h1.symm
  | 4, _ => exact (rP_4 _).trans h4.symm
  | 5, _ => exact (rP_5 _).trans h7.symm
  | 6, _ => exact (rP_6 _).trans h2.symm
  | 7, _ => exact (rP_7 _).trans h5.symm
  | 8, _ => exact (rP_8 _).trans h8.symm

set_option maxRecDepth 100000 in
set_option maxHeartbeats 4000000 in
theorem implTurnRules_calls (r : Nat → Int) (hw : ∀ k, k < 9 → (Lit.int .i64 (r k)).wf = true) (w : World) :
    Calls Try.prog 11 #[.agg (z9 r)] w fun e w' => e = .returned (.tuple #[.agg (z9 (tuR r)), .int .i64 (cR r)]) ∧ Below w.heap.size w w' := by
  have HW := Lib.hid hw
  clear hw
  have X0 := Lib.hid ((Box.new w 26 (z9 r)).alloc (.cells (z9 (fun _ => 0)) 26))
  have HB0 := Lib.hid (((Below.refl w.heap.size w).alloc (Nat.le_refl _) (.cells (z9 r) 26)).alloc (by simp) (.cells (z9 (fun _ => 0)) 26))
  have Q0 : Hid (Box ((w.alloc (.cells (z9 r) 26)).alloc (.cells (z9 (fun _ => 0)) 26)) (w.heap.size + 1) 26 (z9 (fun _ => 0))) := by
    have := Box.new (w.alloc (.cells (z9 r) 26)) 26 (z9 (fun _ => 0))
    rw [World.size_alloc] at this
    exact this
  by_cases hr : ruB r = true
  · have HR := Lib.hid hr
    have hc := cR_yes hr
    clear hr
    unfold z9
    go_enter Try.func11, Try.ntmps11
    go_wp2_with fail
    refine (codeOfRules_nil r HW.out _).mono ?_
    rintro e w1 ⟨rfl, hb⟩
    rw [hc]
    have X1 := Lib.hid (X0.out.below hb X0.out.lt)
    have Q1 := Lib.hid (Q0.out.below hb Q0.out.lt)
    have HB1 := Lib.hid (HB0.out.trans (hb.mono HB0.out.size))
    clear hb hc X0 Q0 HB0
    obtain ⟨x0, x1, x2, x3, x4, x5, x6, x7, x8⟩ := X1.out.nine
    go_wp2_with fail
    refine (rulesOfT_calls r _).mono ?_
    rintro e w2 ⟨rfl, hb⟩
    have Q2 := Lib.hid (Q1.out.below hb Q1.out.lt)
    have HB2 := Lib.hid (HB1.out.trans (hb.mono HB1.out.size))
    clear hb Q1 HB1 X1 x0 x1 x2 x3 x4 x5 x6 x7 x8
    rw [z9_congr (turn_rP HR.out)]
    generalize hq : tuR r = q
    have HQ := Lib.hid hq
    clear hq
    unfold z9
    obtain ⟨y0, y1, y2, y3, y4, y5, y6, y7, y8⟩ := Q2.out.nine
    obtain ⟨f0, f1, f2, f3, f4, f5, f6, f7, f8⟩ := Q2.out.frozen9
    go_wp2
    have hbx := Lib.hid (Q2.out.set9 q)
    have hb9 := Lib.hid (below_set9 HB2.out (b := w.heap.size + 1) (by omega) q)
    change bodyPost _ _ _ _ _ (set9 w2 (w.heap.size + 1) q)
    generalize set9 w2 (w.heap.size + 1) q = w9 at *
    exact bodyPost_ret (results_row_tmp rfl _ _ (w.heap.size + 1) 26 (z9 q) (0, 0) _ rfl hbx.out Try.underlying26 rfl (by kernel_rfl)) rfl ⟨ret_two' (by rw [HQ.out]; rfl) (cR_yes HR.out), hb9.out⟩
  · have hr' : ruB r = false := by simpa using hr
    have HR := Lib.hid hr'
    have hc := cR_no hr'
    clear hr hr'
    unfold z9
    go_enter Try.func11, Try.ntmps11
    go_wp2_with fail
    refine (codeOfRules_nil r HW.out _).mono ?_
    rintro e w1 ⟨rfl, hb⟩
    rw [hc]
    have Q1 := Lib.hid (Q0.out.below hb Q0.out.lt)
    have HB1 := Lib.hid (HB0.out.trans (hb.mono HB0.out.size))
    clear hb hc X0 Q0 HB0
    obtain ⟨y0, y1, y2, y3, y4, y5, y6, y7, y8⟩ := Q1.out.nine
    obtain ⟨f0, f1, f2, f3, f4, f5, f6, f7, f8⟩ := Q1.out.frozen9
    go_wp2
    have hbx := Lib.hid (Q1.out.set9 (fun _ => 0))
    have hb9 := Lib.hid (below_set9 HB1.out (b := w.heap.size + 1) (by omega) (fun _ => 0))
    change bodyPost _ _ _ _ _ (set9 w1 (w.heap.size + 1) (fun _ => 0))
    generalize set9 w1 (w.heap.size + 1) (fun _ => 0) = w9 at *
    refine bodyPost_ret (results_row_tmp rfl _ _ (w.heap.size + 1) 26 (z9 (fun _ => 0)) (0, 0) _ rfl hbx.out Try.underlying26 rfl (by kernel_rfl)) rfl ⟨ret_two' ?_ (cR_no HR.out), hb9.out⟩
    change Value.agg _ = Value.agg (z9 (tuR r))
    rw [show tuR r = fun _ => 0 by unfold tuR; rw [HR.out]; rfl]

end Go.Proofs.Ytfdjlgpdbgmdkac
