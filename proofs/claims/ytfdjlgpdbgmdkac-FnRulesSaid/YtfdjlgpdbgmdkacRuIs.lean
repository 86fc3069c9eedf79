/- Contracts: whether something is rules, of both sides. -/
import Derived.Test.YtfdjlgpdbgmdkacRuOf
import Derived.Test.YtfdjlgpdbgmdkacState1
import Derived.Deep.RegionHeld3
import Derived.DeepKeys
import Derived.Laws.StructEq
namespace Go.Proofs.Ytfdjlgpdbgmdkac
open Go.RowKit
set_option linter.unusedVariables false

/-- These are rules. -/
def ruB (r : Nat → Int) : Bool := (inB (r 0) 0 1 && !(r 0 != 0)) && (inB (r 1) 0 1 && (inB (r 2) 0 1 && (inB (r 3) 0 1 && ((inB (r 4) 0 1 && !(r 4 != 0)) && (inB (r 5) 0 1 && (inB (r 6) 0 1 && (inB (r 7) 0 1 && (inB (r 8) 0 1 && !(r 8 != 0)))))))))

set_option maxRecDepth 100000 in
set_option maxHeartbeats 4000000 in
theorem l07Is_calls (r : Nat → Int) (w : World) :
    Calls Try.prog 36 #[.agg (z9 r)] w fun e w' => e = .returned (.bool (ruB r)) ∧ Below w.heap.size w w' := by
  unfold z9
  go_enter Try.func36, Try.ntmps36
  go_wp2
  repeat any_goals (first | (refine wp_loop_rounds 4 ?_) | (rw [rounds_succ]; go_wp2_with (refine (l01In_calls _ 0 1 _).mono ?_; rintro e w' ⟨rfl, rfl⟩)))
  all_goals (go_returns; refine ⟨?_, by go_grown⟩; simp_all [ruB])

theorem specIsRules_calls (r : Nat → Int) (w : World) :
    Calls Try.prog 10 #[.agg (z9 r)] w fun e w' => e = .returned (.bool (ruB r)) ∧ Below w.heap.size w w' := by
  unfold z9
  go_enter Try.func10, Try.ntmps10
  go_wp2_with (refine (l07Is_calls r _).mono ?_; rintro e w' ⟨rfl, hb⟩)
  go_ret
  exact ⟨rfl, ((Below.refl _ _).alloc (Nat.le_refl _) _).trans (hb.mono (by simp))⟩

theorem rP_0 (a : Int → Int → Bool) : rP a ppAll 0 = 0 := by simp [rP, ppAll, pp01, pp02, pp10, pp12, pp20, pp21]
theorem rP_1 (a : Int → Int → Bool) : rP a ppAll 1 = if a 0 1 = true then 1 else 0 := by simp [rP, ppAll, pp01, pp02, pp10, pp12, pp20, pp21]
theorem rP_2 (a : Int → Int → Bool) : rP a ppAll 2 = if a 0 2 = true then 1 else 0 := by simp [rP, ppAll, pp01, pp02, pp10, pp12, pp20, pp21]
theorem rP_3 (a : Int → Int → Bool) : rP a ppAll 3 = if a 1 0 = true then 1 else 0 := by simp [rP, ppAll, pp01, pp02, pp10, pp12, pp20, pp21]
theorem rP_4 (a : Int → Int → Bool) : rP a ppAll 4 = 0 := by simp [rP, ppAll, pp01, pp02, pp10, pp12, pp20, pp21]
theorem rP_5 (a : Int → Int → Bool) : rP a ppAll 5 = if a 1 2 = true then 1 else 0 := by simp [rP, ppAll, pp01, pp02, pp10, pp12, pp20, pp21]
theorem rP_6 (a : Int → Int → Bool) : rP a ppAll 6 = if a 2 0 = true then 1 else 0 := by simp [rP, ppAll, pp01, pp02, pp10, pp12, pp20, pp21]
theorem rP_7 (a : Int → Int → Bool) : rP a ppAll 7 = if a 2 1 = true then 1 else 0 := by simp [rP, ppAll, pp01, pp02, pp10, pp12, pp20, pp21]
theorem rP_8 (a : Int → Int → Bool) : rP a ppAll 8 = 0 := by simp [rP, ppAll, pp01, pp02, pp10, pp12, pp20, pp21]

def lits9 (f : Nat → Int) : List Lit := [.int .i64 (f 0), .int .i64 (f 1), .int .i64 (f 2), .int .i64 (f 3), .int .i64 (f 4), .int .i64 (f 5), .int .i64 (f 6), .int .i64 (f 7), .int .i64 (f 8)]
def l9 (f : Nat → Int) : List Int := [f 0, f 1, f 2, f 3, f 4, f 5, f 6, f 7, f 8]
theorem lits9_iff (f g : Nat → Int) : lits9 f = lits9 g ↔ l9 f = l9 g := by simp [lits9, l9]
theorem cells9U : Try.prog.cellsOf 26 = 9 := by kernel_rfl
theorem cells3U : Try.prog.cellsOf 24 = 3 := by kernel_rfl
theorem cells1U : Try.prog.cellsOf 2 = 1 := by kernel_rfl
theorem keyT9U : Try.prog.keyTypeAt 3 26 = true := by kernel_rfl
theorem keyLits9U (f : Nat → Int) (h : ∀ i, i < 9 → (Lit.int .i64 (f i)).wf = true) : Try.prog.keyLits 3 26 (Value.agg (z9 f)).cells.toList = some (lits9 f) := by
  have one : ∀ i, i < 9 → Try.prog.keyLits 1 2 [.int .i64 (f i)] = some [.int .i64 (f i)] := by
    intro i hi
    simp [Program.keyLits, Try.underlying2, h i hi]
  have three : ∀ i, i + 2 < 9 → Try.prog.keyLits 2 24 [.int .i64 (f i), .int .i64 (f (i + 1)), .int .i64 (f (i + 2))] = some [.int .i64 (f i), .int .i64 (f (i + 1)), .int .i64 (f (i + 2))] := by
    intro i hi
    have e0 := one i (by omega)
    have e1 := one (i + 1) (by omega)
    have e2 := one (i + 2) (by omega)
    unfold Program.keyLits
    simp [Try.underlying24, cells3U, cells1U, List.range_succ, e0, e1, e2]
  have t0 := three 0 (by omega)
  have t1 := three 3 (by omega)
  have t2 := three 6 (by omega)
  simp only [Nat.reduceAdd] at t0 t1 t2
  unfold Program.keyLits
  simp [Try.underlying26, cells9U, cells3U, z9, lits9, Value.cells, List.range_succ, t0, t1, t2]

theorem eq9U (f g : Nat → Int) (hf : ∀ i, i < 9 → (Lit.int .i64 (f i)).wf = true) (hg : ∀ i, i < 9 → (Lit.int .i64 (g i)).wf = true) (W : World) :
    (Op.equalIn 10000 26 (.agg (z9 f)) (.agg (z9 g))).run Try.prog W = .ok (decide (l9 f = l9 g)) W := by
  have E := run_equalIn_deep (P := Try.prog) 9997 3 26 keyT9U
  obtain ⟨r, hr, hi⟩ := E W 3 3 (.agg (z9 f)) (.agg (z9 g)) _ _ (by simp [Value.formed, Try.underlying26, z9, cells9U]) (by simp [Value.formed, Try.underlying26, z9, cells9U]) (keyLits9U f hf) (keyLits9U g hg)
  rw [hr]
  congr 1
  cases r
  · symm; rw [decide_eq_false_iff_not]; intro h; have := hi.2 ((lits9_iff _ _).2 h); cases this
  · symm; rw [decide_eq_true_iff]; exact (lits9_iff _ _).1 (hi.1 rfl)

theorem rP_wf (a : Int → Int → Bool) (k : Nat) : (Lit.int .i64 (rP a ppAll k)).wf = true := by
  unfold rP
  split <;> decide

/-- Rules are those numbers that are the rules with the same directions. -/
theorem ruB_iff (r : Nat → Int) : decide (l9 r = l9 (rP (alR r) ppAll)) = ruB r := by
  rw [Bool.eq_iff_iff, decide_eq_true_iff]
  unfold l9 ruB inB
  have a01 : alR r 0 1 = (r 1 == 1) := rfl
  have a02 : alR r 0 2 = (r 2 == 1) := rfl
  have a10 : alR r 1 0 = (r 3 == 1) := rfl
  have a12 : alR r 1 2 = (r 5 == 1) := rfl
  have a20 : alR r 2 0 = (r 6 == 1) := rfl
  have a21 : alR r 2 1 = (r 7 == 1) := rfl
  simp only [rP_0, rP_1, rP_2, rP_3, rP_4, rP_5, rP_6, rP_7, rP_8, a01, a02, a10, a12, a20, a21]
  have h : ∀ a : Int, (a = if (a == 1) = true then 1 else 0) ↔ (0 ≤ a ∧ a ≤ 1) := by
    intro a
    simp only [beq_iff_eq]
    split <;> omega
  simp only [List.cons.injEq, and_true, h, Bool.and_eq_true, decide_eq_true_eq, Bool.not_eq_true', bne_eq_false_iff_eq]
  constructor
  · rintro ⟨h0, h1, h2, h3, h4, h5, h6, h7, h8⟩
    exact ⟨⟨by omega, h0⟩, h1, h2, h3, ⟨by omega, h4⟩, h5, h6, h7, by omega, h8⟩
  · rintro ⟨⟨_, h0⟩, h1, h2, h3, ⟨_, h4⟩, h5, h6, h7, _, h8⟩
    exact ⟨h0, h1, h2, h3, h4, h5, h6, h7, h8⟩

set_option maxRecDepth 100000 in
set_option maxHeartbeats 2000000 in
theorem implIsRules_calls (r : Nat → Int) (hw : ∀ k, k < 9 → (Lit.int .i64 (r k)).wf = true) (w : World) :
    Calls Try.prog 9 #[.agg (z9 r)] w fun e w' => e = .returned (.bool (ruB r)) ∧ Below w.heap.size w w' := by
  have HE : Hid (∀ W, (Op.equalIn 10000 26 (.agg (z9 r)) (.agg (z9 (rP (alR r) ppAll)))).run Try.prog W = .ok (ruB r) W) := fun W => (eq9U r _ hw (fun k _ => rP_wf _ k) W).trans (by rw [ruB_iff])
  have X := Lib.hid (Box.new w 26 (z9 r))
  have HB := Lib.hid ((Below.refl w.heap.size w).alloc (Nat.le_refl _) (.cells (z9 r) 26))
  clear hw
  go_enter Try.func9, Try.ntmps9
  go_wp2_with fail
  obtain ⟨x0, x1, x2, x3, x4, x5, x6, x7, x8⟩ := X.out.nine
  have hE := HE.out
  generalize w.alloc (.cells (z9 r) 26) = w1 at *
  unfold z9 at hE
  have hsz := X.out.lt
  have HX := X.out
  go_region_held3 (fun w' => w'.cell? ⟨w.heap.size, 0, none⟩ = some (.int .i64 (r 0)) ∧ w'.cell? ⟨w.heap.size, 1, none⟩ = some (.int .i64 (r 1)) ∧ w'.cell? ⟨w.heap.size, 2, none⟩ = some (.int .i64 (r 2)) ∧ w'.cell? ⟨w.heap.size, 3, none⟩ = some (.int .i64 (r 3)) ∧ w'.cell? ⟨w.heap.size, 4, none⟩ = some (.int .i64 (r 4)) ∧ w'.cell? ⟨w.heap.size, 5, none⟩ = some (.int .i64 (r 5)) ∧ w'.cell? ⟨w.heap.size, 6, none⟩ = some (.int .i64 (r 6)) ∧ w'.cell? ⟨w.heap.size, 7, none⟩ = some (.int .i64 (r 7)) ∧ w'.cell? ⟨w.heap.size, 8, none⟩ = some (.int .i64 (r 8)))
    (first | exact ⟨x0, x1, x2, x3, x4, x5, x6, x7, x8⟩ | exact ⟨e0, e1, e2, e3, e4, e5, e6, e7, e8⟩ | go_keep)
    ((go_at_call 35; refine (rulesOfR_calls r _).mono ?_; rintro e w2 ⟨rfl, hb⟩; dsimp only [z9]; have X2 := Lib.hid (HX.below (undrew hb) HX.lt); obtain ⟨e0, e1, e2, e3, e4, e5, e6, e7, e8⟩ := X2.out.nine))
  have HB2 := Lib.hid (HB.out.trans ((undrew hb).mono HB.out.size))
  clear hb e0 e1 e2 e3 e4 e5 e6 e7 e8 x0 x1 x2 x3 x4 x5 x6 x7 x8 hE HX
  go_wp2
  go_ret
  exact ⟨rfl, HB2.out⟩

end Go.Proofs.Ytfdjlgpdbgmdkac
