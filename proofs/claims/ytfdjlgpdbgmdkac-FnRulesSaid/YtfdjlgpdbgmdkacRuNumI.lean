/- Contracts: the least number by rules, of the program. -/
import Derived.Test.YtfdjlgpdbgmdkacRuTower
import Derived.Test.YtfdjlgpdbgmdkacRuTabs
namespace Go.Proofs.Ytfdjlgpdbgmdkac
open Go.RowKit
set_option linter.unusedVariables false

theorem strong_way {r : Nat → Int} (hr : ruB r = true) (hs : strB r = true) (i j : Int) (hi : 0 ≤ i ∧ i < 3) (hj : 0 ≤ j ∧ j < 3) (hne : i ≠ j) :
    alR r i j = true ∨ (alR r i (3 - i - j) && alR r (3 - i - j) j) = true := by
  have hT : ∀ m, m < 9 → tF r (m / 3) (m % 3) = true := by
    unfold strB strTo at hs
    rw [List.all_eq_true] at hs
    exact fun m hm => hs m (List.mem_range.2 hm)
  have t1 := hT 1 (by omega)
  have t2 := hT 2 (by omega)
  have t3 := hT 3 (by omega)
  have t5 := hT 5 (by omega)
  have t6 := hT 6 (by omega)
  have t7 := hT 7 (by omega)
  unfold ruB inB at hr
  unfold tF at t1 t2 t3 t5 t6 t7
  simp at hr t1 t2 t3 t5 t6 t7
  unfold alR
  rcases in3 hi with rfl | rfl | rfl <;> rcases in3 hj with rfl | rfl | rfl <;> first | (exact absurd rfl hne) | (simp; omega)

theorem fold_all {p : Int → Prop} (a : Int → Int → Bool) (c : Nat → Int) : ∀ (pre : List PP) (f : Nat → Int), (∀ k, p (f k)) → (∀ x : PP, p (mV a c x.i x.j)) → ∀ k, p (pre.foldl (fun f x k => if k = ixP x.i x.j then mV a c x.i x.j else f k) f k)
  | [], f, hf, _, k => hf k
  | x :: pre, f, hf, hx, k => fold_all a c pre _ (fun k => by
      dsimp only
      split
      · exact hx x
      · exact hf k) hx k
theorem moreT_bound {a : Int → Int → Bool} (ha : ∀ i j : Int, 0 ≤ i ∧ i < 3 → 0 ≤ j ∧ j < 3 → i ≠ j → a i j = true ∨ (a i (3 - i - j) && a (3 - i - j) j) = true) {c : Nat → Int} {M : Int} (hM : 0 ≤ M ∧ M ≤ 1000000) (hc : ∀ k, 0 ≤ c k ∧ c k ≤ M) (k : Nat) :
    0 ≤ moreT a c k ∧ moreT a c k ≤ 3 * M + 2 := by
  refine fold_all (p := fun v => 0 ≤ v ∧ v ≤ 3 * M + 2) a c ppAll (fun _ => 0) (fun _ => by omega) (fun x => ?_) k
  have h := ha x.i x.j x.hi x.hj x.hne
  have c1 := hc (ixP x.i (3 - x.i - x.j))
  have c2 := hc (ixP (3 - x.i - x.j) x.j)
  have c3 := hc (ixP x.i x.j)
  have c4 := hc (ixP x.j x.i)
  unfold mV wOne wTwo
  rcases h with h | h
  · rw [if_pos h]
    split <;> omega
  · rw [if_pos h]
    split <;> omega
def bnd : Nat → Int
  | 0 => 0
  | n + 1 => 3 * bnd n + 2
theorem tbl_bound {r : Nat → Int} (hr : ruB r = true) (hs : strB r = true) : ∀ m, m ≤ 8 → ∀ k, 0 ≤ tbl (alR r) m k ∧ tbl (alR r) m k ≤ 1000000 := by
  have hb : ∀ m, m ≤ 8 → 0 ≤ bnd m ∧ bnd m ≤ 6560 := by
    intro m hm
    match m, hm with
    | 0, _ => decide
    | 1, _ => decide
    | 2, _ => decide
    | 3, _ => decide
    | 4, _ => decide
    | 5, _ => decide
    | 6, _ => decide
    | 7, _ => decide
    | 8, _ => decide
  have h : ∀ m, m ≤ 8 → ∀ k, 0 ≤ tbl (alR r) m k ∧ tbl (alR r) m k ≤ bnd m := by
    intro m
    induction m with
    | zero => intro _ k; exact ⟨Int.le_refl _, Int.le_refl _⟩
    | succ m ih =>
      intro hm k
      have := hb m (by omega)
      exact moreT_bound (strong_way hr hs) (M := bnd m) (by omega) (ih (by omega)) k
  intro m hm k
  have h1 := h m hm k
  have h2 := hb m hm
  omega

/-- The least number by rules. -/
def nuV (r : Nat → Int) (n i j : Int) : Int := if twE r n i j = 0 then tbl (alR r) n.toNat (ixP i j) else 0
theorem ret_intsT {a b c d : Int} (h : a = c) (h2 : b = d) : Ending.returned (.tuple #[.int .i64 a, .int .i64 b]) = .returned (.tuple #[.int .i64 c, .int .i64 d]) := by rw [h, h2]
theorem twE_zero {r : Nat → Int} {n i j : Int} (h : twE r n i j = 0) : ruB r = true ∧ (0 ≤ n ∧ n ≤ 8) ∧ (pegB 3 i = true ∧ pegB 3 j = true ∧ i ≠ j) ∧ strB r = true := by
  unfold twE at h
  split at h
  · split at h
    · split at h
      · split at h
        · refine ⟨?_, ?_, ?_, ?_⟩ <;> assumption
        · omega
      · omega
    · omega
  · omega

set_option maxRecDepth 100000 in
set_option maxHeartbeats 4000000 in
theorem implNumberByRules_calls (r : Nat → Int) (hw : ∀ k, k < 9 → (Lit.int .i64 (r k)).wf = true) (n i j : Int) (w : World) :
    Calls Try.prog 14 #[.agg (z9 r), .int .i64 n, .int .i64 i, .int .i64 j] w fun e w' => e = .returned (.tuple #[.int .i64 (nuV r n i j), .int .i64 (twE r n i j)]) ∧ Below w.heap.size w w' := by
  have HW := Lib.hid hw
  clear hw
  have X := Box.new w 26 (z9 r)
  obtain ⟨x0, x1, x2, x3, x4, x5, x6, x7, x8⟩ := X.nine
  have X0 := Lib.hid (X.alloc (.cells #[.int .i64 i, .int .i64 j] 2))
  have G0 : Hid (Box ((w.alloc (.cells (z9 r) 26)).alloc (.cells #[.int .i64 i, .int .i64 j] 2)) (w.heap.size + 1) 2 #[.int .i64 i, .int .i64 j]) := by
    have := Box.new (w.alloc (.cells (z9 r) 26)) 2 #[.int .i64 i, .int .i64 j]
    rw [World.size_alloc] at this
    exact this
  have HB0 : Hid (Below w.heap.size w ((w.alloc (.cells (z9 r) 26)).alloc (.cells #[.int .i64 i, .int .i64 j] 2))) := ((Below.refl _ _).alloc (Nat.le_refl _) _).alloc (by simp) _
  clear X
  obtain ⟨E, hE⟩ : ∃ E, twE r n i j = E := ⟨_, rfl⟩
  have HE := Lib.hid hE
  by_cases h0 : E = 0
  · subst h0
    obtain ⟨hr, ⟨hn0, hn8⟩, ⟨hpi, hpj, hne⟩, hs⟩ := twE_zero hE
    have hi : 0 ≤ i ∧ i < 3 := by unfold pegB at hpi; simpa using hpi
    have hj : 0 ≤ j ∧ j < 3 := by unfold pegB at hpj; simpa using hpj
    obtain ⟨N, rfl⟩ : ∃ N : Nat, n = N := ⟨n.toNat, by omega⟩
    have hN8 : N ≤ 8 := by omega
    have HR := Lib.hid hr
    have HS := Lib.hid hs
    have HV : Hid (tbl (alR r) N (ixP i j) = nuV r N i j) := by unfold Hid nuV; rw [if_pos hE, Int.toNat_natCast]
    clear hr hs hpi hpj hne hn0 hn8 hE
    · go_enter Try.func14, Try.ntmps14
      go_wp2_with fail
      refine (codeOfTower_calls r HW.out (N : Int) i j (w.heap.size + 1) _ G0.out).mono ?_
      rintro e w1 ⟨rfl, hb⟩
      have X1 := Lib.hid (X0.out.below hb X0.out.lt)
      have HB1 := Lib.hid (HB0.out.trans (hb.mono HB0.out.size))
      clear hb HB0 G0 X0 x0 x1 x2 x3 x4 x5 x6 x7 x8
      rw [HE.out]
      obtain ⟨x0, x1, x2, x3, x4, x5, x6, x7, x8⟩ := X1.out.nine
      go_wp2_with fail
      refine (tablesTo_calls r N hN8 (fun m hm => tbl_bound HR.out HS.out m (by omega)) _).mono ?_
      rintro e w2 ⟨g, rfl, hg, hrow, hb⟩
      have HB2 := Lib.hid (HB1.out.trans (hb.mono HB1.out.size))
      have c0 := hrow.cell (i := N * 9 + i.toNat * 3 + j.toNat) (by omega)
      rw [show upT (alR r) (N + 1) (N * 9 + i.toNat * 3 + j.toNat) = .int .i64 (tbl (alR r) N (ixP i j)) by rw [Nat.add_assoc]; exact upT_at _ (by omega) (by omega)] at c0
      clear hb hrow X1 HB1 x0 x1 x2 x3 x4 x5 x6 x7 x8
      go_wp2
      go_returns
      exact ⟨ret_intsT HV.out HE.out.symm, HB2.out⟩
  · have HV : Hid (0 = nuV r n i j) := by unfold Hid nuV; rw [if_neg (by rw [hE]; exact h0)]
    clear hE
    · go_enter Try.func14, Try.ntmps14
      go_wp2_with fail
      refine (codeOfTower_calls r HW.out n i j (w.heap.size + 1) _ G0.out).mono ?_
      rintro e w1 ⟨rfl, hb⟩
      have X1 := Lib.hid (X0.out.below hb X0.out.lt)
      have HB1 := Lib.hid (HB0.out.trans (hb.mono HB0.out.size))
      clear hb HB0 G0 X0 x0 x1 x2 x3 x4 x5 x6 x7 x8
      rw [HE.out]
      go_wp2
      go_returns
      exact ⟨ret_intsT HV.out HE.out.symm, HB1.out⟩

end Go.Proofs.Ytfdjlgpdbgmdkac
