/- Contracts: TableByRules, by the program and by the specification's model. -/
import Derived.Test.YtfdjlgpdbgmdkacRuTower
import Derived.Test.YtfdjlgpdbgmdkacRuNumI
import Derived.Test.YtfdjlgpdbgmdkacRuTabS
import Derived.Test.YtfdjlgpdbgmdkacSS2
import Derived.Test.YtfdjlgpdbgmdkacSlc
namespace Go.Proofs.Ytfdjlgpdbgmdkac
open Go.RowKit
set_option linter.unusedVariables false

/-- The code of rules that must be strong, and of a number of discs. -/
def tw0 (r : Nat → Int) (n : Int) : Int := if ruB r = true then (if 0 ≤ n ∧ n ≤ 8 then (if strB r = true then 0 else 5) else 2) else 1
theorem tw0_rules {r : Nat → Int} {n : Int} (h : ruB r = false) : tw0 r n = 1 := by unfold tw0; rw [h]; rfl
theorem tw0_discs {r : Nat → Int} {n : Int} (h : ruB r = true) (hn : ¬ (0 ≤ n ∧ n ≤ 8)) : tw0 r n = 2 := by unfold tw0; rw [if_pos h, if_neg hn]
theorem tw0_weak {r : Nat → Int} {n : Int} (h : ruB r = true) (hn : 0 ≤ n ∧ n ≤ 8) (hs : strB r = false) : tw0 r n = 5 := by unfold tw0; rw [if_pos h, if_pos hn, hs]; rfl
theorem tw0_ok {r : Nat → Int} {n : Int} (h : ruB r = true) (hn : 0 ≤ n ∧ n ≤ 8) (hs : strB r = true) : tw0 r n = 0 := by unfold tw0; rw [if_pos h, if_pos hn, hs]; rfl
theorem tw0_zero {r : Nat → Int} {n : Int} (h : tw0 r n = 0) : ruB r = true ∧ (0 ≤ n ∧ n ≤ 8) ∧ strB r = true := by
  unfold tw0 at h
  split at h
  · split at h
    · split at h
      · refine ⟨?_, ?_, ?_⟩ <;> assumption
      · omega
    · omega
  · omega

set_option maxRecDepth 100000 in
set_option maxHeartbeats 4000000 in
theorem codeOfTower_nil (r : Nat → Int) (hw : ∀ k, k < 9 → (Lit.int .i64 (r k)).wf = true) (n : Int) (w : World) :
    Calls Try.prog 29 #[.agg (z9 r), .int .i64 n, .slice none 0 0] w fun e w' => e = .returned (.int .i64 (tw0 r n)) ∧ Below w.heap.size w w' := by
  have HW := Lib.hid hw
  clear hw
  have X0 := Lib.hid (Box.new w 26 (z9 r))
  have HB0 := Lib.hid ((Below.refl w.heap.size w).alloc (Nat.le_refl _) (.cells (z9 r) 26))
  unfold z9
  by_cases hr : ruB r = true
  · have HR := Lib.hid hr
    clear hr
    by_cases hn : 0 ≤ n ∧ n ≤ 8
    · have HN := Lib.hid hn
      have HV : Hid (inB n 0 8 = true) := by unfold Hid inB; simp [hn]
      obtain ⟨hn0, hn8⟩ := hn
      go_enter Try.func29, Try.ntmps29
      obtain ⟨x0, x1, x2, x3, x4, x5, x6, x7, x8⟩ := X0.out.nine
      go_wp2_with fail
      refine (implIsRules_calls r HW.out _).mono ?_
      rintro e w1 ⟨rfl, hb⟩
      have X1 := Lib.hid (X0.out.below hb X0.out.lt)
      have HB1 := Lib.hid (HB0.out.trans (hb.mono (by simp)))
      clear hb X0 HB0 x0 x1 x2 x3 x4 x5 x6 x7 x8
      rw [HR.out]
      go_wp2_with fail
      refine wp_loop_rounds 2 ?_
      rw [rounds_succ]
      obtain ⟨x0, x1, x2, x3, x4, x5, x6, x7, x8⟩ := X1.out.nine
      go_wp2_with fail
      refine (isStrong_calls r HR.out _).mono ?_
      rintro e w4 ⟨rfl, hb⟩
      have HB2 := Lib.hid (HB1.out.trans (hb.mono HB1.out.size))
      clear hb
      obtain ⟨bs, hs⟩ : ∃ b, strB r = b := ⟨_, rfl⟩
      rw [hs]
      have HS := Lib.hid hs
      clear hs
      cases bs
      · go_wp2
        go_ret
        exact ⟨ret_int (tw0_weak HR.out HN.out HS.out).symm, HB2.out⟩
      · go_wp2
        go_ret
        exact ⟨ret_int (tw0_ok HR.out HN.out HS.out).symm, HB2.out⟩
    · have HN := Lib.hid hn
      have HV : Hid (inB n 0 8 = false) := by unfold Hid inB; simp; omega
      by_cases h0 : n < 0
      · clear hn
        go_enter Try.func29, Try.ntmps29
        obtain ⟨x0, x1, x2, x3, x4, x5, x6, x7, x8⟩ := X0.out.nine
        go_wp2_with fail
        refine (implIsRules_calls r HW.out _).mono ?_
        rintro e w1 ⟨rfl, hb⟩
        have X1 := Lib.hid (X0.out.below hb X0.out.lt)
        have HB1 := Lib.hid (HB0.out.trans (hb.mono (by simp)))
        clear hb X0 HB0 x0 x1 x2 x3 x4 x5 x6 x7 x8
        rw [HR.out]
        go_wp2
        go_ret
        exact ⟨ret_int (tw0_discs HR.out HN.out).symm, HB1.out⟩
      · have h8 : 8 < n := by omega
        clear hn
        go_enter Try.func29, Try.ntmps29
        obtain ⟨x0, x1, x2, x3, x4, x5, x6, x7, x8⟩ := X0.out.nine
        go_wp2_with fail
        refine (implIsRules_calls r HW.out _).mono ?_
        rintro e w1 ⟨rfl, hb⟩
        have X1 := Lib.hid (X0.out.below hb X0.out.lt)
        have HB1 := Lib.hid (HB0.out.trans (hb.mono (by simp)))
        clear hb X0 HB0 x0 x1 x2 x3 x4 x5 x6 x7 x8
        rw [HR.out]
        go_wp2
        go_ret
        exact ⟨ret_int (tw0_discs HR.out HN.out).symm, HB1.out⟩
  · have hr' : ruB r = false := by simpa using hr
    have HR := Lib.hid hr'
    clear hr hr'
    go_enter Try.func29, Try.ntmps29
    obtain ⟨x0, x1, x2, x3, x4, x5, x6, x7, x8⟩ := X0.out.nine
    go_wp2_with fail
    refine (implIsRules_calls r HW.out _).mono ?_
    rintro e w1 ⟨rfl, hb⟩
    have X1 := Lib.hid (X0.out.below hb X0.out.lt)
    have HB1 := Lib.hid (HB0.out.trans (hb.mono (by simp)))
    clear hb X0 HB0 x0 x1 x2 x3 x4 x5 x6 x7 x8
    rw [HR.out]
    go_wp2
    go_ret
    exact ⟨ret_int (tw0_rules HR.out).symm, HB1.out⟩

set_option maxRecDepth 100000 in
set_option maxHeartbeats 4000000 in
theorem l07Given_nil (r : Nat → Int) (n : Int) (w : World) :
    Calls Try.prog 32 #[.agg (z9 r), .int .i64 n, .slice none 0 0] w fun e w' => e = .returned (.int .i64 (tw0 r n)) ∧ Below w.heap.size w w' := by
  have X0 := Lib.hid (Box.new w 26 (z9 r))
  have HB0 := Lib.hid ((Below.refl w.heap.size w).alloc (Nat.le_refl _) (.cells (z9 r) 26))
  unfold z9
  by_cases hr : ruB r = true
  · have HR := Lib.hid hr
    clear hr
    by_cases hn : 0 ≤ n ∧ n ≤ 8
    · have HN := Lib.hid hn
      have HV : Hid (inB n 0 8 = true) := by unfold Hid inB; simp [hn]
      clear hn
      go_enter Try.func32, Try.ntmps32
      obtain ⟨x0, x1, x2, x3, x4, x5, x6, x7, x8⟩ := X0.out.nine
      go_wp2_with fail
      refine (l07Is_calls r _).mono ?_
      rintro e w1 ⟨rfl, hb⟩
      have X1 := Lib.hid (X0.out.below hb X0.out.lt)
      have HB1 := Lib.hid (HB0.out.trans (hb.mono (by simp)))
      clear hb X0 HB0 x0 x1 x2 x3 x4 x5 x6 x7 x8
      rw [HR.out]
      go_wp2_with fail
      refine (l01InT_calls n 0 8 _ HV.out _).mono ?_
      rintro e w2 ⟨rfl, rfl⟩
      go_wp2_with fail
      refine wp_loop_rounds 2 ?_
      rw [rounds_succ]
      obtain ⟨x0, x1, x2, x3, x4, x5, x6, x7, x8⟩ := X1.out.nine
      go_wp2_with fail
      refine (l07Strong_calls r _).mono ?_
      rintro e w4 ⟨rfl, hb⟩
      have HB2 := Lib.hid (HB1.out.trans (hb.mono HB1.out.size))
      clear hb
      obtain ⟨bs, hs⟩ : ∃ b, strB r = b := ⟨_, rfl⟩
      rw [hs]
      have HS := Lib.hid hs
      clear hs
      cases bs
      · go_wp2
        go_ret
        exact ⟨ret_int (tw0_weak HR.out HN.out HS.out).symm, HB2.out⟩
      · go_wp2
        go_ret
        exact ⟨ret_int (tw0_ok HR.out HN.out HS.out).symm, HB2.out⟩
    · have HN := Lib.hid hn
      have HV : Hid (inB n 0 8 = false) := by unfold Hid inB; simp; omega
      clear hn
      go_enter Try.func32, Try.ntmps32
      obtain ⟨x0, x1, x2, x3, x4, x5, x6, x7, x8⟩ := X0.out.nine
      go_wp2_with fail
      refine (l07Is_calls r _).mono ?_
      rintro e w1 ⟨rfl, hb⟩
      have X1 := Lib.hid (X0.out.below hb X0.out.lt)
      have HB1 := Lib.hid (HB0.out.trans (hb.mono (by simp)))
      clear hb X0 HB0 x0 x1 x2 x3 x4 x5 x6 x7 x8
      rw [HR.out]
      go_wp2_with fail
      refine (l01InT_calls n 0 8 _ HV.out _).mono ?_
      rintro e w2 ⟨rfl, rfl⟩
      go_wp2
      go_ret
      exact ⟨ret_int (tw0_discs HR.out HN.out).symm, HB1.out⟩
  · have hr' : ruB r = false := by simpa using hr
    have HR := Lib.hid hr'
    clear hr hr'
    go_enter Try.func32, Try.ntmps32
    obtain ⟨x0, x1, x2, x3, x4, x5, x6, x7, x8⟩ := X0.out.nine
    go_wp2_with fail
    refine (l07Is_calls r _).mono ?_
    rintro e w1 ⟨rfl, hb⟩
    have X1 := Lib.hid (X0.out.below hb X0.out.lt)
    have HB1 := Lib.hid (HB0.out.trans (hb.mono (by simp)))
    clear hb X0 HB0 x0 x1 x2 x3 x4 x5 x6 x7 x8
    rw [HR.out]
    go_wp2
    go_ret
    exact ⟨ret_int (tw0_rules HR.out).symm, HB1.out⟩

/-- The first rows of a table. -/
def rowsL (t : Nat → Int) (m : Nat) : List (List Int) := (List.range m).map (fun i => [t (i * 3), t (i * 3 + 1), t (i * 3 + 2)])
theorem rowsL_succ (t : Nat → Int) (m : Nat) : rowsL t (m + 1) = rowsL t m ++ [[t (m * 3), t (m * 3 + 1), t (m * 3 + 2)]] := by unfold rowsL; rw [List.range_succ]; simp
/-- What TableByRules answers. -/
def taL (r : Nat → Int) (n : Int) : List (List Int) := if tw0 r n = 0 then rowsL (tbl (alR r) n.toNat) 3 else []
theorem taL_small (r : Nat → Int) (n : Int) : ((taL r n).map List.length).sum + (taL r n).length ≤ 1048576 := by
  unfold taL
  split
  · unfold rowsL; simp [List.range_succ]
  · simp
/-- A list of lists that can be read, and a code, are the answer. -/
def RetSSr (w : World) (LL : List (List Int)) (E : Int) (e : Ending) (w' : World) : Prop :=
  ∃ A n c rs, e = .returned (.tuple #[.slice A n c, .int .i64 E]) ∧ IntsSS w' A rs ∧ rs.length = n ∧ LLof rs = LL ∧ totN rs = ((LLof rs).map List.length).sum ∧ Below w.heap.size w w'
theorem retSSr_zero {w w' : World} {e : Ending} {E : Int} (he : e = .returned (.tuple #[.slice none 0 0, .int .i64 E])) (hb : Below w.heap.size w w') : RetSSr w [] E e w' :=
  ⟨none, 0, 0, [], he, fun k r hr => by simp at hr, rfl, rfl, rfl, hb⟩
theorem TabB.read {w : World} {v : Value} {t : Nat → Int} (h : TabB w v t) : ∃ A c rs, v = .slice A 3 c ∧ IntsSS w A rs ∧ rs.length = 3 ∧ LLof rs = rowsL t 3 ∧ totN rs = ((LLof rs).map List.length).sum := by
  obtain ⟨g, c8, cur, rfl, hb, hr⟩ := h
  obtain ⟨b0, e0, x0⟩ := hr 0 (by omega)
  obtain ⟨b1, e1, x1⟩ := hr 1 (by omega)
  obtain ⟨b2, e2, x2⟩ := hr 2 (by omega)
  have key : ∀ (b i : Nat) (k : Nat), Box w b 2 (t3 (fun j => t (i * 3 + j))) → cur[k]? = some (.slice (some ⟨b, 0, none⟩) 3 3) → w.cell? ((⟨g, 0, none⟩ : Addr).add k) = some (Rw.v ⟨some ⟨b, 0, none⟩, 3, 3, 3, [t (i * 3), t (i * 3 + 1), t (i * 3 + 2)]⟩) ∧ Ints w (some ⟨b, 0, none⟩) [t (i * 3), t (i * 3 + 1), t (i * 3 + 2)] := by
    intro b i k hx he
    refine ⟨by rw [add_zero_at, hb.cell, he]; rfl, fun j hj => ⟨_, rfl, hx.lt, ?_⟩⟩
    rw [add_zero_at]
    have hj3 : j < 3 := hj
    rw [hx.at3 hj3]
    match j, hj3 with
    | 0, _ => rfl
    | 1, _ => rfl
    | 2, _ => rfl
  refine ⟨_, c8, [⟨some ⟨b0, 0, none⟩, 3, 3, 3, [t (0 * 3), t (0 * 3 + 1), t (0 * 3 + 2)]⟩, ⟨some ⟨b1, 0, none⟩, 3, 3, 3, [t (1 * 3), t (1 * 3 + 1), t (1 * 3 + 2)]⟩, ⟨some ⟨b2, 0, none⟩, 3, 3, 3, [t (2 * 3), t (2 * 3 + 1), t (2 * 3 + 2)]⟩], rfl, fun k q hq => ?_, rfl, rfl, rfl⟩
  match k, hq with
  | 0, hq => cases hq; exact ⟨_, rfl, hb.lt, (key b0 0 0 x0 e0).1, rfl, (key b0 0 0 x0 e0).2⟩
  | 1, hq => cases hq; exact ⟨_, rfl, hb.lt, (key b1 1 1 x1 e1).1, rfl, (key b1 1 1 x1 e1).2⟩
  | 2, hq => cases hq; exact ⟨_, rfl, hb.lt, (key b2 2 2 x2 e2).1, rfl, (key b2 2 2 x2 e2).2⟩
  | k + 3, hq => simp at hq

set_option maxRecDepth 100000 in
set_option maxHeartbeats 4000000 in
theorem specTableByRules_ret (r : Nat → Int) (n : Int) (w : World) :
    Calls Try.prog 7 #[.agg (z9 r), .int .i64 n] w (RetSSr w (taL r n) (tw0 r n)) := by
  have X := Box.new w 26 (z9 r)
  obtain ⟨x0, x1, x2, x3, x4, x5, x6, x7, x8⟩ := X.nine
  have X0 := Lib.hid X
  have HB0 := Lib.hid ((Below.refl w.heap.size w).alloc (Nat.le_refl _) (.cells (z9 r) 26))
  clear X
  obtain ⟨E, hE⟩ : ∃ E, tw0 r n = E := ⟨_, rfl⟩
  have HE := Lib.hid hE
  by_cases h0 : E = 0
  · subst h0
    obtain ⟨hr, ⟨hn0, hn8⟩, hs⟩ := tw0_zero hE
    obtain ⟨N, rfl⟩ : ∃ N : Nat, n = N := ⟨n.toNat, by omega⟩
    have hN8 : N ≤ 8 := by omega
    have HR0 := Lib.hid hr
    have HS0 := Lib.hid hs
    have HV : Hid (taL r N = rowsL (tbl (alR r) N) 3) := by unfold Hid taL; rw [if_pos hE, Int.toNat_natCast]
    clear hr hs hn0 hn8 hE
    go_enter Try.func7, Try.ntmps7
    go_wp2_with fail
    refine (l07Given_nil r (N : Int) _).mono ?_
    rintro e w1 ⟨rfl, hb⟩
    have X1 := Lib.hid (X0.out.below hb X0.out.lt)
    have HB1 := Lib.hid (HB0.out.trans (hb.mono HB0.out.size))
    clear hb HB0 X0 x0 x1 x2 x3 x4 x5 x6 x7 x8
    rw [HE.out]
    obtain ⟨x0, x1, x2, x3, x4, x5, x6, x7, x8⟩ := X1.out.nine
    go_wp2_with fail
    refine (l07Tables_calls r N hN8 (strong_way HR0.out HS0.out) (tbl_bound HR0.out HS0.out) _).mono ?_
    rintro e w2 ⟨A5, c5, vals, rfl, hO, hTs, hb⟩
    have HB2 := Lib.hid (HB1.out.trans (hb.mono HB1.out.size))
    obtain ⟨v, hv, htb⟩ := hTs N (by omega)
    obtain ⟨A, c, rs, rfl, hI, hl, hLL, ht⟩ := htb.read
    obtain ⟨g5, rfl, _, _, hcell⟩ := hO.cell N (by omega)
    rw [hv] at hcell
    have HI := Lib.hid hI
    have HL := Lib.hid hl
    have HLL := Lib.hid hLL
    have HT := Lib.hid ht
    clear hb X1 HB1 x0 x1 x2 x3 x4 x5 x6 x7 x8 hI hl hLL ht hv htb hO hTs
    go_wp2
    go_ret2
    rw [HV.out, HE.out]
    exact ⟨A, 3, c, rs, rfl, HI.out, HL.out, HLL.out, HT.out, HB2.out⟩
  · have HV : Hid (taL r n = []) := by unfold Hid taL; rw [if_neg (by rw [hE]; exact h0)]
    clear hE
    go_enter Try.func7, Try.ntmps7
    go_wp2_with fail
    refine (l07Given_nil r n _).mono ?_
    rintro e w1 ⟨rfl, hb⟩
    have X1 := Lib.hid (X0.out.below hb X0.out.lt)
    have HB1 := Lib.hid (HB0.out.trans (hb.mono HB0.out.size))
    clear hb HB0 X0 x0 x1 x2 x3 x4 x5 x6 x7 x8
    rw [HE.out]
    go_wp2
    go_ret2
    rw [HV.out, HE.out]
    exact retSSr_zero rfl HB1.out

theorem ix9 (t : Nat → Int) (i : Nat) (hi : i < 3) (w : World) : (Instr.index 25 (.agg (z9 t)) (.int .i64 (i : Int))).run Try.prog w = .ok (.agg #[.int .i64 (t (i * 3)), .int .i64 (t (i * 3 + 1)), .int .i64 (t (i * 3 + 2))]) w := by
  match i, hi with
  | 0, _ => rfl
  | 1, _ => rfl
  | 2, _ => rfl

set_option maxRecDepth 100000 in
set_option maxHeartbeats 4000000 in
theorem implTableByRules_ret (r : Nat → Int) (hw : ∀ k, k < 9 → (Lit.int .i64 (r k)).wf = true) (n : Int) (w : World) :
    Calls Try.prog 6 #[.agg (z9 r), .int .i64 n] w (RetSS w (taL r n) (tw0 r n)) := by
  have HW := Lib.hid hw
  clear hw
  obtain ⟨j0, hj0, hy0, hy1, hy2⟩ := info_parts Try.infoSS
  have X := Box.new w 26 (z9 r)
  obtain ⟨x0, x1, x2, x3, x4, x5, x6, x7, x8⟩ := X.nine
  have X0 := Lib.hid X
  have HB0 := Lib.hid ((Below.refl w.heap.size w).alloc (Nat.le_refl _) (.cells (z9 r) 26))
  clear X
  obtain ⟨E, hE⟩ : ∃ E, tw0 r n = E := ⟨_, rfl⟩
  have HE := Lib.hid hE
  by_cases h0 : E = 0
  · subst h0
    obtain ⟨hr, ⟨hn0, hn8⟩, hs⟩ := tw0_zero hE
    obtain ⟨N, rfl⟩ : ∃ N : Nat, n = N := ⟨n.toNat, by omega⟩
    have hN8 : N ≤ 8 := by omega
    have HR0 := Lib.hid hr
    have HS0 := Lib.hid hs
    have HV : Hid (taL r N = rowsL (tbl (alR r) N) 3) := by unfold Hid taL; rw [if_pos hE, Int.toNat_natCast]
    clear hr hs hn0 hn8 hE
    go_enter Try.func6, Try.ntmps6
    go_wp2_with fail
    refine (codeOfTower_nil r HW.out (N : Int) _).mono ?_
    rintro e w1 ⟨rfl, hb⟩
    have X1 := Lib.hid (X0.out.below hb X0.out.lt)
    have HB1 := Lib.hid (HB0.out.trans (hb.mono HB0.out.size))
    clear hb HB0 X0 x0 x1 x2 x3 x4 x5 x6 x7 x8
    rw [HE.out]
    obtain ⟨x0, x1, x2, x3, x4, x5, x6, x7, x8⟩ := X1.out.nine
    go_wp2_with fail
    refine (tablesTo_calls r N hN8 (fun m hm => tbl_bound HR0.out HS0.out m (by omega)) _).mono ?_
    rintro e w2 ⟨g, rfl, hg, hrow, hb⟩
    have HB2 := Lib.hid (HB1.out.trans (hb.mono HB1.out.size))
    have HR := Lib.hid hrow
    have hs2 := HB2.out.size
    clear hb hrow X1 HB1 x0 x1 x2 x3 x4 x5 x6 x7 x8
    have c0 := (HR.out.cell (i := N * 9) (by omega)).trans (congrArg some (upT_at (alR r) (j := 0) (by omega) (by omega)))
    have c1 := (HR.out.cell (i := N * 9 + 1) (by omega)).trans (congrArg some (upT_at (alR r) (j := 1) (by omega) (by omega)))
    have c2 := (HR.out.cell (i := N * 9 + 2) (by omega)).trans (congrArg some (upT_at (alR r) (j := 2) (by omega) (by omega)))
    have c3 := (HR.out.cell (i := N * 9 + 3) (by omega)).trans (congrArg some (upT_at (alR r) (j := 3) (by omega) (by omega)))
    have c4 := (HR.out.cell (i := N * 9 + 4) (by omega)).trans (congrArg some (upT_at (alR r) (j := 4) (by omega) (by omega)))
    have c5 := (HR.out.cell (i := N * 9 + 5) (by omega)).trans (congrArg some (upT_at (alR r) (j := 5) (by omega) (by omega)))
    have c6 := (HR.out.cell (i := N * 9 + 6) (by omega)).trans (congrArg some (upT_at (alR r) (j := 6) (by omega) (by omega)))
    have c7 := (HR.out.cell (i := N * 9 + 7) (by omega)).trans (congrArg some (upT_at (alR r) (j := 7) (by omega) (by omega)))
    have c8 := (HR.out.cell (i := N * 9 + 8) (by omega)).trans (congrArg some (upT_at (alR r) (j := 8) (by omega) (by omega)))
    have hcp : N < N + 1 := by omega
    have hN0 : (N : Int) < (N : Int) + 1 := by omega
    go_wp2
    obtain ⟨t, et⟩ : ∃ t, tbl (alR r) N = t := ⟨_, rfl⟩
    rw [et] at HV ⊢
    clear c0 c1 c2 c3 c4 c5 c6 c7 c8 et HR hN0 hcp
    go_loopw [7, 24] (fun o i wr => ∃ k : Nat, k ≤ 3 ∧ i = .int .i64 k ∧ ∃ A c rs, o = .slice A k c ∧ OwnSS w2.heap.size wr A k c rs ∧ LLof rs = rowsL t k ∧ Below w2.heap.size w2 wr) (fun _ i _ => 3 - (intOf i).toNat)
    case atStart => exact ⟨0, by omega, rfl, _, _, [], rfl, OwnSS.nilS _ _, rfl, Below.refl _ _⟩
    case round =>
      obtain ⟨k, hk, rfl, A, c, rs, rfl, hO, hLL, hb⟩ := hrel
      have HO := Lib.hid hO
      have HLL := Lib.hid hLL
      have HB := Lib.hid hb
      have hsz := hb.size
      clear hO hLL hb
      by_cases hlt : k < 3
      · have hold : Hid (∀ s ∈ rs, ∀ g, s.A = some ⟨g, 0, none⟩ → g < wr.heap.size) := by
          intro s hs g hA
          have := HO.out.2.1 s hs
          rw [hA] at this
          exact (ownG_lt this).2
        have hix := ix9 t k hlt
        have hk3 : (k : Int) < 3 := by omega
        have hST := Lib.hid (rowsL_succ t k)
        obtain ⟨a0, e0⟩ : ∃ a0, t (k * 3) = a0 := ⟨_, rfl⟩
        obtain ⟨a1, e1⟩ : ∃ a1, t (k * 3 + 1) = a1 := ⟨_, rfl⟩
        obtain ⟨a2, e2⟩ : ∃ a2, t (k * 3 + 2) = a2 := ⟨_, rfl⟩
        rw [e0, e1, e2] at hix hST
        unfold z9 at hix
        have XB := Box.new wr 24 #[.int .i64 a0, .int .i64 a1, .int .i64 a2]
        have HAL := Lib.hid ((Below.refl wr.heap.size wr).alloc (Nat.le_refl _) (.cells #[.int .i64 a0, .int .i64 a1, .int .i64 a2] 24))
        have HI : Hid (Ints (wr.alloc (.cells #[.int .i64 a0, .int .i64 a1, .int .i64 a2] 24)) (some ⟨wr.heap.size, 0, none⟩) [a0, a1, a2]) := by
          intro j hj
          refine ⟨_, rfl, XB.lt, ?_⟩
          have hj3 : j < 3 := hj
          rw [add_zero_at, XB.cell]
          match j, hj3 with
          | 0, _ => rfl
          | 1, _ => rfl
          | 2, _ => rfl
        clear e0 e1 e2 XB
        go_wp2_with fail
        refine (clone_calls ⟨wr.heap.size, 0, none⟩ 3 3 [a0, a1, a2] _ rfl (by omega) HI.out).mono ?_
        rintro e w3 ⟨A3, c3, rfl, hO3, hb3⟩
        have HO3 := Lib.hid hO3
        have HB3 := Lib.hid (HAL.out.trans (hb3.mono HAL.out.size))
        have HOX := Lib.hid (HO.out.below HB3.out)
        have hs3 := HB3.out.size
        have hsa := HAL.out.size
        have hcap := HO.out.1.cap
        clear hO3 hb3 hix
        go_wp2_with (at_builtin; refine wpList_append_own _ rfl _ _ 29 rfl w2.heap.size 37 j0 (.slice none 0 0) 1 24 Try.underlying29 hj0 hy0 hy1 hy2 rfl (by decide) _ _ _ rfl (HOX.out.1.alloc _) ⟨w3.heap.size, 0, none⟩ 1 1 [.slice A3 3 c3] rfl rfl (cell_one_new _ _ _) (by simp [Value.oneCell']) (by unfold maxLen; omega) (by omega) (by simp; omega) ?_; intro v' w4 hown' hgrow _; obtain ⟨A4, c4, rfl⟩ := ownG_shape hown'; have HO4 := Lib.hid hown'; have HG4 := Lib.hid hgrow; clear hown' hgrow)
        go_roundw
        case rel =>
          refine ⟨k + 1, by omega, by go_num, A4, c4, rs ++ [⟨A3, 3, c3, c3, [a0, a1, a2]⟩], by simp, ?_, ?_, (HB.out.trans (HB3.out.mono hsz)).trans (OwnG.grown_below HOX.out.1 HG4.out (Nat.le_refl _) (Nat.le_trans hsz hs3))⟩
          · refine OwnSS.snoc (b := wr.heap.size) (r := ⟨A3, 3, c3, c3, [a0, a1, a2]⟩) HOX.out (HO3.out.mono (Nat.le_trans hsz hsa)) (fun g (hA : A3 = some ⟨g, 0, none⟩) => ?_) hold.out HO4.out HG4.out
            have h1 := HO3.out
            rw [hA] at h1
            exact Nat.le_trans hsa (ownG_lt h1).1
          · unfold LLof
            rw [List.map_append, hST.out]
            exact congrArg (· ++ [[a0, a1, a2]]) HLL.out
        case measure => simp [intOf]; omega
      · obtain rfl : k = 3 := by omega
        go_wp2
        go_ret2
        rw [HV.out, HE.out]
        exact ⟨A, 3, c, rs, rfl, HO.out.mono hs2, HLL.out, HB2.out.trans (HB.out.mono hs2)⟩
  · have HV : Hid (taL r n = []) := by unfold Hid taL; rw [if_neg (by rw [hE]; exact h0)]
    clear hE
    go_enter Try.func6, Try.ntmps6
    go_wp2_with fail
    refine (codeOfTower_nil r HW.out n _).mono ?_
    rintro e w1 ⟨rfl, hb⟩
    have X1 := Lib.hid (X0.out.below hb X0.out.lt)
    have HB1 := Lib.hid (HB0.out.trans (hb.mono HB0.out.size))
    clear hb HB0 X0 x0 x1 x2 x3 x4 x5 x6 x7 x8
    rw [HE.out]
    go_wp2
    go_ret2
    rw [HV.out, HE.out]
    exact retSS_zero rfl HB1.out

end Go.Proofs.Ytfdjlgpdbgmdkac
