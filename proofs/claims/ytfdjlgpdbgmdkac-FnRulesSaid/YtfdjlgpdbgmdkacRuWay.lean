/- Contracts: the numbers of the two ways from a peg to another one, by the table of one disc less. -/
import Derived.Test.YtfdjlgpdbgmdkacRuOf
namespace Go.Proofs.Ytfdjlgpdbgmdkac
open Go.RowKit
set_option linter.unusedVariables false

/-- The place of a pair of pegs in a table. -/
def ixP (i j : Int) : Nat := i.toNat * 3 + j.toNat
def wOne (a : Int → Int → Bool) (c : Nat → Int) (i j : Int) : Int := if a i j = true then c (ixP i (3 - i - j)) + 1 + c (ixP (3 - i - j) j) else 9223372036854775807
def wTwo (a : Int → Int → Bool) (c : Nat → Int) (i j : Int) : Int := if (a i (3 - i - j) && a (3 - i - j) j) = true then 2 * c (ixP i j) + c (ixP j i) + 2 else 9223372036854775807

theorem z9_at (c : Nat → Int) {k : Nat} (hk : k < 9) : (z9 c)[k]? = some (.int .i64 (c k)) := by
  match k, hk with
  | 0, _ => rfl
  | 1, _ => rfl
  | 2, _ => rfl
  | 3, _ => rfl
  | 4, _ => rfl
  | 5, _ => rfl
  | 6, _ => rfl
  | 7, _ => rfl
  | 8, _ => rfl
theorem Box.pp {w : World} {b t : Nat} {c : Nat → Int} (h : Box w b t (z9 c)) {i j : Int} (hi : 0 ≤ i ∧ i < 3) (hj : 0 ≤ j ∧ j < 3) : w.cell? ⟨b, i.toNat * 3 + j.toNat, none⟩ = some (.int .i64 (c (ixP i j))) := by
  rw [h.cell, z9_at c (by omega)]; rfl
theorem thirdK_calls (a b k : Int) (w : World) (hk : 3 - a - b = k) (ha : 0 ≤ a ∧ a < 3) (hb : 0 ≤ b ∧ b < 3) :
    Calls Try.prog 61 #[.int .i64 a, .int .i64 b] w fun e w' => e = .returned (.int .i64 k) ∧ w = w' := by
  have HK := Lib.hid hk
  clear hk
  go_enter Try.func61, Try.ntmps61
  go_wp2
  go_ret
  exact ⟨ret_int HK.out, rfl⟩
theorem allowsB_calls (r : Nat → Int) (i j : Int) (b : Bool) (h : alR r i j = b) (hi : 0 ≤ i ∧ i < 3) (hj : 0 ≤ j ∧ j < 3) (w : World) :
    Calls Try.prog 77 #[.agg (z9 r), .int .i64 i, .int .i64 j] w fun e w' => e = .returned (.bool b) ∧ Below w.heap.size w w' :=
  h ▸ allowsR_calls' r i j hi hj w

set_option maxRecDepth 100000 in
set_option maxHeartbeats 4000000 in
theorem wayNumbers_calls (r c : Nat → Int) (i j : Int) (hi : 0 ≤ i ∧ i < 3) (hj : 0 ≤ j ∧ j < 3) (hc : ∀ k, 0 ≤ c k ∧ c k ≤ 1000000) (w : World) (hne : i ≠ j) :
    Calls Try.prog 58 #[.agg (z9 c), .iface 26 (.agg (z9 r)), .int .i64 i, .int .i64 j] w fun e w' => e = .returned (.tuple #[.int .i64 (wOne (alR r) c i j), .int .i64 (wTwo (alR r) c i j)]) ∧ Below w.heap.size w w' := by
  obtain ⟨k, hk⟩ : ∃ k, 3 - i - j = k := ⟨_, rfl⟩
  have hk3 : 0 ≤ k ∧ k < 3 := by omega
  clear hne
  have HK := Lib.hid hk
  have HC := Lib.hid hc
  have X0 := Lib.hid (Box.new w 54 (z9 c))
  have HB0 := Lib.hid ((Below.refl w.heap.size w).alloc (Nat.le_refl _) (.cells (z9 c) 54))
  clear hk hc
  unfold wOne wTwo
  rw [HK.out]
  obtain ⟨b1, h1⟩ : ∃ b, alR r i j = b := ⟨_, rfl⟩
  obtain ⟨b2, h2⟩ : ∃ b, alR r i k = b := ⟨_, rfl⟩
  obtain ⟨b3, h3⟩ : ∃ b, alR r k j = b := ⟨_, rfl⟩
  rw [h1, h2, h3]
  have H1 := Lib.hid h1
  have H2 := Lib.hid h2
  have H3 := Lib.hid h3
  have hm := meth_R r
  obtain ⟨q1, hq1⟩ : ∃ q, c (ixP i k) = q := ⟨_, rfl⟩
  obtain ⟨q2, hq2⟩ : ∃ q, c (ixP k j) = q := ⟨_, rfl⟩
  obtain ⟨q3, hq3⟩ : ∃ q, c (ixP i j) = q := ⟨_, rfl⟩
  obtain ⟨q4, hq4⟩ : ∃ q, c (ixP j i) = q := ⟨_, rfl⟩
  have b1' := HC.out (ixP i k)
  have b2' := HC.out (ixP k j)
  have b3' := HC.out (ixP i j)
  have b4' := HC.out (ixP j i)
  have C1 := Lib.hid (fun (W : World) (h : Box W w.heap.size 54 (z9 c)) => h.pp hi hk3)
  have C2 := Lib.hid (fun (W : World) (h : Box W w.heap.size 54 (z9 c)) => h.pp hk3 hj)
  have C3 := Lib.hid (fun (W : World) (h : Box W w.heap.size 54 (z9 c)) => h.pp hi hj)
  have C4 := Lib.hid (fun (W : World) (h : Box W w.heap.size 54 (z9 c)) => h.pp hj hi)
  rw [hq1] at b1' C1
  rw [hq2] at b2' C2
  rw [hq3] at b3' C3
  rw [hq4] at b4' C4
  rw [hq1, hq2, hq3, hq4]
  clear h1 h2 h3 hq1 hq2 hq3 hq4 HC
  cases b1 <;> cases b2
  · go_enter Try.func58, Try.ntmps58
    go_wp2_with fail
    refine (thirdK_calls i j k _ HK.out hi hj).mono ?_
    rintro e w1 ⟨rfl, rfl⟩
    go_wp2_with fail
    refine (allowsB_calls r i j _ H1.out hi hj _).mono ?_
    rintro e w2 ⟨rfl, hb⟩
    have X1 := Lib.hid (X0.out.below hb X0.out.lt)
    have HB1 := Lib.hid (HB0.out.trans (hb.mono HB0.out.size))
    clear hb X0 HB0
    go_wp2_with fail
    refine (allowsB_calls r i k _ H2.out hi hk3 _).mono ?_
    rintro e w3 ⟨rfl, hb⟩
    have X3 := Lib.hid (X1.out.below hb X1.out.lt)
    have HB3 := Lib.hid (HB1.out.trans (hb.mono HB1.out.size))
    clear hb X1 HB1
    go_wp2
    go_returns
    exact ⟨rfl, HB3.out⟩
  · cases b3
    · go_enter Try.func58, Try.ntmps58
      go_wp2_with fail
      refine (thirdK_calls i j k _ HK.out hi hj).mono ?_
      rintro e w1 ⟨rfl, rfl⟩
      go_wp2_with fail
      refine (allowsB_calls r i j _ H1.out hi hj _).mono ?_
      rintro e w2 ⟨rfl, hb⟩
      have X1 := Lib.hid (X0.out.below hb X0.out.lt)
      have HB1 := Lib.hid (HB0.out.trans (hb.mono HB0.out.size))
      clear hb X0 HB0
      go_wp2_with fail
      refine (allowsB_calls r i k _ H2.out hi hk3 _).mono ?_
      rintro e w3 ⟨rfl, hb⟩
      have X3 := Lib.hid (X1.out.below hb X1.out.lt)
      have HB3 := Lib.hid (HB1.out.trans (hb.mono HB1.out.size))
      clear hb X1 HB1
      go_wp2_with fail
      refine (allowsB_calls r k j _ H3.out hk3 hj _).mono ?_
      rintro e w4 ⟨rfl, hb⟩
      have X4 := Lib.hid (X3.out.below hb X3.out.lt)
      have HB4 := Lib.hid (HB3.out.trans (hb.mono HB3.out.size))
      clear hb X3 HB3
      go_wp2
      go_returns
      exact ⟨rfl, HB4.out⟩
    · go_enter Try.func58, Try.ntmps58
      go_wp2_with fail
      refine (thirdK_calls i j k _ HK.out hi hj).mono ?_
      rintro e w1 ⟨rfl, rfl⟩
      go_wp2_with fail
      refine (allowsB_calls r i j _ H1.out hi hj _).mono ?_
      rintro e w2 ⟨rfl, hb⟩
      have X1 := Lib.hid (X0.out.below hb X0.out.lt)
      have HB1 := Lib.hid (HB0.out.trans (hb.mono HB0.out.size))
      clear hb X0 HB0
      go_wp2_with fail
      refine (allowsB_calls r i k _ H2.out hi hk3 _).mono ?_
      rintro e w3 ⟨rfl, hb⟩
      have X3 := Lib.hid (X1.out.below hb X1.out.lt)
      have HB3 := Lib.hid (HB1.out.trans (hb.mono HB1.out.size))
      clear hb X1 HB1
      go_wp2_with fail
      refine (allowsB_calls r k j _ H3.out hk3 hj _).mono ?_
      rintro e w4 ⟨rfl, hb⟩
      have X4 := Lib.hid (X3.out.below hb X3.out.lt)
      have HB4 := Lib.hid (HB3.out.trans (hb.mono HB3.out.size))
      clear hb X3 HB3
      have c3 := C3.out _ X4.out
      have c4 := C4.out _ X4.out
      go_wp2_with fail
      go_quiet (fail)
      clear c3 c4
      go_wp2
      go_returns
      exact ⟨rfl, (belowDraws HB4.out _)⟩
  · go_enter Try.func58, Try.ntmps58
    go_wp2_with fail
    refine (thirdK_calls i j k _ HK.out hi hj).mono ?_
    rintro e w1 ⟨rfl, rfl⟩
    go_wp2_with fail
    refine (allowsB_calls r i j _ H1.out hi hj _).mono ?_
    rintro e w2 ⟨rfl, hb⟩
    have X1 := Lib.hid (X0.out.below hb X0.out.lt)
    have HB1 := Lib.hid (HB0.out.trans (hb.mono HB0.out.size))
    clear hb X0 HB0
    have c1 := C1.out _ X1.out
    have c2 := C2.out _ X1.out
    go_wp2_with fail
    go_quiet (fail)
    clear c1 c2
    go_wp2_with fail
    refine (allowsB_calls r i k _ H2.out hi hk3 _).mono ?_
    rintro e w3 ⟨rfl, hb⟩
    have X3 := Lib.hid ((X1.out.draws _).below hb (X1.out.draws _).lt)
    have HB3 := Lib.hid ((belowDraws HB1.out _).trans (hb.mono (belowDraws HB1.out _).size))
    clear hb X1 HB1
    go_wp2
    go_returns
    exact ⟨rfl, HB3.out⟩
  · cases b3
    · go_enter Try.func58, Try.ntmps58
      go_wp2_with fail
      refine (thirdK_calls i j k _ HK.out hi hj).mono ?_
      rintro e w1 ⟨rfl, rfl⟩
      go_wp2_with fail
      refine (allowsB_calls r i j _ H1.out hi hj _).mono ?_
      rintro e w2 ⟨rfl, hb⟩
      have X1 := Lib.hid (X0.out.below hb X0.out.lt)
      have HB1 := Lib.hid (HB0.out.trans (hb.mono HB0.out.size))
      clear hb X0 HB0
      have c1 := C1.out _ X1.out
      have c2 := C2.out _ X1.out
      go_wp2_with fail
      go_quiet (fail)
      clear c1 c2
      go_wp2_with fail
      refine (allowsB_calls r i k _ H2.out hi hk3 _).mono ?_
      rintro e w3 ⟨rfl, hb⟩
      have X3 := Lib.hid ((X1.out.draws _).below hb (X1.out.draws _).lt)
      have HB3 := Lib.hid ((belowDraws HB1.out _).trans (hb.mono (belowDraws HB1.out _).size))
      clear hb X1 HB1
      go_wp2_with fail
      refine (allowsB_calls r k j _ H3.out hk3 hj _).mono ?_
      rintro e w4 ⟨rfl, hb⟩
      have X4 := Lib.hid (X3.out.below hb X3.out.lt)
      have HB4 := Lib.hid (HB3.out.trans (hb.mono HB3.out.size))
      clear hb X3 HB3
      go_wp2
      go_returns
      exact ⟨rfl, HB4.out⟩
    · go_enter Try.func58, Try.ntmps58
      go_wp2_with fail
      refine (thirdK_calls i j k _ HK.out hi hj).mono ?_
      rintro e w1 ⟨rfl, rfl⟩
      go_wp2_with fail
      refine (allowsB_calls r i j _ H1.out hi hj _).mono ?_
      rintro e w2 ⟨rfl, hb⟩
      have X1 := Lib.hid (X0.out.below hb X0.out.lt)
      have HB1 := Lib.hid (HB0.out.trans (hb.mono HB0.out.size))
      clear hb X0 HB0
      have c1 := C1.out _ X1.out
      have c2 := C2.out _ X1.out
      go_wp2_with fail
      go_quiet (fail)
      clear c1 c2
      go_wp2_with fail
      refine (allowsB_calls r i k _ H2.out hi hk3 _).mono ?_
      rintro e w3 ⟨rfl, hb⟩
      have X3 := Lib.hid ((X1.out.draws _).below hb (X1.out.draws _).lt)
      have HB3 := Lib.hid ((belowDraws HB1.out _).trans (hb.mono (belowDraws HB1.out _).size))
      clear hb X1 HB1
      go_wp2_with fail
      refine (allowsB_calls r k j _ H3.out hk3 hj _).mono ?_
      rintro e w4 ⟨rfl, hb⟩
      have X4 := Lib.hid (X3.out.below hb X3.out.lt)
      have HB4 := Lib.hid (HB3.out.trans (hb.mono HB3.out.size))
      clear hb X3 HB3
      have c3 := C3.out _ X4.out
      have c4 := C4.out _ X4.out
      go_wp2_with fail
      go_quiet (fail)
      clear c3 c4
      go_wp2
      go_returns
      exact ⟨rfl, (belowDraws HB4.out _)⟩

end Go.Proofs.Ytfdjlgpdbgmdkac
