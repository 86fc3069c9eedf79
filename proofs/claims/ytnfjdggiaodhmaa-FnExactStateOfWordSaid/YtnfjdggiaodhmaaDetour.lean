/- Contracts: DetourNumber, by the specification's model and by the program. -/
import Derived.Test.YtnfjdggiaodhmaaStraight
namespace Go.Proofs.Ytnfjdggiaodhmaa
open Go.RowKit
open Go.RowKit (wrap64)
set_option linter.unusedVariables false

theorem lcode2_zero {k j : Int} {L M : List Int} (h : lcode2 k j L M = 0) : twoWB k L M = true ∧ pegB k j = true := by
  unfold lcode2 wcode2 at h
  split at h
  · split at h
    · exact ⟨by assumption, by assumption⟩
    · omega
  · omega
theorem lcode2_two {k j : Int} {L M : List Int} (h : ¬ lcode2 k j L M = 0) : lcode2 k j L M = 2 := by
  unfold lcode2 wcode2 at *
  split
  · split
    · simp_all
    · rfl
  · rfl

/-- The place at which the words part, as a number. -/
def grN (L M : List Int) : Nat := (grt L M L.length).toNat
def dtBadB (L M : List Int) (z : Int) : Bool := decide (grt L M L.length = -1 ∨ z = L[grN L M]?.getD 0 ∨ z = M[grN L M]?.getD 0)
def dtC (k : Int) (L M : List Int) (z : Int) : Int := if lcode2 k z L M = 0 then (if dtBadB L M z = true then 5 else 0) else 2
def dtV (k : Int) (L M : List Int) (z : Int) : Int := if dtC k L M z = 0 then toE L z (grN L M) + toE M z (grN L M) + pow2 (grN L M) + 1 else 0
theorem dt_two {k z : Int} {L M : List Int} (h : ¬ lcode2 k z L M = 0) : dtV k L M z = 0 ∧ dtC k L M z = 2 := by
  have : dtC k L M z = 2 := by unfold dtC; rw [if_neg h]
  exact ⟨by unfold dtV; rw [if_neg (by omega)], this⟩
theorem dt_five {k z : Int} {L M : List Int} (h : lcode2 k z L M = 0) (hb : dtBadB L M z = true) : dtV k L M z = 0 ∧ dtC k L M z = 5 := by
  have : dtC k L M z = 5 := by unfold dtC; rw [if_pos h, if_pos hb]
  exact ⟨by unfold dtV; rw [if_neg (by omega)], this⟩
theorem dt_good {k z : Int} {L M : List Int} {g : Nat} (h : lcode2 k z L M = 0) (hb : dtBadB L M z = false) (hg : grN L M = g) : dtV k L M z = toE L z g + toE M z g + pow2 g + 1 ∧ dtC k L M z = 0 := by
  have : dtC k L M z = 0 := by unfold dtC; rw [if_pos h, hb]; rfl
  exact ⟨by unfold dtV; rw [if_pos this, hg], this⟩
theorem dt_same {L M : List Int} {z : Int} (h : grt L M L.length = -1) : dtBadB L M z = true := by unfold dtBadB; rw [decide_eq_true_iff]; exact Or.inl h
theorem grN_of {L M : List Int} {g : Nat} {n : Nat} (hL : L.length = n) (h : grt L M n = g) : grN L M = g := by unfold grN; rw [hL, h]; simp
theorem dt_at {L M : List Int} {z : Int} {g : Nat} {n : Nat} (hL : L.length = n) (h : grt L M n = g) (hz : z = L[g]?.getD 0 ∨ z = M[g]?.getD 0) : dtBadB L M z = true := by
  unfold dtBadB; rw [decide_eq_true_iff, grN_of hL h]; exact Or.inr hz
theorem dt_ok {L M : List Int} {z : Int} {g : Nat} {n : Nat} (hL : L.length = n) (h : grt L M n = g) (h1 : ¬ z = L[g]?.getD 0) (h2 : ¬ z = M[g]?.getD 0) : dtBadB L M z = false := by
  unfold dtBadB; rw [decide_eq_false_iff_not, grN_of hL h, hL, h]; rintro (h' | h' | h') <;> first | omega | exact h1 h' | exact h2 h'
theorem wrap_sum3 {x y p : Int} (hx : 0 ≤ x ∧ x ≤ 1000) (hy : 0 ≤ y ∧ y ≤ 1000) (hp : 0 ≤ p ∧ p ≤ 1000) : wrap64 (wrap64 (wrap64 (x + y) + p) + 1) = x + y + p + 1 := by
  have e1 : wrap64 (x + y) = x + y := IntWalk.wrap64_in _ (by omega)
  have e2 : wrap64 (x + y + p) = x + y + p := IntWalk.wrap64_in _ (by omega)
  have e3 : wrap64 (x + y + p + 1) = x + y + p + 1 := IntWalk.wrap64_in _ (by omega)
  exact (congrArg (fun t => wrap64 (wrap64 (t + p) + 1)) e1).trans ((congrArg (fun t => wrap64 (t + 1)) e2).trans e3)
theorem grt_cases (L M : List Int) (n : Nat) : grt L M n = -1 ∨ ∃ g : Nat, grt L M n = g := by
  have := grt_bd L M n
  by_cases h : grt L M n = -1
  · exact Or.inl h
  · exact Or.inr ⟨(grt L M n).toNat, by omega⟩

set_option maxHeartbeats 4000000 in
theorem specDetourNumber_calls (k : Int) (A : Option Addr) (n c : Nat) (L : List Int) (B : Option Addr) (m d : Nat) (M : List Int) (z : Int) (w : World) (hL : L.length = n) (hn : n ≤ 1048576) (hI : Ints w A L) (hM : M.length = m) (hm : m ≤ 1048576) (hJ : Ints w B M) (hc : n ≤ c) (hd : m ≤ d) :
    Calls Try.prog 8 #[.int .i64 k, .slice A n c, .slice B m d, .int .i64 z] w fun e w' => e = .returned (.tuple #[.int .i64 (dtV k L M z), .int .i64 (dtC k L M z)]) ∧ Below w.heap.size w w' := by
  have HL := Lib.hid hL
  have HM := Lib.hid hM
  by_cases hz : lcode2 k z L M = 0
  · obtain ⟨h2, hp⟩ := lcode2_zero hz
    obtain ⟨hs, hs', hlen⟩ := twoWB_of h2
    obtain rfl : n = m := by rw [← hL, ← hM, hlen]
    have hf := state_facts hs hL
    rw [pegB_in] at hp
    clear hs hs' hlen hM hL
    rcases grt_cases L M n with hg | ⟨g, hg⟩
    · obtain ⟨e1, e2⟩ := dt_five hz (dt_same (z := z) (by rw [HL.out]; exact hg))
      have E1 := Lib.hid e1
      have E2 := Lib.hid e2
      clear hz e1 e2
      go_enter Try.func8, Try.ntmps8
      go_wp2_with fail
      refine (l04Two_calls k A n c L B n d M _ HL.out hn hI HM.out hn hJ).mono ?_
      rintro e w' ⟨rfl, rfl⟩
      go_wp2_with fail
      refine (l01In_calls z 0 (k - 1) _).mono ?_
      rintro e w' ⟨rfl, rfl⟩
      go_wp2_with fail
      refine (l04Place_calls A n c L B d M _ HL.out HM.out hn hI hJ).mono ?_
      rintro e w1 ⟨rfl, k0, rfl⟩
      rw [hg]
      go_wp2
      go_ret2
      exact ⟨ret_twoE E1.out E2.out, belowDraws (Below.refl _ _) _⟩
    · obtain ⟨hgn, hne⟩ := grt_at n hg
      obtain ⟨ad, rfl, had, hcl⟩ := hI g (by rw [HL.out]; omega)
      obtain ⟨ad', rfl, had', hcm⟩ := hJ g (by rw [HM.out]; omega)
      have hi0 : (0 : Int) ≤ (g : Int) := by omega
      have hi1 : (g : Int) < (n : Int) := by omega
      by_cases hx : z = L[g]?.getD 0
      · obtain ⟨e1, e2⟩ := dt_five hz (dt_at (z := z) HL.out hg (Or.inl hx))
        have E1 := Lib.hid e1
        have E2 := Lib.hid e2
        have ht : (z == L[g]?.getD 0) = true := by simpa using hx
        clear hz e1 e2 hx hne
        go_enter Try.func8, Try.ntmps8
        go_wp2_with fail
        refine (l04Two_calls k (some ad) n c L (some ad') n d M _ HL.out hn hI HM.out hn hJ).mono ?_
        rintro e w' ⟨rfl, rfl⟩
        go_wp2_with fail
        refine (l01In_calls z 0 (k - 1) _).mono ?_
        rintro e w' ⟨rfl, rfl⟩
        go_wp2_with fail
        refine (l04Place_calls (some ad) n c L (some ad') d M _ HL.out HM.out hn hI hJ).mono ?_
        rintro e w1 ⟨rfl, k0, rfl⟩
        rw [hg]
        go_wp2
        go_ret2
        exact ⟨ret_twoE E1.out E2.out, belowDraws (Below.refl _ _) _⟩
      · by_cases hy : z = M[g]?.getD 0
        · obtain ⟨e1, e2⟩ := dt_five hz (dt_at (z := z) HL.out hg (Or.inr hy))
          have E1 := Lib.hid e1
          have E2 := Lib.hid e2
          have ht : (z == L[g]?.getD 0) = false := by simpa using hx
          have ht' : (z == M[g]?.getD 0) = true := by simpa using hy
          clear hz e1 e2 hx hy hne
          go_enter Try.func8, Try.ntmps8
          go_wp2_with fail
          refine (l04Two_calls k (some ad) n c L (some ad') n d M _ HL.out hn hI HM.out hn hJ).mono ?_
          rintro e w' ⟨rfl, rfl⟩
          go_wp2_with fail
          refine (l01In_calls z 0 (k - 1) _).mono ?_
          rintro e w' ⟨rfl, rfl⟩
          go_wp2_with fail
          refine (l04Place_calls (some ad) n c L (some ad') d M _ HL.out HM.out hn hI hJ).mono ?_
          rintro e w1 ⟨rfl, k0, rfl⟩
          rw [hg]
          go_wp2
          go_ret2
          exact ⟨ret_twoE E1.out E2.out, belowDraws (Below.refl _ _) _⟩
        · obtain ⟨e1, e2⟩ := dt_good hz (dt_ok HL.out hg hx hy) (grN_of HL.out hg)
          have E1 := Lib.hid e1
          have E2 := Lib.hid e2
          have ht : (z == L[g]?.getD 0) = false := by simpa using hx
          have ht' : (z == M[g]?.getD 0) = false := by simpa using hy
          have b1 := toE_bd L z g (by omega)
          have b2 := toE_bd M z g (by omega)
          have b3 := pow2_bd (k := g) (by omega)
          have hg1 : (g : Int) ≤ (c : Int) := by omega
          have hg2 : (g : Int) ≤ (d : Int) := by omega
          have HW := Lib.hid (wrap_sum3 (x := toE L z g) (y := toE M z g) (p := pow2 g) (by omega) (by omega) (by omega))
          have hsh := shl_pow4 (k := g) (by omega)
          have HI := Lib.hid hI
          have HJ := Lib.hid hJ
          clear hz e1 e2 hx hy hne
          go_enter Try.func8, Try.ntmps8
          go_wp2_with fail
          refine (l04Two_calls k (some ad) n c L (some ad') n d M _ HL.out hn HI.out HM.out hn HJ.out).mono ?_
          rintro e w' ⟨rfl, rfl⟩
          go_wp2_with fail
          refine (l01In_calls z 0 (k - 1) _).mono ?_
          rintro e w' ⟨rfl, rfl⟩
          go_wp2_with fail
          refine (l04Place_calls (some ad) n c L (some ad') d M _ HL.out HM.out hn HI.out HJ.out).mono ?_
          rintro e w1 ⟨rfl, k0, rfl⟩
          rw [hg]
          go_wp2_with fail
          go_quiet ((go_at_call 30; first | (with_reducible refine quietC (l04To_calls (some ad) g c L z _ ?_ ?_ ?_); (rw [HL.out]; omega); omega; first | with_reducible exact (HI.out.drawsN k0).drawsN _ | with_reducible exact HI.out.drawsN _) | (with_reducible refine quietCa (l04To_calls (some ad) g c L z _ ?_ ?_ ?_); (rw [HL.out]; omega); omega; first | with_reducible exact (HI.out.drawsN k0).drawsN _ | with_reducible exact HI.out.drawsN _) | (with_reducible refine quietC (l04To_calls (some ad') g d M z _ ?_ ?_ ?_); (rw [HM.out]; omega); omega; first | with_reducible exact (HJ.out.drawsN k0).drawsN _ | with_reducible exact HJ.out.drawsN _) | (with_reducible refine quietCa (l04To_calls (some ad') g d M z _ ?_ ?_ ?_); (rw [HM.out]; omega); omega; first | with_reducible exact (HJ.out.drawsN k0).drawsN _ | with_reducible exact HJ.out.drawsN _)))
          go_wp2
          go_ret2
          exact ⟨ret_twoE (E1.out.trans HW.out.symm) E2.out, belowDraws (belowDraws (Below.refl _ _) _) _⟩
  · obtain ⟨e1, e2⟩ := dt_two hz
    have E1 := Lib.hid e1
    have E2 := Lib.hid e2
    by_cases h2 : twoWB k L M = true
    · have hp : inB z 0 (k - 1) = false := by
        rw [← pegB_in]
        by_cases hp : pegB k z = true
        · exact absurd (by unfold lcode2; rw [if_pos hp, wcode2_yes h2]) hz
        · simpa using hp
      have hf := state_facts (twoWB_of h2).1 hL
      clear hz e1 e2 hL hM
      go_enter Try.func8, Try.ntmps8
      go_wp2_with fail
      refine (l04Two_calls k A n c L B m d M _ HL.out hn hI HM.out hm hJ).mono ?_
      rintro e w' ⟨rfl, rfl⟩
      go_wp2_with fail
      refine (l01In_calls z 0 (k - 1) _).mono ?_
      rintro e w' ⟨rfl, rfl⟩
      go_wp2
      go_ret2
      exact ⟨ret_twoE E1.out E2.out, Below.refl _ _⟩
    · have h2' : twoWB k L M = false := by simpa using h2
      clear hz e1 e2 hL hM h2
      go_enter Try.func8, Try.ntmps8
      go_wp2_with fail
      refine (l04Two_calls k A n c L B m d M _ HL.out hn hI HM.out hm hJ).mono ?_
      rintro e w' ⟨rfl, rfl⟩
      go_wp2
      go_ret2
      exact ⟨ret_twoE E1.out E2.out, Below.refl _ _⟩

set_option maxHeartbeats 4000000 in
theorem implDetourNumber_calls (k : Int) (A : Option Addr) (n c : Nat) (L : List Int) (B : Option Addr) (m d : Nat) (M : List Int) (z : Int) (w : World) (hL : L.length = n) (hn : n ≤ 1048576) (hI : Ints w A L) (hM : M.length = m) (hm : m ≤ 1048576) (hJ : Ints w B M) (hc : n ≤ c) (hd : m ≤ d) :
    Calls Try.prog 10 #[.int .i64 k, .slice A n c, .slice B m d, .int .i64 z] w fun e w' => e = .returned (.tuple #[.int .i64 (dtV k L M z), .int .i64 (dtC k L M z)]) ∧ Below w.heap.size w w' := by
  have HL := Lib.hid hL
  have HM := Lib.hid hM
  have X0 := Lib.hid (Box.new w 22 #[.slice A n c, .slice B m d])
  have HB0 := Lib.hid ((Below.refl w.heap.size w).alloc (Nat.le_refl _) (.cells #[.slice A n c, .slice B m d] 22))
  have HI0 := Lib.hid (hI.below HB0.out)
  have HJ0 := Lib.hid (hJ.below HB0.out)
  clear hI hJ
  by_cases hz : lcode2 k z L M = 0
  · obtain ⟨h2, hp⟩ := lcode2_zero hz
    obtain ⟨hs, hs', hlen⟩ := twoWB_of h2
    obtain rfl : n = m := by rw [← hL, ← hM, hlen]
    have hf := state_facts hs hL
    have hz' : (lcode2 k z L M != 0) = false := by simpa using hz
    rcases grt_cases L M n with hg | ⟨g, hg⟩
    · obtain ⟨e1, e2⟩ := dt_five hz (dt_same (z := z) (by rw [HL.out]; exact hg))
      have E1 := Lib.hid e1
      have E2 := Lib.hid e2
      have HLM := Lib.hid (grt_lists hL hM hg)
      clear hz e1 e2 hlen hM hL hp h2
      go_enter Try.func10, Try.ntmps10
      go_wp2_with fail
      refine (codeOfLetter_two w.heap.size k z A n c L B n d M _ X0.out HL.out hn HI0.out HM.out hn HJ0.out).mono ?_
      rintro e w1 ⟨rfl, hb1⟩
      have HB1 := Lib.hid (HB0.out.trans (hb1.mono HB0.out.size))
      have HI1 := Lib.hid (HI0.out.below hb1)
      have HJ1 := Lib.hid (HJ0.out.below hb1)
      clear hb1
      go_wp2_with fail
      refine (partingOf_same A n c k L B d _ hs HL.out HI1.out (by rw [HLM.out]; exact HJ1.out)).mono ?_
      rintro e w2 ⟨rfl, hb2⟩
      have HB2 := Lib.hid ((HB1.out.trans (hb2.mono HB1.out.size)).alloc (by have h1 := HB1.out.size; have h2 := hb2.size; omega) (.cells #[.int .i64 0, .int .i64 0, .int .i64 0] 50))
      have HI2 := Lib.hid ((HI1.out.below hb2).below ((Below.refl _ _).alloc (Nat.le_refl _) (.cells #[.int .i64 0, .int .i64 0, .int .i64 0] 50)))
      have HJ2 := Lib.hid ((HJ1.out.below hb2).below ((Below.refl _ _).alloc (Nat.le_refl _) (.cells #[.int .i64 0, .int .i64 0, .int .i64 0] 50)))
      have Y2 := Lib.hid (Box.new w2 50 #[.int .i64 0, .int .i64 0, .int .i64 0])
      clear hb2
      obtain ⟨y0, y1, y2⟩ := Y2.out.three
      go_wp2
      go_ret2
      exact ⟨ret_twoE E1.out E2.out, HB2.out⟩
    · obtain ⟨hgn, hne⟩ := grt_at n hg
      have hi0 : (0 : Int) ≤ (g : Int) := by omega
      have hi1 : (g : Int) < (n : Int) := by omega
      by_cases hx : z = L[g]?.getD 0
      · obtain ⟨e1, e2⟩ := dt_five hz (dt_at (z := z) HL.out hg (Or.inl hx))
        have E1 := Lib.hid e1
        have E2 := Lib.hid e2
        have ht : (z == L[g]?.getD 0) = true := by simpa using hx
        clear hz e1 e2 hx hne hlen hM hL hp h2
        go_enter Try.func10, Try.ntmps10
        go_wp2_with fail
        refine (codeOfLetter_two w.heap.size k z A n c L B n d M _ X0.out HL.out hn HI0.out HM.out hn HJ0.out).mono ?_
        rintro e w1 ⟨rfl, hb1⟩
        have HB1 := Lib.hid (HB0.out.trans (hb1.mono HB0.out.size))
        have HI1 := Lib.hid (HI0.out.below hb1)
        have HJ1 := Lib.hid (HJ0.out.below hb1)
        clear hb1
        go_wp2_with fail
        refine (partingOf_diff A n c k L B d M g _ hs hs' HL.out HM.out hg HI1.out HJ1.out).mono ?_
        rintro e w2 ⟨rfl, hb2⟩
        have HB2 := Lib.hid ((HB1.out.trans (hb2.mono HB1.out.size)).alloc (by have h1 := HB1.out.size; have h2 := hb2.size; omega) (.cells #[.int .i64 g, .int .i64 (L[g]?.getD 0), .int .i64 (M[g]?.getD 0)] 50))
        have HI2 := Lib.hid ((HI1.out.below hb2).below ((Below.refl _ _).alloc (Nat.le_refl _) (.cells #[.int .i64 g, .int .i64 (L[g]?.getD 0), .int .i64 (M[g]?.getD 0)] 50)))
        have HJ2 := Lib.hid ((HJ1.out.below hb2).below ((Below.refl _ _).alloc (Nat.le_refl _) (.cells #[.int .i64 g, .int .i64 (L[g]?.getD 0), .int .i64 (M[g]?.getD 0)] 50)))
        have Y2 := Lib.hid (Box.new w2 50 #[.int .i64 g, .int .i64 (L[g]?.getD 0), .int .i64 (M[g]?.getD 0)])
        clear hb2
        obtain ⟨y0, y1, y2⟩ := Y2.out.three
        go_wp2
        go_ret2
        exact ⟨ret_twoE E1.out E2.out, HB2.out⟩
      · by_cases hy : z = M[g]?.getD 0
        · obtain ⟨e1, e2⟩ := dt_five hz (dt_at (z := z) HL.out hg (Or.inr hy))
          have E1 := Lib.hid e1
          have E2 := Lib.hid e2
          have ht : (z == L[g]?.getD 0) = false := by simpa using hx
          have ht' : (z == M[g]?.getD 0) = true := by simpa using hy
          clear hz e1 e2 hx hy hne hlen hM hL hp h2
          go_enter Try.func10, Try.ntmps10
          go_wp2_with fail
          refine (codeOfLetter_two w.heap.size k z A n c L B n d M _ X0.out HL.out hn HI0.out HM.out hn HJ0.out).mono ?_
          rintro e w1 ⟨rfl, hb1⟩
          have HB1 := Lib.hid (HB0.out.trans (hb1.mono HB0.out.size))
          have HI1 := Lib.hid (HI0.out.below hb1)
          have HJ1 := Lib.hid (HJ0.out.below hb1)
          clear hb1
          go_wp2_with fail
          refine (partingOf_diff A n c k L B d M g _ hs hs' HL.out HM.out hg HI1.out HJ1.out).mono ?_
          rintro e w2 ⟨rfl, hb2⟩
          have HB2 := Lib.hid ((HB1.out.trans (hb2.mono HB1.out.size)).alloc (by have h1 := HB1.out.size; have h2 := hb2.size; omega) (.cells #[.int .i64 g, .int .i64 (L[g]?.getD 0), .int .i64 (M[g]?.getD 0)] 50))
          have HI2 := Lib.hid ((HI1.out.below hb2).below ((Below.refl _ _).alloc (Nat.le_refl _) (.cells #[.int .i64 g, .int .i64 (L[g]?.getD 0), .int .i64 (M[g]?.getD 0)] 50)))
          have HJ2 := Lib.hid ((HJ1.out.below hb2).below ((Below.refl _ _).alloc (Nat.le_refl _) (.cells #[.int .i64 g, .int .i64 (L[g]?.getD 0), .int .i64 (M[g]?.getD 0)] 50)))
          have Y2 := Lib.hid (Box.new w2 50 #[.int .i64 g, .int .i64 (L[g]?.getD 0), .int .i64 (M[g]?.getD 0)])
          clear hb2
          obtain ⟨y0, y1, y2⟩ := Y2.out.three
          go_wp2
          go_ret2
          exact ⟨ret_twoE E1.out E2.out, HB2.out⟩
        · obtain ⟨e1, e2⟩ := dt_good hz (dt_ok HL.out hg hx hy) (grN_of HL.out hg)
          have E1 := Lib.hid e1
          have E2 := Lib.hid e2
          have ht : (z == L[g]?.getD 0) = false := by simpa using hx
          have ht' : (z == M[g]?.getD 0) = false := by simpa using hy
          clear hz e1 e2 hx hy hne hlen hM hL hp h2
          go_enter Try.func10, Try.ntmps10
          go_wp2_with fail
          refine (codeOfLetter_two w.heap.size k z A n c L B n d M _ X0.out HL.out hn HI0.out HM.out hn HJ0.out).mono ?_
          rintro e w1 ⟨rfl, hb1⟩
          have HB1 := Lib.hid (HB0.out.trans (hb1.mono HB0.out.size))
          have HI1 := Lib.hid (HI0.out.below hb1)
          have HJ1 := Lib.hid (HJ0.out.below hb1)
          clear hb1
          go_wp2_with fail
          refine (partingOf_diff A n c k L B d M g _ hs hs' HL.out HM.out hg HI1.out HJ1.out).mono ?_
          rintro e w2 ⟨rfl, hb2⟩
          have HB2 := Lib.hid ((HB1.out.trans (hb2.mono HB1.out.size)).alloc (by have h1 := HB1.out.size; have h2 := hb2.size; omega) (.cells #[.int .i64 g, .int .i64 (L[g]?.getD 0), .int .i64 (M[g]?.getD 0)] 50))
          have HI2 := Lib.hid ((HI1.out.below hb2).below ((Below.refl _ _).alloc (Nat.le_refl _) (.cells #[.int .i64 g, .int .i64 (L[g]?.getD 0), .int .i64 (M[g]?.getD 0)] 50)))
          have HJ2 := Lib.hid ((HJ1.out.below hb2).below ((Below.refl _ _).alloc (Nat.le_refl _) (.cells #[.int .i64 g, .int .i64 (L[g]?.getD 0), .int .i64 (M[g]?.getD 0)] 50)))
          have Y2 := Lib.hid (Box.new w2 50 #[.int .i64 g, .int .i64 (L[g]?.getD 0), .int .i64 (M[g]?.getD 0)])
          clear hb2
          obtain ⟨y0, y1, y2⟩ := Y2.out.three
          go_wp2_with fail
          refine (detourNumber_calls A n c L B d M g _ _ z _ HL.out HM.out (by omega) hgn hc hd HI2.out HJ2.out).mono ?_
          rintro e w3 ⟨rfl, hb3⟩
          have HB3 := Lib.hid (HB2.out.trans (hb3.mono HB2.out.size))
          clear hb3
          go_wp2
          go_ret2
          exact ⟨ret_twoE E1.out E2.out, HB3.out⟩
  · obtain ⟨e1, e2⟩ := dt_two hz
    have E1 := Lib.hid e1
    have E2 := Lib.hid (e2.trans (lcode2_two hz).symm)
    have hz' : (lcode2 k z L M != 0) = true := by simpa using hz
    clear hz e1 e2 hL hM
    go_enter Try.func10, Try.ntmps10
    go_wp2_with fail
    refine (codeOfLetter_two w.heap.size k z A n c L B m d M _ X0.out HL.out hn HI0.out HM.out hm HJ0.out).mono ?_
    rintro e w1 ⟨rfl, hb1⟩
    have HB1 := Lib.hid (HB0.out.trans (hb1.mono HB0.out.size))
    have HI1 := Lib.hid (HI0.out.below hb1)
    have HJ1 := Lib.hid (HJ0.out.below hb1)
    clear hb1
    go_wp2
    go_ret2
    exact ⟨ret_twoE E1.out E2.out, HB1.out⟩

end Go.Proofs.Ytnfjdggiaodhmaa
