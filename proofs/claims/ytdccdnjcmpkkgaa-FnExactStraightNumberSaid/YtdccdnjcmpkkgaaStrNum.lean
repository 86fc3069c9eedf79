/- Contracts: StraightNumber, by the specification's model and by the program. -/
import Derived.Test.YtdccdnjcmpkkgaaNums
namespace Go.Proofs.Ytdccdnjcmpkkgaa
open Go.RowKit
open Go.RowKit (wrap64)
set_option linter.unusedVariables false

theorem numL_head (L M : List Int) (g : Nat) : ∀ c, (numL L M g c)[0]? = some (strN L M g)
  | 0 => rfl
  | c + 1 => by
    have h1 := numL_len L M g c
    unfold numL
    rw [List.getElem?_append_left (by omega)]
    exact numL_head L M g c
theorem twoWB_len {k : Int} {L M : List Int} {n m : Nat} (h : twoWB k L M = true) (hL : L.length = n) (hM : M.length = m) : n = m := by rw [← hL, ← hM]; exact (twoWB_of h).2.2

def snC (k : Int) (L M : List Int) : Int := if twoWB k L M = true then (if grt L M L.length = -1 then 5 else 0) else 2
def snV (k : Int) (L M : List Int) : Int := if snC k L M = 0 then strN L M (grN L M) else 0
theorem sn_two {k : Int} {L M : List Int} (h : twoWB k L M = false) : snV k L M = 0 ∧ snC k L M = 2 := by
  have : snC k L M = 2 := by unfold snC; rw [h]; rfl
  exact ⟨by unfold snV; rw [if_neg (by omega)], this⟩
theorem sn_five {k : Int} {L M : List Int} (h : twoWB k L M = true) (hg : grt L M L.length = -1) : snV k L M = 0 ∧ snC k L M = 5 := by
  have : snC k L M = 5 := by unfold snC; rw [if_pos h, if_pos hg]
  exact ⟨by unfold snV; rw [if_neg (by omega)], this⟩
theorem sn_good {k : Int} {L M : List Int} {g n : Nat} (h : twoWB k L M = true) (hL : L.length = n) (hg : grt L M n = g) : snV k L M = strN L M g ∧ snC k L M = 0 := by
  have : snC k L M = 0 := by unfold snC; rw [if_pos h, if_neg (by rw [hL, hg]; omega)]
  exact ⟨by unfold snV; rw [if_pos this, grN_of hL hg], this⟩

set_option maxHeartbeats 4000000 in
theorem specStraightNumber_calls (k : Int) (A : Option Addr) (n c : Nat) (L : List Int) (B : Option Addr) (m d : Nat) (M : List Int) (w : World) (hL : L.length = n) (hn : n ≤ 1048576) (hI : Ints w A L) (hM : M.length = m) (hm : m ≤ 1048576) (hJ : Ints w B M) (hc : n ≤ c) (hd : m ≤ d) :
    Calls Try.prog 23 #[.int .i64 k, .slice A n c, .slice B m d] w fun e w' => e = .returned (.tuple #[.int .i64 (snV k L M), .int .i64 (snC k L M)]) ∧ Below w.heap.size w w' := by
  have HL := Lib.hid hL
  have HM := Lib.hid hM
  by_cases h2 : twoWB k L M = true
  · obtain rfl := twoWB_len h2 hL hM
    have hf := state_facts (twoWB_of h2).1 hL
    obtain ⟨K, rfl⟩ := Int.eq_ofNat_of_zero_le (a := k) (by omega)
    rcases grt_cases L M n with hg | ⟨g, hg⟩
    · obtain ⟨e1, e2⟩ := sn_five h2 (by rw [HL.out]; exact hg)
      have E1 := Lib.hid e1
      have E2 := Lib.hid e2
      clear e1 e2 hL hM
      go_enter Try.func23, Try.ntmps23
      go_wp2_with fail
      refine (l04Two_calls K A n c L B n d M _ HL.out hn hI HM.out hn hJ).mono ?_
      rintro e w' ⟨rfl, rfl⟩
      go_wp2_with fail
      refine (l04Place_calls A n c L B d M _ HL.out HM.out hn hI hJ).mono ?_
      rintro e w1 ⟨rfl, k0, rfl⟩
      rw [hg]
      go_wp2
      go_ret2
      exact ⟨ret_twoE E1.out E2.out, belowDraws (Below.refl _ _) _⟩
    · obtain ⟨e1, e2⟩ := sn_good h2 hL hg
      have E1 := Lib.hid e1
      have E2 := Lib.hid e2
      have HG := Lib.hid hg
      obtain ⟨hgn, _⟩ := grt_at n hg
      obtain ⟨ad, rfl, had, _⟩ := hI 0 (by rw [HL.out]; omega)
      obtain ⟨ad', rfl, had', _⟩ := hJ 0 (by rw [HM.out]; omega)
      clear e1 e2 hL hM
      go_enter Try.func23, Try.ntmps23
      go_wp2_with fail
      refine (l04Two_calls K (some ad) n c L (some ad') n d M _ HL.out hn hI HM.out hn hJ).mono ?_
      rintro e w' ⟨rfl, rfl⟩
      go_wp2_with fail
      refine (l04Place_calls (some ad) n c L (some ad') d M _ HL.out HM.out hn hI hJ).mono ?_
      rintro e w1 ⟨rfl, k0, rfl⟩
      rw [hg]
      clear hg
      have hg0 : ¬ (g : Int) < 0 := by omega
      go_wp2_with fail
      refine (l04Numbers_calls K ad n c L ad' d M g _ (by omega) HL.out HM.out (by omega) HG.out hc hd (hI.drawsN k0) (hJ.drawsN k0)).mono ?_
      rintro e w2 ⟨A2, c2, rfl, hO, hb⟩
      have hln := numL_len L M g K
      obtain ⟨g2, rfl, _, _, hcell⟩ := hO.cell 0 (by omega)
      rw [List.getElem?_map, numL_head] at hcell
      have HB := Lib.hid ((belowDraws (Below.refl w.heap.size w) k0).trans hb)
      clear hb hO
      simp only [Option.map_some] at hcell
      generalize (numL L M g K).length = nl at *
      go_wp2
      go_ret2
      exact ⟨ret_twoE E1.out E2.out, HB.out⟩
  · have h2' : twoWB k L M = false := by simpa using h2
    obtain ⟨e1, e2⟩ := sn_two h2'
    have E1 := Lib.hid e1
    have E2 := Lib.hid e2
    clear e1 e2 hL hM h2
    go_enter Try.func23, Try.ntmps23
    go_wp2_with fail
    refine (l04Two_calls k A n c L B m d M _ HL.out hn hI HM.out hm hJ).mono ?_
    rintro e w' ⟨rfl, rfl⟩
    go_wp2
    go_ret2
    exact ⟨ret_twoE E1.out E2.out, Below.refl _ _⟩

set_option maxHeartbeats 4000000 in
theorem implStraightNumber_calls (k : Int) (A : Option Addr) (n c : Nat) (L : List Int) (B : Option Addr) (m d : Nat) (M : List Int) (w : World) (hL : L.length = n) (hn : n ≤ 1048576) (hI : Ints w A L) (hM : M.length = m) (hm : m ≤ 1048576) (hJ : Ints w B M) (hc : n ≤ c) (hd : m ≤ d) :
    Calls Try.prog 24 #[.int .i64 k, .slice A n c, .slice B m d] w fun e w' => e = .returned (.tuple #[.int .i64 (snV k L M), .int .i64 (snC k L M)]) ∧ Below w.heap.size w w' := by
  have HL := Lib.hid hL
  have HM := Lib.hid hM
  have X0 := Lib.hid (Box.new w 25 #[.slice A n c, .slice B m d])
  have HB0 := Lib.hid ((Below.refl w.heap.size w).alloc (Nat.le_refl _) (.cells #[.slice A n c, .slice B m d] 25))
  have HI0 := Lib.hid (hI.below HB0.out)
  have HJ0 := Lib.hid (hJ.below HB0.out)
  clear hI hJ
  by_cases h2 : twoWB k L M = true
  · obtain rfl := twoWB_len h2 hL hM
    have hs := (twoWB_of h2).1
    have hs' := (twoWB_of h2).2.1
    have hf := state_facts hs hL
    have hz := wcode2_yes h2
    have hz' : (wcode2 k L M != 0) = false := by simpa using hz
    rcases grt_cases L M n with hg | ⟨g, hg⟩
    · obtain ⟨e1, e2⟩ := sn_five h2 (by rw [HL.out]; exact hg)
      have E1 := Lib.hid e1
      have E2 := Lib.hid e2
      have HLM := Lib.hid (grt_lists hL hM hg)
      clear e1 e2 hL hM hz h2
      go_enter Try.func24, Try.ntmps24
      go_wp2_with fail
      refine (codeOfWords_two w.heap.size k A n c L B n d M _ X0.out HL.out hn HI0.out HM.out hn HJ0.out).mono ?_
      rintro e w1 ⟨rfl, hb1⟩
      have HB1 := Lib.hid (HB0.out.trans (hb1.mono HB0.out.size))
      have HI1 := Lib.hid (HI0.out.below hb1)
      have HJ1 := Lib.hid (HJ0.out.below hb1)
      clear hb1
      go_wp2_with fail
      refine (partingOf_same A n c k L B d _ hs HL.out HI1.out (by rw [HLM.out]; exact HJ1.out)).mono ?_
      rintro e w2 ⟨rfl, hb2⟩
      have HB2 := Lib.hid ((HB1.out.trans (hb2.mono HB1.out.size)).alloc (by have h1 := HB1.out.size; have h2 := hb2.size; omega) (.cells #[.int .i64 0, .int .i64 0, .int .i64 0] 59))
      clear hb2
      go_wp2
      go_ret2
      exact ⟨ret_twoE E1.out E2.out, HB2.out⟩
    · obtain ⟨e1, e2⟩ := sn_good h2 hL hg
      have E1 := Lib.hid e1
      have E2 := Lib.hid e2
      obtain ⟨hgn, _⟩ := grt_at n hg
      clear e1 e2 hL hM hz h2
      go_enter Try.func24, Try.ntmps24
      go_wp2_with fail
      refine (codeOfWords_two w.heap.size k A n c L B n d M _ X0.out HL.out hn HI0.out HM.out hn HJ0.out).mono ?_
      rintro e w1 ⟨rfl, hb1⟩
      have HB1 := Lib.hid (HB0.out.trans (hb1.mono HB0.out.size))
      have HI1 := Lib.hid (HI0.out.below hb1)
      have HJ1 := Lib.hid (HJ0.out.below hb1)
      clear hb1
      go_wp2_with fail
      refine (partingOf_diff A n c k L B d M g _ hs hs' HL.out HM.out hg HI1.out HJ1.out).mono ?_
      rintro e w2 ⟨rfl, hb2⟩
      have HB2 := Lib.hid ((HB1.out.trans (hb2.mono HB1.out.size)).alloc (by have h1 := HB1.out.size; have h2 := hb2.size; omega) (.cells #[.int .i64 g, .int .i64 (L[g]?.getD 0), .int .i64 (M[g]?.getD 0)] 59))
      have HI2 := Lib.hid ((HI1.out.below hb2).below ((Below.refl _ _).alloc (Nat.le_refl _) (.cells #[.int .i64 g, .int .i64 (L[g]?.getD 0), .int .i64 (M[g]?.getD 0)] 59)))
      have HJ2 := Lib.hid ((HJ1.out.below hb2).below ((Below.refl _ _).alloc (Nat.le_refl _) (.cells #[.int .i64 g, .int .i64 (L[g]?.getD 0), .int .i64 (M[g]?.getD 0)] 59)))
      have Y2 := Lib.hid (Box.new w2 59 #[.int .i64 g, .int .i64 (L[g]?.getD 0), .int .i64 (M[g]?.getD 0)])
      clear hb2
      obtain ⟨y0, y1, y2⟩ := Y2.out.three
      go_wp2_with fail
      refine (straightNumber_calls A n c L B d M g _ _ _ HL.out HM.out (by omega) hgn hc hd HI2.out HJ2.out).mono ?_
      rintro e w3 ⟨rfl, hb3⟩
      have HB3 := Lib.hid (HB2.out.trans (hb3.mono HB2.out.size))
      clear hb3
      go_wp2
      go_ret2
      exact ⟨ret_twoE E1.out E2.out, HB3.out⟩
  · have h2' : twoWB k L M = false := by simpa using h2
    have hz := wcode2_no h2'
    have hz' : (wcode2 k L M != 0) = true := by rw [hz]; rfl
    obtain ⟨e1, e2⟩ := sn_two h2'
    have E1 := Lib.hid e1
    have E2 := Lib.hid (e2.trans hz.symm)
    clear e1 e2 hL hM h2 hz
    go_enter Try.func24, Try.ntmps24
    go_wp2_with fail
    refine (codeOfWords_two w.heap.size k A n c L B m d M _ X0.out HL.out hn HI0.out HM.out hm HJ0.out).mono ?_
    rintro e w1 ⟨rfl, hb1⟩
    have HB1 := Lib.hid (HB0.out.trans (hb1.mono HB0.out.size))
    clear hb1
    go_wp2
    go_ret2
    exact ⟨ret_twoE E1.out E2.out, HB1.out⟩

end Go.Proofs.Ytdccdnjcmpkkgaa
