/- Contracts: WordDistance and CountWordWays, by the specification's model and by the program. -/
import Derived.Test.YtnfjdggiaodhmaaShort
namespace Go.Proofs.Ytnfjdggiaodhmaa
open Go.RowKit
open Go.RowKit (wrap64)
set_option linter.unusedVariables false

set_option maxHeartbeats 2000000 in
theorem shortestOf_same (k : Int) (A : Option Addr) (n c : Nat) (L : List Int) (B : Option Addr) (d : Nat) (M : List Int) (w : World) (hs : stateB k L = true) (hL : L.length = n) (hM : M.length = n) (hg : grt L M n = -1) (hI : Ints w A L) (hJ : Ints w B M) :
    Calls Try.prog 36 #[.int .i64 k, .slice A n c, .slice B n d] w fun e w' => e = .returned (.tuple #[.int .i64 0, .int .i64 1]) ∧ Below w.heap.size w w' := by
  have HLM := grt_lists hL hM hg
  subst HLM
  clear hg hM
  go_enter Try.func36, Try.ntmps36
  go_wp2_with fail
  refine (partingOf_same A n c k L B d _ hs hL hI hJ).mono ?_
  rintro e w2 ⟨rfl, hb2⟩
  have HB2 := Lib.hid (hb2.alloc hb2.size (.cells #[.int .i64 0, .int .i64 0, .int .i64 0] 50))
  clear hb2
  go_wp2
  go_ret2
  exact ⟨rfl, HB2.out⟩

set_option maxHeartbeats 4000000 in
theorem shortestOf_diff (K : Nat) (ad : Addr) (n c : Nat) (L : List Int) (ad' : Addr) (d : Nat) (M : List Int) (g : Nat) (w : World) (hK : K ≤ 5) (hs : stateB K L = true) (hs' : stateB K M = true) (hL : L.length = n) (hM : M.length = n) (hg : grt L M n = g) (hc : n ≤ c) (hd : n ≤ d) (hI : Ints w (some ad) L) (hJ : Ints w (some ad') M) :
    Calls Try.prog 36 #[.int .i64 K, .slice (some ad) n c, .slice (some ad') n d] w fun e w' => e = .returned (.tuple #[.int .i64 (mnTo (numL L M g K) (numL L M g K).length), .int .i64 (cwTo (numL L M g K) (numL L M g K).length)]) ∧ Below w.heap.size w w' := by
  have HL := Lib.hid hL
  have HM := Lib.hid hM
  have hf := state_facts hs hL
  obtain ⟨hgn, _⟩ := grt_at n hg
  have hln := numL_len L M g K
  obtain ⟨N, hN⟩ : ∃ N, numL L M g K = N := ⟨_, rfl⟩
  obtain ⟨q, hq⟩ : ∃ q, N.length = q := ⟨_, rfl⟩
  obtain ⟨mn, hmn⟩ : ∃ m, mnTo N q = m := ⟨_, rfl⟩
  rw [hN, hq] at hln
  rw [hN, cw_ce, hq, hmn]
  have HN := Lib.hid hN
  have HQ := Lib.hid hq
  have HMN := Lib.hid hmn
  clear hN hq hmn
  go_enter Try.func36, Try.ntmps36
  go_wp2_with fail
  refine (partingOf_diff (some ad) n c K L (some ad') d M g _ hs hs' hL hM hg hI hJ).mono ?_
  rintro e w2 ⟨rfl, hb2⟩
  have HB2 := Lib.hid (hb2.alloc hb2.size (.cells #[.int .i64 g, .int .i64 (L[g]?.getD 0), .int .i64 (M[g]?.getD 0)] 50))
  have HI2 := Lib.hid ((hI.below hb2).below ((Below.refl _ _).alloc (Nat.le_refl _) (.cells #[.int .i64 g, .int .i64 (L[g]?.getD 0), .int .i64 (M[g]?.getD 0)] 50)))
  have HJ2 := Lib.hid ((hJ.below hb2).below ((Below.refl _ _).alloc (Nat.le_refl _) (.cells #[.int .i64 g, .int .i64 (L[g]?.getD 0), .int .i64 (M[g]?.getD 0)] 50)))
  have Y2 := Lib.hid (Box.new w2 50 #[.int .i64 g, .int .i64 (L[g]?.getD 0), .int .i64 (M[g]?.getD 0)])
  clear hb2 hL hM hg hs hs'
  obtain ⟨y0, y1, y2⟩ := Y2.out.three
  go_wp2_with fail
  refine (wayNumbers_calls K ad n c L ad' d M g _ hK HL.out HM.out (by omega) hgn hc hd HI2.out HJ2.out).mono ?_
  rintro e w3 ⟨A3, c3, rfl, hO, hb3⟩
  rw [HN.out, HQ.out]
  rw [HN.out, HQ.out] at hO
  have HIN := Lib.hid (OwnG.intsG hO)
  have HB3 := Lib.hid (HB2.out.trans (hb3.mono HB2.out.size))
  clear hb3 hO y0 y1 y2 Y2 HI2 HJ2 HB2
  go_wp2_with fail
  refine (sliceMin_calls A3 q c3 N _ HQ.out (by omega) (by omega) HIN.out).mono ?_
  rintro e w4 ⟨rfl, rfl⟩
  rw [HMN.out]
  go_wp2
  go_loop [12, 14, 32] (fun s _ i => ∃ j : Nat, j ≤ q ∧ i = .int .i64 j ∧ s = .int .i64 (ceTo N mn j)) (fun _ _ i => q - (intOf i).toNat)
  case atStart => exact ⟨0, Nat.zero_le _, rfl, rfl⟩
  case round =>
    obtain ⟨j, hj, rfl, rfl⟩ := hrel
    have hbd := ce_bd N mn j
    by_cases hlt : j < q
    · obtain ⟨ad3, rfl, had3, hcj⟩ := HIN.out j (by rw [HQ.out]; omega)
      by_cases he : N[j]?.getD 0 = mn
      · have ht : (N[j]?.getD 0 == mn) = true := by simpa using he
        have HST := Lib.hid (ce_yes he)
        clear he
        generalize ceTo N mn j = s at *
        go_wp2
        go_round
        case rel => exact ⟨j + 1, by omega, by go_num, by rw [HST.out]⟩
        case measure => simp [intOf]; omega
      · have ht : (N[j]?.getD 0 == mn) = false := by simpa using he
        have HST := Lib.hid (ce_no he)
        clear he
        generalize ceTo N mn j = s at *
        go_wp2
        go_round
        case rel => exact ⟨j + 1, by omega, by go_num, by rw [HST.out]⟩
        case measure => simp [intOf]; omega
    · obtain rfl : j = q := by omega
      go_wp2
      go_ret2
      exact ⟨rfl, HB3.out⟩

set_option maxHeartbeats 4000000 in
theorem implWordDistance_calls (k : Int) (A : Option Addr) (n c : Nat) (L : List Int) (B : Option Addr) (m d : Nat) (M : List Int) (w : World) (hL : L.length = n) (hn : n ≤ 1048576) (hI : Ints w A L) (hM : M.length = m) (hm : m ≤ 1048576) (hJ : Ints w B M) (hc : n ≤ c) (hd : m ≤ d) :
    Calls Try.prog 13 #[.int .i64 k, .slice A n c, .slice B m d] w fun e w' => e = .returned (.tuple #[.int .i64 (wdV k L M), .int .i64 (wcode2 k L M)]) ∧ Below w.heap.size w w' := by
  have HL := Lib.hid hL
  have HM := Lib.hid hM
  have X0 := Lib.hid (Box.new w 22 #[.slice A n c, .slice B m d])
  have HB0 := Lib.hid ((Below.refl w.heap.size w).alloc (Nat.le_refl _) (.cells #[.slice A n c, .slice B m d] 22))
  have HI0 := Lib.hid (hI.below HB0.out)
  have HJ0 := Lib.hid (hJ.below HB0.out)
  clear hI hJ
  by_cases h2 : twoWB k L M = true
  · obtain rfl := twoWB_len h2 hL hM
    have hs := (twoWB_of h2).1
    have hs' := (twoWB_of h2).2.1
    have hf := state_facts hs hL
    obtain ⟨K, rfl⟩ := Int.eq_ofNat_of_zero_le (a := k) (by omega)
    have hz := wcode2_yes h2
    have HZ := Lib.hid hz
    have hz' : (wcode2 K L M != 0) = false := by simpa using hz
    rcases grt_cases L M n with hg | ⟨g, hg⟩
    · have E1 := Lib.hid (wd_same h2 (by rw [HL.out]; exact hg)).1
      clear hL hM hz h2
      go_enter Try.func13, Try.ntmps13
      go_wp2_with fail
      refine (codeOfWords_two w.heap.size K A n c L B n d M _ X0.out HL.out hn HI0.out HM.out hn HJ0.out).mono ?_
      rintro e w1 ⟨rfl, hb1⟩
      have HB1 := Lib.hid (HB0.out.trans (hb1.mono HB0.out.size))
      have HI1 := Lib.hid (HI0.out.below hb1)
      have HJ1 := Lib.hid (HJ0.out.below hb1)
      clear hb1
      go_wp2_with fail
      refine (shortestOf_same K A n c L B d M _ hs HL.out HM.out hg HI1.out HJ1.out).mono ?_
      rintro e w2 ⟨rfl, hb2⟩
      have HB2 := Lib.hid (HB1.out.trans (hb2.mono HB1.out.size))
      clear hb2
      go_wp2
      go_ret2
      exact ⟨ret_twoE E1.out HZ.out, HB2.out⟩
    · have E1 := Lib.hid (wd_diff h2 hL hg).1
      obtain ⟨hgn, _⟩ := grt_at n hg
      obtain ⟨ad, rfl, had, _⟩ := HI0.out 0 (by rw [HL.out]; omega)
      obtain ⟨ad', rfl, had', _⟩ := HJ0.out 0 (by rw [HM.out]; omega)
      clear hL hM hz h2
      go_enter Try.func13, Try.ntmps13
      go_wp2_with fail
      refine (codeOfWords_two w.heap.size K (some ad) n c L (some ad') n d M _ X0.out HL.out hn HI0.out HM.out hn HJ0.out).mono ?_
      rintro e w1 ⟨rfl, hb1⟩
      have HB1 := Lib.hid (HB0.out.trans (hb1.mono HB0.out.size))
      have HI1 := Lib.hid (HI0.out.below hb1)
      have HJ1 := Lib.hid (HJ0.out.below hb1)
      clear hb1
      go_wp2_with fail
      refine (shortestOf_diff K ad n c L ad' d M g _ (by omega) hs hs' HL.out HM.out hg hc hd HI1.out HJ1.out).mono ?_
      rintro e w2 ⟨rfl, hb2⟩
      have HB2 := Lib.hid (HB1.out.trans (hb2.mono HB1.out.size))
      clear hb2
      rw [← E1.out]
      generalize (mnTo (numL L M g K) (numL L M g K).length) = z1 at *
      generalize (cwTo (numL L M g K) (numL L M g K).length) = z2 at *
      clear E1
      go_wp2
      go_ret2
      exact ⟨ret_twoE rfl HZ.out, HB2.out⟩
  · have h2' : twoWB k L M = false := by simpa using h2
    have hz := wcode2_no h2'
    have hz' : (wcode2 k L M != 0) = true := by rw [hz]; rfl
    have E1 := Lib.hid (wd_no h2').1
    clear hL hM h2 hz
    go_enter Try.func13, Try.ntmps13
    go_wp2_with fail
    refine (codeOfWords_two w.heap.size k A n c L B m d M _ X0.out HL.out hn HI0.out HM.out hm HJ0.out).mono ?_
    rintro e w1 ⟨rfl, hb1⟩
    have HB1 := Lib.hid (HB0.out.trans (hb1.mono HB0.out.size))
    clear hb1
    go_wp2
    go_ret2
    exact ⟨ret_twoE E1.out rfl, HB1.out⟩

set_option maxHeartbeats 4000000 in
theorem implCountWordWays_calls (k : Int) (A : Option Addr) (n c : Nat) (L : List Int) (B : Option Addr) (m d : Nat) (M : List Int) (w : World) (hL : L.length = n) (hn : n ≤ 1048576) (hI : Ints w A L) (hM : M.length = m) (hm : m ≤ 1048576) (hJ : Ints w B M) (hc : n ≤ c) (hd : m ≤ d) :
    Calls Try.prog 15 #[.int .i64 k, .slice A n c, .slice B m d] w fun e w' => e = .returned (.tuple #[.int .i64 (wwV k L M), .int .i64 (wcode2 k L M)]) ∧ Below w.heap.size w w' := by
  have HL := Lib.hid hL
  have HM := Lib.hid hM
  have X0 := Lib.hid (Box.new w 22 #[.slice A n c, .slice B m d])
  have HB0 := Lib.hid ((Below.refl w.heap.size w).alloc (Nat.le_refl _) (.cells #[.slice A n c, .slice B m d] 22))
  have HI0 := Lib.hid (hI.below HB0.out)
  have HJ0 := Lib.hid (hJ.below HB0.out)
  clear hI hJ
  by_cases h2 : twoWB k L M = true
  · obtain rfl := twoWB_len h2 hL hM
    have hs := (twoWB_of h2).1
    have hs' := (twoWB_of h2).2.1
    have hf := state_facts hs hL
    obtain ⟨K, rfl⟩ := Int.eq_ofNat_of_zero_le (a := k) (by omega)
    have hz := wcode2_yes h2
    have HZ := Lib.hid hz
    have hz' : (wcode2 K L M != 0) = false := by simpa using hz
    rcases grt_cases L M n with hg | ⟨g, hg⟩
    · have E1 := Lib.hid (wd_same h2 (by rw [HL.out]; exact hg)).2
      clear hL hM hz h2
      go_enter Try.func15, Try.ntmps15
      go_wp2_with fail
      refine (codeOfWords_two w.heap.size K A n c L B n d M _ X0.out HL.out hn HI0.out HM.out hn HJ0.out).mono ?_
      rintro e w1 ⟨rfl, hb1⟩
      have HB1 := Lib.hid (HB0.out.trans (hb1.mono HB0.out.size))
      have HI1 := Lib.hid (HI0.out.below hb1)
      have HJ1 := Lib.hid (HJ0.out.below hb1)
      clear hb1
      go_wp2_with fail
      refine (shortestOf_same K A n c L B d M _ hs HL.out HM.out hg HI1.out HJ1.out).mono ?_
      rintro e w2 ⟨rfl, hb2⟩
      have HB2 := Lib.hid (HB1.out.trans (hb2.mono HB1.out.size))
      clear hb2
      go_wp2
      go_ret2
      exact ⟨ret_twoE E1.out HZ.out, HB2.out⟩
    · have E1 := Lib.hid (wd_diff h2 hL hg).2
      obtain ⟨hgn, _⟩ := grt_at n hg
      obtain ⟨ad, rfl, had, _⟩ := HI0.out 0 (by rw [HL.out]; omega)
      obtain ⟨ad', rfl, had', _⟩ := HJ0.out 0 (by rw [HM.out]; omega)
      clear hL hM hz h2
      go_enter Try.func15, Try.ntmps15
      go_wp2_with fail
      refine (codeOfWords_two w.heap.size K (some ad) n c L (some ad') n d M _ X0.out HL.out hn HI0.out HM.out hn HJ0.out).mono ?_
      rintro e w1 ⟨rfl, hb1⟩
      have HB1 := Lib.hid (HB0.out.trans (hb1.mono HB0.out.size))
      have HI1 := Lib.hid (HI0.out.below hb1)
      have HJ1 := Lib.hid (HJ0.out.below hb1)
      clear hb1
      go_wp2_with fail
      refine (shortestOf_diff K ad n c L ad' d M g _ (by omega) hs hs' HL.out HM.out hg hc hd HI1.out HJ1.out).mono ?_
      rintro e w2 ⟨rfl, hb2⟩
      have HB2 := Lib.hid (HB1.out.trans (hb2.mono HB1.out.size))
      clear hb2
      rw [← E1.out]
      generalize (mnTo (numL L M g K) (numL L M g K).length) = z1 at *
      generalize (cwTo (numL L M g K) (numL L M g K).length) = z2 at *
      clear E1
      go_wp2
      go_ret2
      exact ⟨ret_twoE rfl HZ.out, HB2.out⟩
  · have h2' : twoWB k L M = false := by simpa using h2
    have hz := wcode2_no h2'
    have hz' : (wcode2 k L M != 0) = true := by rw [hz]; rfl
    have E1 := Lib.hid (wd_no h2').2
    clear hL hM h2 hz
    go_enter Try.func15, Try.ntmps15
    go_wp2_with fail
    refine (codeOfWords_two w.heap.size k A n c L B m d M _ X0.out HL.out hn HI0.out HM.out hm HJ0.out).mono ?_
    rintro e w1 ⟨rfl, hb1⟩
    have HB1 := Lib.hid (HB0.out.trans (hb1.mono HB0.out.size))
    clear hb1
    go_wp2
    go_ret2
    exact ⟨ret_twoE E1.out rfl, HB1.out⟩

set_option maxHeartbeats 4000000 in
theorem specWordDistance_calls (k : Int) (A : Option Addr) (n c : Nat) (L : List Int) (B : Option Addr) (m d : Nat) (M : List Int) (w : World) (hL : L.length = n) (hn : n ≤ 1048576) (hI : Ints w A L) (hM : M.length = m) (hm : m ≤ 1048576) (hJ : Ints w B M) (hc : n ≤ c) (hd : m ≤ d) :
    Calls Try.prog 12 #[.int .i64 k, .slice A n c, .slice B m d] w fun e w' => e = .returned (.tuple #[.int .i64 (wdV k L M), .int .i64 (wcode2 k L M)]) ∧ Below w.heap.size w w' := by
  have HL := Lib.hid hL
  have HM := Lib.hid hM
  by_cases h2 : twoWB k L M = true
  · obtain rfl := twoWB_len h2 hL hM
    have hf := state_facts (twoWB_of h2).1 hL
    obtain ⟨K, rfl⟩ := Int.eq_ofNat_of_zero_le (a := k) (by omega)
    have HZ := Lib.hid (wcode2_yes h2)
    rcases grt_cases L M n with hg | ⟨g, hg⟩
    · have E1 := Lib.hid (wd_same h2 (by rw [HL.out]; exact hg)).1
      clear hL hM
      go_enter Try.func12, Try.ntmps12
      go_wp2_with fail
      refine (l04Two_calls K A n c L B n d M _ HL.out hn hI HM.out hn hJ).mono ?_
      rintro e w' ⟨rfl, rfl⟩
      go_wp2_with fail
      refine (l04Place_calls A n c L B d M _ HL.out HM.out hn hI hJ).mono ?_
      rintro e w1 ⟨rfl, k0, rfl⟩
      rw [hg]
      go_wp2
      go_ret2
      exact ⟨ret_twoE E1.out HZ.out, belowDraws (Below.refl _ _) _⟩
    · have E1 := Lib.hid (wd_diff h2 hL hg).1
      have HG := Lib.hid hg
      obtain ⟨hgn, _⟩ := grt_at n hg
      obtain ⟨ad, rfl, had, _⟩ := hI 0 (by rw [HL.out]; omega)
      obtain ⟨ad', rfl, had', _⟩ := hJ 0 (by rw [HM.out]; omega)
      clear hL hM
      go_enter Try.func12, Try.ntmps12
      go_wp2_with fail
      refine (l04Two_calls K (some ad) n c L (some ad') n d M _ HL.out hn hI HM.out hn hJ).mono ?_
      rintro e w' ⟨rfl, rfl⟩
      go_wp2_with fail
      refine (l04Place_calls (some ad) n c L (some ad') d M _ HL.out HM.out hn hI hJ).mono ?_
      rintro e w1 ⟨rfl, k0, rfl⟩
      rw [hg]
      clear hg
      have hg0 : ¬ (g : Int) < 0 := by omega
      go_wp2_with fail
      refine (l04Numbers_calls K ad n c L ad' d M g _ (by omega) HL.out HM.out (by omega) HG.out hc hd (hI.drawsN k0) (hJ.drawsN k0)).mono ?_
      rintro e w2 ⟨A2, c2, rfl, hO, hb⟩
      have hln := numL_len L M g K
      have HIN := Lib.hid (OwnG.intsG hO)
      have HB2 := Lib.hid ((belowDraws (Below.refl w.heap.size w) k0).trans hb)
      clear hb hO
      generalize hN : numL L M g K = N at *
      clear hN
      obtain ⟨q, hq⟩ : ∃ q, N.length = q := ⟨_, rfl⟩
      rw [hq] at hln E1 ⊢
      have HQ := Lib.hid hq
      clear hq
      obtain ⟨ad2, rfl, had2, hc0⟩ := HIN.out 0 (by rw [HQ.out]; omega)
      have hc0' : w2.cell? ad2 = some (.int .i64 (N[0]?.getD 0)) := by simpa [Addr.add] using hc0
      go_wp2
      go_loop [9, 10] (fun o i => ∃ j : Nat, 1 ≤ j ∧ j ≤ q ∧ i = .int .i64 j ∧ o = .int .i64 (mnTo N j)) (fun _ i => q - (intOf i).toNat)
      case atStart => exact ⟨1, Nat.le_refl _, hln.1, rfl, by rw [mnTo_one]⟩
      case round =>
        obtain ⟨j, hj1, hj, rfl, rfl⟩ := hrel
        by_cases hlt : j < q
        · obtain ⟨_, h0, _, hcj⟩ := HIN.out j (by rw [HQ.out]; omega)
          cases h0
          have HST := Lib.hid (mnTo_step N j)
          clear hc0 hc0' E1
          generalize mnTo N j = mj at *
          go_wp2
          go_round
          case rel => exact ⟨j + 1, by omega, by omega, by go_num, by rw [HST.out, min_if]⟩
          case measure => simp [intOf]; omega
        · obtain rfl : j = q := by omega
          go_wp2
          go_ret2
          exact ⟨ret_twoE E1.out HZ.out, HB2.out⟩
  · have h2' : twoWB k L M = false := by simpa using h2
    have HZ := Lib.hid (wcode2_no h2')
    have E1 := Lib.hid (wd_no h2').1
    clear hL hM h2
    go_enter Try.func12, Try.ntmps12
    go_wp2_with fail
    refine (l04Two_calls k A n c L B m d M _ HL.out hn hI HM.out hm hJ).mono ?_
    rintro e w' ⟨rfl, rfl⟩
    go_wp2
    go_ret2
    exact ⟨ret_twoE E1.out HZ.out, Below.refl _ _⟩

set_option maxHeartbeats 4000000 in
theorem specCountWordWays_calls (k : Int) (A : Option Addr) (n c : Nat) (L : List Int) (B : Option Addr) (m d : Nat) (M : List Int) (w : World) (hL : L.length = n) (hn : n ≤ 1048576) (hI : Ints w A L) (hM : M.length = m) (hm : m ≤ 1048576) (hJ : Ints w B M) (hc : n ≤ c) (hd : m ≤ d) :
    Calls Try.prog 14 #[.int .i64 k, .slice A n c, .slice B m d] w fun e w' => e = .returned (.tuple #[.int .i64 (wwV k L M), .int .i64 (wcode2 k L M)]) ∧ Below w.heap.size w w' := by
  have HL := Lib.hid hL
  have HM := Lib.hid hM
  by_cases h2 : twoWB k L M = true
  · obtain rfl := twoWB_len h2 hL hM
    have hf := state_facts (twoWB_of h2).1 hL
    obtain ⟨K, rfl⟩ := Int.eq_ofNat_of_zero_le (a := k) (by omega)
    have HZ := Lib.hid (wcode2_yes h2)
    rcases grt_cases L M n with hg | ⟨g, hg⟩
    · have E1 := Lib.hid (wd_same h2 (by rw [HL.out]; exact hg)).2
      clear hL hM
      go_enter Try.func14, Try.ntmps14
      go_wp2_with fail
      refine (l04Two_calls K A n c L B n d M _ HL.out hn hI HM.out hn hJ).mono ?_
      rintro e w' ⟨rfl, rfl⟩
      go_wp2_with fail
      refine (l04Place_calls A n c L B d M _ HL.out HM.out hn hI hJ).mono ?_
      rintro e w1 ⟨rfl, k0, rfl⟩
      rw [hg]
      go_wp2
      go_ret2
      exact ⟨ret_twoE E1.out HZ.out, belowDraws (Below.refl _ _) _⟩
    · have E1 := Lib.hid (wd_diff h2 hL hg).2
      have HG := Lib.hid hg
      obtain ⟨hgn, _⟩ := grt_at n hg
      obtain ⟨ad, rfl, had, _⟩ := hI 0 (by rw [HL.out]; omega)
      obtain ⟨ad', rfl, had', _⟩ := hJ 0 (by rw [HM.out]; omega)
      clear hL hM
      go_enter Try.func14, Try.ntmps14
      go_wp2_with fail
      refine (l04Two_calls K (some ad) n c L (some ad') n d M _ HL.out hn hI HM.out hn hJ).mono ?_
      rintro e w' ⟨rfl, rfl⟩
      go_wp2_with fail
      refine (l04Place_calls (some ad) n c L (some ad') d M _ HL.out HM.out hn hI hJ).mono ?_
      rintro e w1 ⟨rfl, k0, rfl⟩
      rw [hg]
      clear hg
      have hg0 : ¬ (g : Int) < 0 := by omega
      go_wp2_with fail
      refine (l04Numbers_calls K ad n c L ad' d M g _ (by omega) HL.out HM.out (by omega) HG.out hc hd (hI.drawsN k0) (hJ.drawsN k0)).mono ?_
      rintro e w2 ⟨A2, c2, rfl, hO, hb⟩
      have hln := numL_len L M g K
      have HIN := Lib.hid (OwnG.intsG hO)
      have HB2 := Lib.hid ((belowDraws (Below.refl w.heap.size w) k0).trans hb)
      clear hb hO
      generalize hN : numL L M g K = N at *
      clear hN
      obtain ⟨q, hq⟩ : ∃ q, N.length = q := ⟨_, rfl⟩
      rw [hq] at hln E1 ⊢
      have HQ := Lib.hid hq
      clear hq
      obtain ⟨ad2, rfl, had2, hc0⟩ := HIN.out 0 (by rw [HQ.out]; omega)
      have hc0' : w2.cell? ad2 = some (.int .i64 (N[0]?.getD 0)) := by simpa [Addr.add] using hc0
      go_wp2
      go_loop [9, 10, 11] (fun s o i => ∃ j : Nat, j ≤ q ∧ i = .int .i64 j ∧ o = .int .i64 (mnTo N j) ∧ s = .int .i64 (cwTo N j)) (fun _ _ i => q - (intOf i).toNat)
      case atStart => exact ⟨0, Nat.zero_le _, rfl, rfl, rfl⟩
      case round =>
        obtain ⟨j, hj, rfl, rfl, rfl⟩ := hrel
        have hbd := cw_bd N j
        by_cases hlt : j < q
        · obtain ⟨_, h0, _, hcj⟩ := HIN.out j (by rw [HQ.out]; omega)
          cases h0
          clear hc0 hc0' E1
          by_cases h1 : N[j]?.getD 0 < mnTo N j
          · have HST := Lib.hid (cw_lt h1)
            generalize mnTo N j = mj at *
            generalize cwTo N j = sj at *
            go_wp2
            go_round
            case rel => exact ⟨j + 1, by omega, by go_num, by rw [HST.out.2], by rw [HST.out.1]⟩
            case measure => simp [intOf]; omega
          · by_cases he : N[j]?.getD 0 = mnTo N j
            · have HST := Lib.hid (cw_eq he)
              have ht : (N[j]?.getD 0 == mnTo N j) = true := by simpa using he
              clear he
              generalize mnTo N j = mj at *
              generalize cwTo N j = sj at *
              go_wp2
              go_round
              case rel => exact ⟨j + 1, by omega, by go_num, by rw [HST.out.2], by rw [HST.out.1]⟩
              case measure => simp [intOf]; omega
            · have HST := Lib.hid (cw_gt h1 he)
              have ht : (N[j]?.getD 0 == mnTo N j) = false := by simpa using he
              clear he
              generalize mnTo N j = mj at *
              generalize cwTo N j = sj at *
              go_wp2
              go_round
              case rel => exact ⟨j + 1, by omega, by go_num, by rw [HST.out.2], by rw [HST.out.1]⟩
              case measure => simp [intOf]; omega
        · obtain rfl : j = q := by omega
          go_wp2
          go_ret2
          exact ⟨ret_twoE E1.out HZ.out, HB2.out⟩
  · have h2' : twoWB k L M = false := by simpa using h2
    have HZ := Lib.hid (wcode2_no h2')
    have E1 := Lib.hid (wd_no h2').2
    clear hL hM h2
    go_enter Try.func14, Try.ntmps14
    go_wp2_with fail
    refine (l04Two_calls k A n c L B m d M _ HL.out hn hI HM.out hm hJ).mono ?_
    rintro e w' ⟨rfl, rfl⟩
    go_wp2
    go_ret2
    exact ⟨ret_twoE E1.out HZ.out, Below.refl _ _⟩

end Go.Proofs.Ytnfjdggiaodhmaa
