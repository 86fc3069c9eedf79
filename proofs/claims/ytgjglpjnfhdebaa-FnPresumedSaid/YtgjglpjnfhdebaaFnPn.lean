/- Contracts: the walk of the great law FnPresumed, of a code of at most 4096 bytes. -/
import Derived.Test.YtgjglpjnfhdebaaPnAll
import Derived.Test.YtgjglpjnfhdebaaDrawTw
import Derived.BigQuiet
namespace Go.Proofs.Ytgjglpjnfhdebaa
open Go.RowKit
set_option linter.unusedVariables false

set_option maxRecDepth 100000 in
set_option maxHeartbeats 40000000 in
theorem fnPresumed_core (A : Option Addr) (n c : Nat) (w : World) (hn : n ≤ 4096) (hA : By w A n) (hl : ∀ ad, A = some ad → 0 < n → ad.block < w.heap.size) :
    Calls Try.prog 3 #[.slice A n c] w fun e w' => e = .returned (.bool true) ∧ Below w.heap.size w w' := by
  have HN := Lib.hid hn
  have HA := Lib.hid hA
  have HL := Lib.hid hl
  clear hn hA hl
  go_enter Try.func3, Try.ntmps3
  go_wp2_with fail
  refine (big_no A n c _ HN.out).mono ?_
  rintro e w0 ⟨rfl, rfl⟩
  go_wp2_with fail
  refine (DrawPresumedNumber_calls A n c _ HN.out HA.out HL.out).mono ?_
  rintro e w1 ⟨p, m, rfl, hb⟩
  have HB0 := Lib.hid hb
  clear hb
  obtain ⟨N, E, E2, ST, PT, SP, d1, d2, d3, d4, d5, d6, d7, d8, d9, d10, ⟨lST, lPT, lSP⟩, hc⟩ := pn_all p m
  obtain ⟨ns, hST⟩ : ∃ k, ST.length = k := ⟨_, rfl⟩
  obtain ⟨np, hPT⟩ : ∃ k, PT.length = k := ⟨_, rfl⟩
  obtain ⟨nq, hSP⟩ : ∃ k, SP.length = k := ⟨_, rfl⟩
  rw [hSP] at d3 d4 lSP hc
  rw [hPT] at d5 d6 lPT hc
  rw [hST] at d7 d8 lST hc
  have C1 := Lib.hid d1
  have C2 := Lib.hid d2
  have C3 := Lib.hid d3
  have C4 := Lib.hid d4
  have C5 := Lib.hid d5
  have C6 := Lib.hid d6
  have C7 := Lib.hid d7
  have C8 := Lib.hid d8
  have C9 := Lib.hid d9
  have C10 := Lib.hid d10
  have HC := Lib.hid hc
  have HST := Lib.hid hST
  have HPT := Lib.hid hPT
  have HSP := Lib.hid hSP
  clear d1 d2 d3 d4 d5 d6 d7 d8 d9 d10 hc hST hPT hSP
  go_wp2_with fail
  refine (C1.out _).mono ?_
  rintro e w2 ⟨rfl, hb⟩
  have HB1 := Lib.hid (HB0.out.trans ((hb).mono HB0.out.size))
  clear HB0
  clear hb
  go_wp2_with fail
  refine (C2.out _).mono ?_
  rintro e w3 ⟨rfl, hb⟩
  have HB2 := Lib.hid (HB1.out.trans ((hb).mono HB1.out.size))
  clear HB1
  clear hb
  go_wp2_with fail
  refine (C3.out _).mono ?_
  rintro e w4 ⟨Aa, ca, rfl, hO, hb⟩
  have HB3 := Lib.hid (HB2.out.trans ((hb).mono HB2.out.size))
  clear HB2
  have Ia0 := Lib.hid hO.ints
  clear hO hb
  go_wp2_with fail
  refine (C4.out _).mono ?_
  rintro e w5 ⟨Ab, cb, rfl, hO, hb⟩
  have HB4 := Lib.hid (HB3.out.trans ((hb).mono HB3.out.size))
  have Ia1 := Lib.hid (Ia0.out.below hb)
  clear HB3 Ia0
  have Ib0 := Lib.hid hO.ints
  clear hO hb
  go_wp2_with fail
  refine (likeInts_calls Aa Ab nq ca nq cb SP SP _ HSP.out HSP.out lSP lSP Ia1.out Ib0.out).mono ?_
  rintro e w6 ⟨rfl, d, rfl⟩
  have hd : decide (SP = SP) = true := by simp
  rw [hd]
  clear hd
  have HB5 := Lib.hid (HB4.out.trans (((belowDraws (Below.refl _ _) d)).mono HB4.out.size))
  have Ia2 := Lib.hid (Ia1.out.below (belowDraws (Below.refl _ _) d))
  have Ib1 := Lib.hid (Ib0.out.below (belowDraws (Below.refl _ _) d))
  clear HB4 Ia1 Ib0
  go_wp2_with fail
  refine (C5.out _).mono ?_
  rintro e w7 ⟨Ae, ce, rfl, hO, hb⟩
  have HB6 := Lib.hid (HB5.out.trans ((hb).mono HB5.out.size))
  have Ia3 := Lib.hid (Ia2.out.below hb)
  clear HB5 Ia2
  have Ie0 := Lib.hid hO.ints
  clear hO hb
  go_wp2_with fail
  refine (C6.out _).mono ?_
  rintro e w8 ⟨Af, cf, rfl, hO, hb⟩
  have HB7 := Lib.hid (HB6.out.trans ((hb).mono HB6.out.size))
  have Ia4 := Lib.hid (Ia3.out.below hb)
  have Ie1 := Lib.hid (Ie0.out.below hb)
  clear HB6 Ia3 Ie0
  have If0 := Lib.hid hO.ints
  clear hO hb
  go_wp2_with fail
  refine (likeInts_calls Ae Af np ce np cf PT PT _ HPT.out HPT.out lPT lPT Ie1.out If0.out).mono ?_
  rintro e w9 ⟨rfl, d, rfl⟩
  have hd : decide (PT = PT) = true := by simp
  rw [hd]
  clear hd
  have HB8 := Lib.hid (HB7.out.trans (((belowDraws (Below.refl _ _) d)).mono HB7.out.size))
  have Ia5 := Lib.hid (Ia4.out.below (belowDraws (Below.refl _ _) d))
  have Ie2 := Lib.hid (Ie1.out.below (belowDraws (Below.refl _ _) d))
  have If1 := Lib.hid (If0.out.below (belowDraws (Below.refl _ _) d))
  clear HB7 Ia4 Ie1 If0
  go_wp2_with fail
  refine (C7.out _).mono ?_
  rintro e w10 ⟨Ag, cg, rfl, hO, hb⟩
  have HB9 := Lib.hid (HB8.out.trans ((hb).mono HB8.out.size))
  have Ia6 := Lib.hid (Ia5.out.below hb)
  have Ie3 := Lib.hid (Ie2.out.below hb)
  clear HB8 Ia5 Ie2
  have Ig0 := Lib.hid hO.ints
  clear hO hb
  go_wp2_with fail
  refine (C8.out _).mono ?_
  rintro e w11 ⟨Ah, ch, rfl, hO, hb⟩
  have HB10 := Lib.hid (HB9.out.trans ((hb).mono HB9.out.size))
  have Ia7 := Lib.hid (Ia6.out.below hb)
  have Ie4 := Lib.hid (Ie3.out.below hb)
  have Ig1 := Lib.hid (Ig0.out.below hb)
  clear HB9 Ia6 Ie3 Ig0
  have Ih0 := Lib.hid hO.ints
  clear hO hb
  go_wp2_with fail
  refine (likeInts_calls Ag Ah ns cg ns ch ST ST _ HST.out HST.out lST lST Ig1.out Ih0.out).mono ?_
  rintro e w12 ⟨rfl, d, rfl⟩
  have hd : decide (ST = ST) = true := by simp
  rw [hd]
  clear hd
  have HB11 := Lib.hid (HB10.out.trans (((belowDraws (Below.refl _ _) d)).mono HB10.out.size))
  have Ia8 := Lib.hid (Ia7.out.below (belowDraws (Below.refl _ _) d))
  have Ie5 := Lib.hid (Ie4.out.below (belowDraws (Below.refl _ _) d))
  have Ig2 := Lib.hid (Ig1.out.below (belowDraws (Below.refl _ _) d))
  have Ih1 := Lib.hid (Ih0.out.below (belowDraws (Below.refl _ _) d))
  clear HB10 Ia7 Ie4 Ig1 Ih0
  go_wp2_with fail
  refine (C9.out _).mono ?_
  rintro e w13 ⟨rfl, hb⟩
  have HB12 := Lib.hid (HB11.out.trans ((hb).mono HB11.out.size))
  have Ia9 := Lib.hid (Ia8.out.below hb)
  have Ie6 := Lib.hid (Ie5.out.below hb)
  have Ig3 := Lib.hid (Ig2.out.below hb)
  clear HB11 Ia8 Ie5 Ig2
  clear hb
  go_wp2_with fail
  refine (C10.out _).mono ?_
  rintro e w14 ⟨rfl, hb⟩
  have HB13 := Lib.hid (HB12.out.trans ((hb).mono HB12.out.size))
  have Ia10 := Lib.hid (Ia9.out.below hb)
  have Ie7 := Lib.hid (Ie6.out.below hb)
  have Ig4 := Lib.hid (Ig3.out.below hb)
  clear HB12 Ia9 Ie6 Ig3
  clear hb
  go_wp2_with fail
  refine (DrawTowerWithin_calls A n c _ HN.out (HA.out.belowAt HL.out HB13.out) (fun ad e h => Nat.lt_of_lt_of_le (HL.out ad e h) HB13.out.size)).mono ?_
  rintro e w15 ⟨p2, m2, rfl, hm2, hb⟩
  have HB14 := Lib.hid (HB13.out.trans ((hb).mono HB13.out.size))
  have Ia11 := Lib.hid (Ia10.out.below hb)
  have Ie8 := Lib.hid (Ie7.out.below hb)
  have Ig5 := Lib.hid (Ig4.out.below hb)
  clear HB13 Ia10 Ie7 Ig4
  clear hb
  obtain ⟨V, E6, t1, t2, ht⟩ := tw_all p2 m2 hm2
  have T1 := Lib.hid t1
  have T2 := Lib.hid t2
  have HT := Lib.hid ht
  clear t1 t2 ht hm2
  go_wp2_with fail
  refine (T1.out _).mono ?_
  rintro e w16 ⟨rfl, hb⟩
  have HB15 := Lib.hid (HB14.out.trans ((hb).mono HB14.out.size))
  have Ia12 := Lib.hid (Ia11.out.below hb)
  have Ie9 := Lib.hid (Ie8.out.below hb)
  have Ig6 := Lib.hid (Ig5.out.below hb)
  clear HB14 Ia11 Ie8 Ig5
  clear hb
  go_wp2_with fail
  refine (T2.out _).mono ?_
  rintro e w17 ⟨rfl, hb⟩
  have HB16 := Lib.hid (HB15.out.trans ((hb).mono HB15.out.size))
  have Ia13 := Lib.hid (Ia12.out.below hb)
  have Ie10 := Lib.hid (Ie9.out.below hb)
  have Ig7 := Lib.hid (Ig6.out.below hb)
  clear HB15 Ia12 Ie9 Ig6
  clear hb
  clear T1 T2 C1 C2 C3 C4 C5 C6 C7 C8 C9 C10
  rcases HT.out with rfl | ⟨rfl, ⟨hv0, hv1⟩, O, ho, hom, h60⟩
  · clear HT
    rcases HC.out with ⟨rfl, y1, y2, y3, y4⟩ | ⟨rfl, rfl⟩
    · have Y1 := Lib.hid y1
      have Y2 := Lib.hid y2
      have Y3 := Lib.hid y3
      have Y4 := Lib.hid y4
      clear y1 y2 y3 y4 HC
      go_wp2_with fail
      refine (sum_calls Ae np ce PT _ HPT.out lPT Ie10.out).mono ?_
      rintro e wx ⟨rfl, rfl⟩
      rw [Y1.out]
      go_wp2_with fail
      refine (sum_calls Ag ns cg ST _ HST.out lST Ig7.out).mono ?_
      rintro e wx ⟨rfl, rfl⟩
      rw [Y2.out]
      go_wp2
      go_loopw [35] (fun i wr => ∃ j : Nat, j ≤ ns ∧ i = .int .i64 (j : Int) ∧ ∃ d, wr = w17.drewN d) (fun i _ => ns - (intOf i).toNat)
      case atStart => exact ⟨0, Nat.zero_le _, rfl, 0, rfl⟩
      case round =>
        obtain ⟨j, hj, rfl, d, rfl⟩ := hrel
        by_cases hjn : j < ns
        · obtain ⟨ad, rfl, had, hc⟩ := Ig7.out j (by rw [HST.out]; exact hjn)
          obtain ⟨q1, q2, q3⟩ := Y3.out j hjn
          have hd1 : decide (ST.getD j 0 < 1) = false := by rw [decide_eq_false_iff_not]; omega
          have hd2 : (bits .and .i64 (ST.getD j 0) (wrap64 (ST.getD j 0 - 1)) != 0) = false := by rw [q2]; rfl
          have hd2b : (bits .and .i64 (ST.getD j 0) (IntKind.i64.wrap (ST.getD j 0 - 1)) != 0) = false := by rw [IntWalk.i64_left]; exact hd2
          clear q1 q2
          by_cases hj0 : j = 0
          · subst hj0
            clear q3
            generalize ST.getD 0 0 = v at *
            have hi1 : (0 : Int) < (ns : Int) := by omega
            rw [show ((0 : Nat) : Int) = 0 from rfl]
            have hcz : w17.cell? ad = some (.int .i64 v) := by simpa [Addr.add] using hc
            go_wp2_with fail
            go_quiet (fail)
            go_wp2
            go_roundw
            case rel => exact ⟨_, hjn, by go_num, by first | exact ⟨_, rfl⟩ | exact ⟨_, World.drewN_drewN _ _ _⟩⟩
            case measure => simp [intOf]; omega
          · obtain ⟨i, hij⟩ : ∃ i, j = i + 1 := ⟨j - 1, by omega⟩
            obtain ⟨ad', e', had', hc'⟩ := Ig7.out i (by rw [HST.out]; omega)
            injection e' with e'
            subst e'
            have q4 : ST.getD i 0 ≤ ST.getD j 0 := by
              rcases q3 with q3 | q3
              · omega
              · rw [show j - 1 = i by omega] at q3
                exact q3
            have hd3 : decide (ST.getD j 0 < ST.getD i 0) = false := by rw [decide_eq_false_iff_not]; omega
            clear q3 q4
            generalize ST.getD j 0 = v at *
            generalize ST.getD i 0 = u at *
            have hi4 : (j : Int) < (ns : Int) := by omega
            have hi3 : (0 : Int) < (j : Int) := by omega
            have hi0 : (0 : Int) ≤ (j : Int) := by omega
            have hi5 : (0 : Int) ≤ (i : Int) := by omega
            have hi6 : (i : Int) < (ns : Int) := by omega
            have hi7 : (j : Int) - 1 = (i : Int) := by omega
            have hj1 : 0 < j := by omega
            have hj2 : decide (0 < j) = true := by rw [decide_eq_true_iff]; omega
            clear hij hj0
            go_wp2_with fail
            go_quiet (fail)
            go_wp2
            go_roundw
            case rel => exact ⟨_, hjn, by go_num, by first | exact ⟨_, rfl⟩ | exact ⟨_, World.drewN_drewN _ _ _⟩⟩
            case measure => simp [intOf]; omega
        · obtain rfl : j = ns := by omega
          rcases Y4.out with y | ⟨rfl, y1, y2, y3⟩
          · have hd : (E2 != 0) = true := by simpa using y
            clear y
            go_wp2_with fail
            go_quiet (fail)
            go_wp2
            go_ret
            exact ⟨rfl, belowDraws (belowDraws HB16.out _) _⟩
          · obtain ⟨ad1, rfl, had1, hc1⟩ := Ia13.out 0 (by rw [HSP.out]; exact y1)
            obtain ⟨ad2, rfl, had2, hc2⟩ := Ie10.out 0 (by rw [HPT.out]; exact y2)
            rw [y3] at hc1
            clear y3
            have hz1 : (0 : Int) < (nq : Int) := by omega
            have hz2 : (0 : Int) < (np : Int) := by omega
            generalize PT.getD 0 0 = v at *
            have hcz1 : w17.cell? ad1 = some (.int .i64 v) := by simpa [Addr.add] using hc1
            have hcz2 : w17.cell? ad2 = some (.int .i64 v) := by simpa [Addr.add] using hc2
            go_wp2_with fail
            go_quiet (fail)
            go_wp2
            go_ret
            exact ⟨ret_bool (by simp), belowDraws (belowDraws HB16.out _) _⟩
    · clear HC
      go_wp2
      go_ret
      exact ⟨rfl, HB16.out⟩
  · clear HT
    have HO := Lib.hid ho
    have H60 := Lib.hid h60
    clear ho h60
    go_wp2_with fail
    refine (HO.out _).mono ?_
    rintro e w18 ⟨rfl, hb⟩
    have HB17 := Lib.hid (HB16.out.trans ((hb).mono HB16.out.size))
    have Ia14 := Lib.hid (Ia13.out.below hb)
    have Ie11 := Lib.hid (Ie10.out.below hb)
    have Ig8 := Lib.hid (Ig7.out.below hb)
    clear HB16 Ia13 Ie10 Ig7
    clear hb
    clear HO
    have hq : ¬ m2 < O := by omega
    rcases H60.out with rfl | ⟨hv, O', ho, hlt⟩
    · clear H60
      rcases HC.out with ⟨rfl, y1, y2, y3, y4⟩ | ⟨rfl, rfl⟩
      · have Y1 := Lib.hid y1
        have Y2 := Lib.hid y2
        have Y3 := Lib.hid y3
        have Y4 := Lib.hid y4
        clear y1 y2 y3 y4 HC
        go_wp2_with fail
        refine (sum_calls Ae np ce PT _ HPT.out lPT Ie11.out).mono ?_
        rintro e wx ⟨rfl, rfl⟩
        rw [Y1.out]
        go_wp2_with fail
        refine (sum_calls Ag ns cg ST _ HST.out lST Ig8.out).mono ?_
        rintro e wx ⟨rfl, rfl⟩
        rw [Y2.out]
        go_wp2
        go_loopw [35] (fun i wr => ∃ j : Nat, j ≤ ns ∧ i = .int .i64 (j : Int) ∧ ∃ d, wr = w18.drewN d) (fun i _ => ns - (intOf i).toNat)
        case atStart => exact ⟨0, Nat.zero_le _, rfl, 0, rfl⟩
        case round =>
          obtain ⟨j, hj, rfl, d, rfl⟩ := hrel
          by_cases hjn : j < ns
          · obtain ⟨ad, rfl, had, hc⟩ := Ig8.out j (by rw [HST.out]; exact hjn)
            obtain ⟨q1, q2, q3⟩ := Y3.out j hjn
            have hd1 : decide (ST.getD j 0 < 1) = false := by rw [decide_eq_false_iff_not]; omega
            have hd2 : (bits .and .i64 (ST.getD j 0) (wrap64 (ST.getD j 0 - 1)) != 0) = false := by rw [q2]; rfl
            have hd2b : (bits .and .i64 (ST.getD j 0) (IntKind.i64.wrap (ST.getD j 0 - 1)) != 0) = false := by rw [IntWalk.i64_left]; exact hd2
            clear q1 q2
            by_cases hj0 : j = 0
            · subst hj0
              clear q3
              generalize ST.getD 0 0 = v at *
              have hi1 : (0 : Int) < (ns : Int) := by omega
              rw [show ((0 : Nat) : Int) = 0 from rfl]
              have hcz : w18.cell? ad = some (.int .i64 v) := by simpa [Addr.add] using hc
              go_wp2_with fail
              go_quiet (fail)
              go_wp2
              go_roundw
              case rel => exact ⟨_, hjn, by go_num, by first | exact ⟨_, rfl⟩ | exact ⟨_, World.drewN_drewN _ _ _⟩⟩
              case measure => simp [intOf]; omega
            · obtain ⟨i, hij⟩ : ∃ i, j = i + 1 := ⟨j - 1, by omega⟩
              obtain ⟨ad', e', had', hc'⟩ := Ig8.out i (by rw [HST.out]; omega)
              injection e' with e'
              subst e'
              have q4 : ST.getD i 0 ≤ ST.getD j 0 := by
                rcases q3 with q3 | q3
                · omega
                · rw [show j - 1 = i by omega] at q3
                  exact q3
              have hd3 : decide (ST.getD j 0 < ST.getD i 0) = false := by rw [decide_eq_false_iff_not]; omega
              clear q3 q4
              generalize ST.getD j 0 = v at *
              generalize ST.getD i 0 = u at *
              have hi4 : (j : Int) < (ns : Int) := by omega
              have hi3 : (0 : Int) < (j : Int) := by omega
              have hi0 : (0 : Int) ≤ (j : Int) := by omega
              have hi5 : (0 : Int) ≤ (i : Int) := by omega
              have hi6 : (i : Int) < (ns : Int) := by omega
              have hi7 : (j : Int) - 1 = (i : Int) := by omega
              have hj1 : 0 < j := by omega
              have hj2 : decide (0 < j) = true := by rw [decide_eq_true_iff]; omega
              clear hij hj0
              go_wp2_with fail
              go_quiet (fail)
              go_wp2
              go_roundw
              case rel => exact ⟨_, hjn, by go_num, by first | exact ⟨_, rfl⟩ | exact ⟨_, World.drewN_drewN _ _ _⟩⟩
              case measure => simp [intOf]; omega
          · obtain rfl : j = ns := by omega
            rcases Y4.out with y | ⟨rfl, y1, y2, y3⟩
            · have hd : (E2 != 0) = true := by simpa using y
              clear y
              go_wp2_with fail
              go_quiet (fail)
              go_wp2
              go_ret
              exact ⟨rfl, belowDraws (belowDraws HB17.out _) _⟩
            · obtain ⟨ad1, rfl, had1, hc1⟩ := Ia14.out 0 (by rw [HSP.out]; exact y1)
              obtain ⟨ad2, rfl, had2, hc2⟩ := Ie11.out 0 (by rw [HPT.out]; exact y2)
              rw [y3] at hc1
              clear y3
              have hz1 : (0 : Int) < (nq : Int) := by omega
              have hz2 : (0 : Int) < (np : Int) := by omega
              generalize PT.getD 0 0 = v at *
              have hcz1 : w18.cell? ad1 = some (.int .i64 v) := by simpa [Addr.add] using hc1
              have hcz2 : w18.cell? ad2 = some (.int .i64 v) := by simpa [Addr.add] using hc2
              go_wp2_with fail
              go_quiet (fail)
              go_wp2
              go_ret
              exact ⟨ret_bool (by simp), belowDraws (belowDraws HB17.out _) _⟩
      · clear HC
        go_wp2
        go_ret
        exact ⟨rfl, HB17.out⟩
    · have HO := Lib.hid ho
      clear ho H60
      have hq2 : ¬ O' ≤ m2 := by omega
      go_wp2_with fail
      refine (HO.out _).mono ?_
      rintro e w19 ⟨rfl, hb⟩
      have HB18 := Lib.hid (HB17.out.trans ((hb).mono HB17.out.size))
      have Ia15 := Lib.hid (Ia14.out.below hb)
      have Ie12 := Lib.hid (Ie11.out.below hb)
      have Ig9 := Lib.hid (Ig8.out.below hb)
      clear HB17 Ia14 Ie11 Ig8
      clear hb
      clear HO
      rcases HC.out with ⟨rfl, y1, y2, y3, y4⟩ | ⟨rfl, rfl⟩
      · have Y1 := Lib.hid y1
        have Y2 := Lib.hid y2
        have Y3 := Lib.hid y3
        have Y4 := Lib.hid y4
        clear y1 y2 y3 y4 HC
        go_wp2_with fail
        refine (sum_calls Ae np ce PT _ HPT.out lPT Ie12.out).mono ?_
        rintro e wx ⟨rfl, rfl⟩
        rw [Y1.out]
        go_wp2_with fail
        refine (sum_calls Ag ns cg ST _ HST.out lST Ig9.out).mono ?_
        rintro e wx ⟨rfl, rfl⟩
        rw [Y2.out]
        go_wp2
        go_loopw [35] (fun i wr => ∃ j : Nat, j ≤ ns ∧ i = .int .i64 (j : Int) ∧ ∃ d, wr = w19.drewN d) (fun i _ => ns - (intOf i).toNat)
        case atStart => exact ⟨0, Nat.zero_le _, rfl, 0, rfl⟩
        case round =>
          obtain ⟨j, hj, rfl, d, rfl⟩ := hrel
          by_cases hjn : j < ns
          · obtain ⟨ad, rfl, had, hc⟩ := Ig9.out j (by rw [HST.out]; exact hjn)
            obtain ⟨q1, q2, q3⟩ := Y3.out j hjn
            have hd1 : decide (ST.getD j 0 < 1) = false := by rw [decide_eq_false_iff_not]; omega
            have hd2 : (bits .and .i64 (ST.getD j 0) (wrap64 (ST.getD j 0 - 1)) != 0) = false := by rw [q2]; rfl
            have hd2b : (bits .and .i64 (ST.getD j 0) (IntKind.i64.wrap (ST.getD j 0 - 1)) != 0) = false := by rw [IntWalk.i64_left]; exact hd2
            clear q1 q2
            by_cases hj0 : j = 0
            · subst hj0
              clear q3
              generalize ST.getD 0 0 = v at *
              have hi1 : (0 : Int) < (ns : Int) := by omega
              rw [show ((0 : Nat) : Int) = 0 from rfl]
              have hcz : w19.cell? ad = some (.int .i64 v) := by simpa [Addr.add] using hc
              go_wp2_with fail
              go_quiet (fail)
              go_wp2
              go_roundw
              case rel => exact ⟨_, hjn, by go_num, by first | exact ⟨_, rfl⟩ | exact ⟨_, World.drewN_drewN _ _ _⟩⟩
              case measure => simp [intOf]; omega
            · obtain ⟨i, hij⟩ : ∃ i, j = i + 1 := ⟨j - 1, by omega⟩
              obtain ⟨ad', e', had', hc'⟩ := Ig9.out i (by rw [HST.out]; omega)
              injection e' with e'
              subst e'
              have q4 : ST.getD i 0 ≤ ST.getD j 0 := by
                rcases q3 with q3 | q3
                · omega
                · rw [show j - 1 = i by omega] at q3
                  exact q3
              have hd3 : decide (ST.getD j 0 < ST.getD i 0) = false := by rw [decide_eq_false_iff_not]; omega
              clear q3 q4
              generalize ST.getD j 0 = v at *
              generalize ST.getD i 0 = u at *
              have hi4 : (j : Int) < (ns : Int) := by omega
              have hi3 : (0 : Int) < (j : Int) := by omega
              have hi0 : (0 : Int) ≤ (j : Int) := by omega
              have hi5 : (0 : Int) ≤ (i : Int) := by omega
              have hi6 : (i : Int) < (ns : Int) := by omega
              have hi7 : (j : Int) - 1 = (i : Int) := by omega
              have hj1 : 0 < j := by omega
              have hj2 : decide (0 < j) = true := by rw [decide_eq_true_iff]; omega
              clear hij hj0
              go_wp2_with fail
              go_quiet (fail)
              go_wp2
              go_roundw
              case rel => exact ⟨_, hjn, by go_num, by first | exact ⟨_, rfl⟩ | exact ⟨_, World.drewN_drewN _ _ _⟩⟩
              case measure => simp [intOf]; omega
          · obtain rfl : j = ns := by omega
            rcases Y4.out with y | ⟨rfl, y1, y2, y3⟩
            · have hd : (E2 != 0) = true := by simpa using y
              clear y
              go_wp2_with fail
              go_quiet (fail)
              go_wp2
              go_ret
              exact ⟨rfl, belowDraws (belowDraws HB18.out _) _⟩
            · obtain ⟨ad1, rfl, had1, hc1⟩ := Ia15.out 0 (by rw [HSP.out]; exact y1)
              obtain ⟨ad2, rfl, had2, hc2⟩ := Ie12.out 0 (by rw [HPT.out]; exact y2)
              rw [y3] at hc1
              clear y3
              have hz1 : (0 : Int) < (nq : Int) := by omega
              have hz2 : (0 : Int) < (np : Int) := by omega
              generalize PT.getD 0 0 = v at *
              have hcz1 : w19.cell? ad1 = some (.int .i64 v) := by simpa [Addr.add] using hc1
              have hcz2 : w19.cell? ad2 = some (.int .i64 v) := by simpa [Addr.add] using hc2
              go_wp2_with fail
              go_quiet (fail)
              go_wp2
              go_ret
              exact ⟨ret_bool (by simp), belowDraws (belowDraws HB18.out _) _⟩
      · clear HC
        go_wp2
        go_ret
        exact ⟨rfl, HB18.out⟩

end Go.Proofs.Ytgjglpjnfhdebaa
