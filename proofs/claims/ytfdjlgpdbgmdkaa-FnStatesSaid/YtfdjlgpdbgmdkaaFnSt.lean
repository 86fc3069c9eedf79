/- Contracts: the walk of the great law FnStates, of a code of at most 4096 bytes. -/
import Derived.Test.YtfdjlgpdbgmdkaaSsA
import Derived.Test.YtfdjlgpdbgmdkaaDrawSs
import Derived.Test.YtfdjlgpdbgmdkaaGreat
import Derived.BigQuiet
import Derived.IntWalk
import Derived.Deep.RegionHeld3
import Derived.Deep.Cut
namespace Go.Proofs.Ytfdjlgpdbgmdkaa
open Go.RowKit
set_option linter.unusedVariables false

set_option maxRecDepth 100000 in
set_option maxHeartbeats 40000000 in
theorem fnStates_core (A : Option Addr) (n c : Nat) (w : World) (hn : n ≤ 4096) (hA : By w A n) (hl : ∀ ad, A = some ad → 0 < n → ad.block < w.heap.size) :
    Calls Try.prog 3 #[.slice A n c] w fun e w' => e = .returned (.bool true) ∧ Below w.heap.size w w' := by
  have HN := Lib.hid hn
  have HA0 := Lib.hid hA
  have HL := Lib.hid hl
  have HB0 := Lib.hid (Below.refl w.heap.size w)
  clear hn hA hl
  go_enter Try.func3, Try.ntmps3
  go_wp2_with fail
  refine (big_no A n c _ HN.out).mono ?_
  rintro e w0 ⟨rfl, rfl⟩
  go_wp2_with fail
  refine (DrawRankOf_ret A n c _ HN.out HA0.out (fun ad e h => Nat.lt_of_lt_of_le (HL.out ad e h) HB0.out.size)).mono ?_
  rintro e w1 ⟨p, B, m, d, L, rfl, hO, hm, hb⟩
  have HB1 := Lib.hid (HB0.out.trans ((hb).mono HB0.out.size))
  have HA1 := Lib.hid (HA0.out.below hb)
  clear HB0 HA0
  have W0 := Lib.hid (hO.ints)
  clear hb
  have hal : Below w1.heap.size w1 (w1.alloc (.cells #[.int .i64 p, .slice B m d] 26)) := (Below.refl _ _).alloc (Nat.le_refl _) _
  have hbx := Box.new w1 26 #[.int .i64 p, .slice B m d]
  have HB2 := Lib.hid (HB1.out.trans ((hal).mono HB1.out.size))
  have HA2 := Lib.hid (HA1.out.below hal)
  have W1 := Lib.hid (W0.out.below hal)
  clear HB1 HA1 W0
  have D0 := Lib.hid (hbx)
  clear hal hbx
  have HLL := Lib.hid (Own.len hO)
  clear hO
  obtain ⟨rk, E, bb, LL, g1, g2, g3, g4, hgood⟩ := ss_all p L m HLL.out hm
  have C1 := Lib.hid g1
  have C2 := Lib.hid g2
  have C3 := Lib.hid g3
  have C4 := Lib.hid g4
  have HGD := Lib.hid hgood
  clear g1 g2 g3 g4 hgood
  obtain ⟨xa0, xb0, _, _⟩ := D0.out.two
  go_wp2_with fail
  refine (C1.out B d _ W1.out).mono ?_
  rintro e w2 ⟨rfl, hb⟩
  clear xa0 xb0
  have HB3 := Lib.hid (HB2.out.trans ((hb).mono HB2.out.size))
  have HA3 := Lib.hid (HA2.out.below hb)
  have W2 := Lib.hid (W1.out.below hb)
  have D1 := Lib.hid (D0.out.below hb D0.out.lt)
  clear HB2 HA2 W1 D0
  clear hb
  obtain ⟨xa0, xb0, _, _⟩ := D1.out.two
  go_wp2_with fail
  refine (C2.out B d _ W2.out).mono ?_
  rintro e w3 ⟨rfl, hb⟩
  clear xa0 xb0
  have HB4 := Lib.hid (HB3.out.trans ((hb).mono HB3.out.size))
  have HA4 := Lib.hid (HA3.out.below hb)
  have W3 := Lib.hid (W2.out.below hb)
  have D2 := Lib.hid (D1.out.below hb D1.out.lt)
  clear HB3 HA3 W2 D1
  clear hb
  clear C1 C2
  have D7 := D2
  have W7 := W3
  obtain ⟨x0, x1, _, _⟩ := D7.out.two
  have zd := D7.out.lt
  go_wp2_with fail
  go_region_held3 (fun w' => w'.cell? ⟨w1.heap.size, 0, none⟩ = some (.int .i64 p) ∧ w'.cell? ⟨w1.heap.size, 1, none⟩ = some (.slice B m d))
    (first | exact ⟨x0, x1⟩ | exact ⟨D8.out.two.1, D8.out.two.2.1⟩ | exact ⟨D9.out.two.1, D9.out.two.2.1⟩ | go_keep)
    (first
    | (go_at_call 8; refine (C3.out B d _ ?_).mono ?_; (exact W7.out); rintro e w8 ⟨rfl, hb8⟩; have D8 := Lib.hid (Box.below D7.out (undrew hb8) zd); have W8 := Lib.hid (Ints.below W7.out (undrew hb8)))
    | (go_at_call 9; refine (C4.out B d _ ?_).mono ?_; (exact W8.out); rintro e w9 ⟨rfl, hb9⟩; have D9 := Lib.hid (Box.below D8.out hb9 (Box.lt D8.out))))
  clear D8 D9 D7 W7 W8 x0 x1 zd
  have HB5 := Lib.hid (HB4.out.trans (((undrew hb8)).mono HB4.out.size))
  have HA5 := Lib.hid (HA4.out.below (undrew hb8))
  have W4 := Lib.hid (W3.out.below (undrew hb8))
  have D3 := Lib.hid (D2.out.below (undrew hb8) D2.out.lt)
  clear HB4 HA4 W3 D2
  have HB6 := Lib.hid (HB5.out.trans ((hb9).mono HB5.out.size))
  have HA6 := Lib.hid (HA5.out.below hb9)
  have W5 := Lib.hid (W4.out.below hb9)
  have D4 := Lib.hid (D3.out.below hb9 D3.out.lt)
  clear HB5 HA5 W4 D3
  clear hb8 hb9 C3 C4
  generalize bb = bq at *
  go_upto_if 102 with (fail)
  skip
  go_cut [] from 72 (fun wc => Below w9.heap.size w9 wc)
  case first =>
    as_aux_lemma =>
      have LB0 := Lib.hid (Below.refl w9.heap.size w9)
      rcases HGD.out with hE | ⟨rfl, hg⟩
      · have hd : (E == 0) = false := by simpa using hE
        go_wp2
        go_meet
        case rel => exact LB0.out
      · obtain ⟨tx, q, cn, rfl, ⟨hLq, hq5⟩, g1, g2, g3, g4, g5, g6, g7, g8⟩ := hg
        clear HGD
        have HLq := Lib.hid hLq
        have T1 := Lib.hid g1
        have T2 := Lib.hid g2
        have T3 := Lib.hid g3
        have T4 := Lib.hid g4
        have T5 := Lib.hid g5
        have T6 := Lib.hid g6
        have T7 := Lib.hid g7
        have T8 := Lib.hid g8
        clear hLq g1 g2 g3 g4 g5 g6 g7 g8
        have hbd := HLL.out
        obtain ⟨xa0, xb0, _, _⟩ := D4.out.two
        go_wp2_with fail
        refine (T1.out _).mono ?_
        rintro e w10 ⟨A1, c1, rfl, hO, hb⟩
        clear xa0 xb0
        have HB7 := Lib.hid (HB6.out.trans ((hb).mono HB6.out.size))
        have HA7 := Lib.hid (HA6.out.below hb)
        have W6 := Lib.hid (W5.out.below hb)
        have D5 := Lib.hid (D4.out.below hb D4.out.lt)
        have LB1 := Lib.hid (LB0.out.trans ((hb).mono LB0.out.size))
        clear HB6 HA6 W5 D4 LB0
        have WA0 := Lib.hid (hO.ints)
        clear hb
        have hal : Below w10.heap.size w10 (w10.alloc (.cells #[.int .i64 q, .slice A1 m c1] 26)) := (Below.refl _ _).alloc (Nat.le_refl _) _
        have hbx := Box.new w10 26 #[.int .i64 q, .slice A1 m c1]
        have HB8 := Lib.hid (HB7.out.trans ((hal).mono HB7.out.size))
        have HA8 := Lib.hid (HA7.out.below hal)
        have W7 := Lib.hid (W6.out.below hal)
        have D6 := Lib.hid (D5.out.below hal D5.out.lt)
        have LB2 := Lib.hid (LB1.out.trans ((hal).mono LB1.out.size))
        have WA1 := Lib.hid (WA0.out.below hal)
        clear HB7 HA7 W6 D5 LB1 WA0
        have DA0 := Lib.hid (hbx)
        clear hal hbx
        clear hO
        obtain ⟨xa0, xb0, _, _⟩ := D6.out.two
        go_wp2_with fail
        refine (T2.out B d _ W7.out).mono ?_
        rintro e w11 ⟨rfl, hb⟩
        clear xa0 xb0
        have HB9 := Lib.hid (HB8.out.trans ((hb).mono HB8.out.size))
        have HA9 := Lib.hid (HA8.out.below hb)
        have W8 := Lib.hid (W7.out.below hb)
        have D7 := Lib.hid (D6.out.below hb D6.out.lt)
        have LB3 := Lib.hid (LB2.out.trans ((hb).mono LB2.out.size))
        have WA2 := Lib.hid (WA1.out.below hb)
        have DA1 := Lib.hid (DA0.out.below hb DA0.out.lt)
        clear HB8 HA8 W7 D6 LB2 WA1 DA0
        clear hb
        go_wp2_with fail
        refine (T3.out _).mono ?_
        rintro e w12 ⟨A2, c2, rfl, hO, hb⟩
        have HB10 := Lib.hid (HB9.out.trans ((hb).mono HB9.out.size))
        have HA10 := Lib.hid (HA9.out.below hb)
        have W9 := Lib.hid (W8.out.below hb)
        have D8 := Lib.hid (D7.out.below hb D7.out.lt)
        have LB4 := Lib.hid (LB3.out.trans ((hb).mono LB3.out.size))
        have WA3 := Lib.hid (WA2.out.below hb)
        have DA2 := Lib.hid (DA1.out.below hb DA1.out.lt)
        clear HB9 HA9 W8 D7 LB3 WA2 DA1
        have WB0 := Lib.hid (hO.ints)
        clear hb
        have hal : Below w12.heap.size w12 (w12.alloc (.cells #[.int .i64 q, .slice A2 m c2] 26)) := (Below.refl _ _).alloc (Nat.le_refl _) _
        have hbx := Box.new w12 26 #[.int .i64 q, .slice A2 m c2]
        have HB11 := Lib.hid (HB10.out.trans ((hal).mono HB10.out.size))
        have HA11 := Lib.hid (HA10.out.below hal)
        have W10 := Lib.hid (W9.out.below hal)
        have D9 := Lib.hid (D8.out.below hal D8.out.lt)
        have LB5 := Lib.hid (LB4.out.trans ((hal).mono LB4.out.size))
        have WA4 := Lib.hid (WA3.out.below hal)
        have DA3 := Lib.hid (DA2.out.below hal DA2.out.lt)
        have WB1 := Lib.hid (WB0.out.below hal)
        clear HB10 HA10 W9 D8 LB4 WA3 DA2 WB0
        have DB0 := Lib.hid (hbx)
        clear hal hbx
        clear hO
        obtain ⟨xa0, xb0, _, _⟩ := D9.out.two
        go_wp2_with fail
        refine (T4.out B d _ W10.out).mono ?_
        rintro e w13 ⟨A3, n3, c3, rs, rfl, hI, hl, hL, hs, hb⟩
        clear xa0 xb0
        have HB12 := Lib.hid (HB11.out.trans ((hb).mono HB11.out.size))
        have HA12 := Lib.hid (HA11.out.below hb)
        have W11 := Lib.hid (W10.out.below hb)
        have D10 := Lib.hid (D9.out.below hb D9.out.lt)
        have LB6 := Lib.hid (LB5.out.trans ((hb).mono LB5.out.size))
        have WA5 := Lib.hid (WA4.out.below hb)
        have DA4 := Lib.hid (DA3.out.below hb DA3.out.lt)
        have WB2 := Lib.hid (WB1.out.below hb)
        have DB1 := Lib.hid (DB0.out.below hb DB0.out.lt)
        clear HB11 HA11 W10 D9 LB5 WA4 DA3 WB1 DB0
        have K0 := Lib.hid (hI)
        clear hb
        have Hl := Lib.hid hl
        have HL3 := Lib.hid hL
        have Hs := Lib.hid hs
        clear hl hL hs
        clear hI T1 T2 T3 T4
        obtain ⟨xa0, xb0, _, _⟩ := DA4.out.two
        obtain ⟨xa1, xb1, _, _⟩ := D10.out.two
        go_wp2_with fail
        refine (states5_same A1 B m c1 d q L _ HLL.out (by omega) WA5.out W11.out).mono ?_
        rintro e w14 ⟨rfl, hb⟩
        clear xa0 xb0 xa1 xb1
        have HB13 := Lib.hid (HB12.out.trans ((hb).mono HB12.out.size))
        have HA13 := Lib.hid (HA12.out.below hb)
        have W12 := Lib.hid (W11.out.below hb)
        have D11 := Lib.hid (D10.out.below hb D10.out.lt)
        have LB7 := Lib.hid (LB6.out.trans ((hb).mono LB6.out.size))
        have WA6 := Lib.hid (WA5.out.below hb)
        have DA5 := Lib.hid (DA4.out.below hb DA4.out.lt)
        have WB3 := Lib.hid (WB2.out.below hb)
        have DB2 := Lib.hid (DB1.out.below hb DB1.out.lt)
        have K1 := Lib.hid (K0.out.below hb)
        clear HB12 HA12 W11 D10 LB6 WA5 DA4 WB2 DB1 K0
        clear hb
        clear DA5
        clear WA6
        obtain ⟨xa0, xb0, _, _⟩ := DB2.out.two
        obtain ⟨xa1, xb1, _, _⟩ := D11.out.two
        go_wp2_with fail
        refine (states5_same A2 B m c2 d q L _ HLL.out (by omega) WB3.out W12.out).mono ?_
        rintro e w15 ⟨rfl, hb⟩
        clear xa0 xb0 xa1 xb1
        have HB14 := Lib.hid (HB13.out.trans ((hb).mono HB13.out.size))
        have HA14 := Lib.hid (HA13.out.below hb)
        have W13 := Lib.hid (W12.out.below hb)
        have D12 := Lib.hid (D11.out.below hb D11.out.lt)
        have LB8 := Lib.hid (LB7.out.trans ((hb).mono LB7.out.size))
        have WB4 := Lib.hid (WB3.out.below hb)
        have DB3 := Lib.hid (DB2.out.below hb DB2.out.lt)
        have K2 := Lib.hid (K1.out.below hb)
        clear HB13 HA13 W12 D11 LB7 WB3 DB2 K1
        clear hb
        clear DB3
        clear WB4
        have hn3 : n3 = q := by rw [← Hl.out, ← LL_len rs, HL3.out, HLq.out]
        subst hn3
        obtain ⟨xa0, xb0, _, _⟩ := D12.out.two
        have t5 := T5.out
        go_wp2
        clear xa0 xb0 t5
        go_loopw [16, 17] (fun cc i wr => ∃ j : Nat, j ≤ n3 ∧ i = .int .i64 j ∧ cc = .int .i64 (cn j : Nat) ∧ Below w15.heap.size w15 wr) (fun _ i _ => n3 - (intOf i).toNat)
        case atStart => exact ⟨0, Nat.zero_le _, rfl, by rw [T5.out]; rfl, Below.refl _ _⟩
        case round =>
          obtain ⟨j, hj, rfl, rfl, hbl⟩ := hrel
          have HB15 := Lib.hid (HB14.out.trans ((hbl).mono HB14.out.size))
          have HA15 := Lib.hid (HA14.out.below hbl)
          have W14 := Lib.hid (W13.out.below hbl)
          have D13 := Lib.hid (D12.out.below hbl D12.out.lt)
          have LB9 := Lib.hid (LB8.out.trans ((hbl).mono LB8.out.size))
          have K3 := Lib.hid (K2.out.below hbl)
          clear HB14 HA14 W13 D12 LB8 K2
          have LC0 := Lib.hid (hbl)
          clear hbl
          by_cases hjl : j < n3
          · obtain ⟨R, hR, hcn, hR10, hcase⟩ := T8.out j hjl
            have hcj := T7.out j hj
            obtain ⟨r, hr⟩ := get_of_lt (rs := rs) (k := j) (by rw [Hl.out]; exact hjl)
            have hrL := LL_at hr
            rw [HL3.out, hR] at hrL
            obtain ⟨ad, rfl, _, hcell, hrn, hri⟩ := K3.out j r hr
            obtain ⟨rA, rn, rc, rdd, rL⟩ := r
            obtain rfl : R = rL := Option.some.inj hrL
            change _ = some (Value.slice rA rn rc) at hcell
            change R.length = rn at hrn
            have RI0 := Lib.hid ((show Ints wr rA R from hri))
            have hrn10 : rn ≤ 10 := by rw [← hrn]; exact hR10
            have HR0 := Lib.hid hr
            have HCN := Lib.hid hcn
            have HRN := Lib.hid hrn
            have HCS := Lib.hid hcase
            clear hrL hr hri hR hcn hcase
            have hi0 : (0 : Int) ≤ (j : Int) := by omega
            have hi1 : (j : Int) < (n3 : Int) := by omega
            have hw1 : IntKind.i64.wrap ((cn j : Int) + (rn : Int)) = (cn (j + 1) : Nat) := by rw [HCN.out, HRN.out]; exact (IntWalk.i64_in _ (by omega)).trans (by omega)
            have hw2 : wrap64 ((cn j : Int) + (rn : Int)) = (cn (j + 1) : Nat) := by rw [HCN.out, HRN.out]; exact (IntWalk.wrap64_in _ (by omega)).trans (by omega)
            clear hrn
            rcases HCS.out with ⟨h0, v, hT⟩ | ⟨M, x, h0, hT⟩
            · have HT := Lib.hid hT
              have H0 := Lib.hid h0
              clear hT h0 HCS
              obtain rfl : rn = 0 := by rw [← HRN.out, H0.out]; rfl
              skip
              obtain ⟨xa0, xb0, _, _⟩ := D13.out.two
              go_wp2_with fail
              refine (HT.out B d _ W14.out).mono ?_
              rintro e w16 ⟨rfl, hb⟩
              clear xa0 xb0
              have HB16 := Lib.hid (HB15.out.trans ((hb).mono HB15.out.size))
              have HA16 := Lib.hid (HA15.out.below hb)
              have W15 := Lib.hid (W14.out.below hb)
              have D14 := Lib.hid (D13.out.below hb D13.out.lt)
              have LB10 := Lib.hid (LB9.out.trans ((hb).mono LB9.out.size))
              have K4 := Lib.hid (K3.out.below hb)
              have LC1 := Lib.hid (LC0.out.trans ((hb).mono LC0.out.size))
              have RI1 := Lib.hid (RI0.out.below hb)
              clear HB15 HA15 W14 D13 LB9 K3 LC0 RI0
              clear hb
              clear hcell hw1 hw2
              obtain ⟨ad1, hA1, _, hcell, _⟩ := K4.out j _ HR0.out
              obtain rfl : ad = ad1 := Option.some.inj hA1
              change _ = some (Value.slice rA 0 rc) at hcell
              clear hA1
              skip
              go_wp2_with fail
              go_quiet (fail)
              go_wp2
              go_roundw
              case rel => exact ⟨j + 1, by omega, by go_num, by rw [HCN.out, H0.out]; rfl, belowDraws LC1.out _⟩
              case measure => simp [intOf]; omega
            · have HT := Lib.hid hT
              have H0 := Lib.hid h0
              clear hT h0 HCS
              obtain ⟨k, hk⟩ : ∃ k, k + 1 = rn := ⟨M.length, by rw [← HRN.out, H0.out]; simp⟩
              have hwk1 : IntKind.i64.wrap ((rn : Int) - 1) = (k : Nat) := (IntWalk.i64_in _ (by omega)).trans (by omega)
              have hwk2 : wrap64 ((rn : Int) - 1) = (k : Nat) := (IntWalk.wrap64_in _ (by omega)).trans (by omega)
              have e1 : k = M.length := by (have h2 := HRN.out; rw [H0.out, List.length_append, List.length_singleton] at h2; omega)
              have HX : Hid (R.getD k 0 = x) := by unfold Hid; rw [H0.out, e1, List.getD_eq_getElem?_getD]; simp
              clear e1
              have hrp : (0 : Int) < (rn : Int) := by omega
              have hre : ((rn : Int) == 0) = false := by simp; omega
              have hre3 : decide ((rn : Int) = 0) = false := by simp; omega
              have hre4 : decide (rn = 0) = false := by simp; omega
              have hrd1 : decide ((0 : Int) < (rn : Int)) = true := by simp; omega
              have hrd2 : decide (0 < rn) = true := by simp; omega
              have hk0 : (0 : Int) ≤ (k : Int) := by omega
              have hk1 : (k : Int) < (rn : Int) := by omega
              have HK := Lib.hid hk
              have hkr : k < rn := by omega
              clear hk
              skip
              obtain ⟨xa0, xb0, _, _⟩ := D13.out.two
              go_wp2_with fail
              refine (HT.out B d _ W14.out).mono ?_
              rintro e w16 ⟨rfl, hb⟩
              clear xa0 xb0
              have HB16 := Lib.hid (HB15.out.trans ((hb).mono HB15.out.size))
              have HA16 := Lib.hid (HA15.out.below hb)
              have W15 := Lib.hid (W14.out.below hb)
              have D14 := Lib.hid (D13.out.below hb D13.out.lt)
              have LB10 := Lib.hid (LB9.out.trans ((hb).mono LB9.out.size))
              have K4 := Lib.hid (K3.out.below hb)
              have LC1 := Lib.hid (LC0.out.trans ((hb).mono LC0.out.size))
              have RI1 := Lib.hid (RI0.out.below hb)
              clear HB15 HA15 W14 D13 LB9 K3 LC0 RI0
              clear hb
              clear hcell hw1 hw2
              obtain ⟨ad1, hA1, _, hcell, _⟩ := K4.out j _ HR0.out
              obtain rfl : ad = ad1 := Option.some.inj hA1
              change _ = some (Value.slice rA rn rc) at hcell
              clear hA1
              skip
              obtain ⟨ad2, rfl, _, hcx⟩ := RI1.out k (by rw [HRN.out]; exact hkr)
              rw [HX.out] at hcx
              go_wp2_with fail
              go_quiet (fail)
              go_wp2
              go_roundw
              case rel => exact ⟨j + 1, by omega, by go_num, rfl, belowDraws LC1.out _⟩
              case measure => simp [intOf]; omega
          · obtain rfl : j = n3 := by omega
            have t6 := T6.out
            obtain ⟨xa0, xb0, _, _⟩ := D13.out.two
            rw [t6]
            go_wp2
            go_meet
            case rel => exact LB9.out
  case rest =>
    as_aux_lemma =>
      obtain ⟨w10, hwc⟩ : ∃ x, x = wc := ⟨wc, rfl⟩
      subst hwc
      have HB7 := Lib.hid (HB6.out.trans ((hcut).mono HB6.out.size))
      have HA7 := Lib.hid (HA6.out.below hcut)
      have W6 := Lib.hid (W5.out.below hcut)
      have D5 := Lib.hid (D4.out.below hcut D4.out.lt)
      clear HB6 HA6 W5 D4
      clear hcut
      clear HGD HLL
      clear D5
      clear W6
      go_wp2_with fail
      refine (DrawRenamePegs_ret A n c _ HN.out HA7.out (fun ad e h => Nat.lt_of_lt_of_le (HL.out ad e h) HB7.out.size)).mono ?_
      rintro e w11 ⟨p2, A2, m2, c2, L2, B2, q2, d2, P2, rfl, hO, hm2, hP, hq2, hb⟩
      have HB8 := Lib.hid (HB7.out.trans ((hb).mono HB7.out.size))
      have HA8 := Lib.hid (HA7.out.below hb)
      clear HB7 HA7
      have WY0 := Lib.hid (hO.ints)
      have WP0 := Lib.hid (hP.ints)
      clear hb
      have hal : Below w11.heap.size w11 (w11.alloc (.cells #[.int .i64 p2, .slice A2 m2 c2] 26)) := (Below.refl _ _).alloc (Nat.le_refl _) _
      have hbx := Box.new w11 26 #[.int .i64 p2, .slice A2 m2 c2]
      have HB9 := Lib.hid (HB8.out.trans ((hal).mono HB8.out.size))
      have HA9 := Lib.hid (HA8.out.below hal)
      have WY1 := Lib.hid (WY0.out.below hal)
      have WP1 := Lib.hid (WP0.out.below hal)
      clear HB8 HA8 WY0 WP0
      have Y0 := Lib.hid (hbx)
      clear hal hbx
      have hcap := OwnG.cap hO
      obtain ⟨P', R, k, E2, hRk, hk, g1, g2, hgood⟩ := rn_allS p2 L2 m2 P2 q2 (Own.len hO) hm2 (Own.len hP) hq2
      clear hO hP
      have hcapY : m2 ≤ c2 ∧ c2 ≤ 9223372036854775807 := by have h := hcap; unfold maxLen at h; omega
      clear hcap
      have G1 := Lib.hid g1
      have G2 := Lib.hid g2
      have HGE := Lib.hid hgood
      have HRk := Lib.hid hRk
      clear g1 g2 hgood hRk
      obtain ⟨xa0, xb0, _, _⟩ := Y0.out.two
      go_wp2_with fail
      refine (G1.out A2 c2 B2 d2 _ WY1.out WP1.out).mono ?_
      rintro e w12 ⟨A6, c6, rfl, hO, hb⟩
      clear xa0 xb0
      have HB10 := Lib.hid (HB9.out.trans ((hb).mono HB9.out.size))
      have HA10 := Lib.hid (HA9.out.below hb)
      have WY2 := Lib.hid (WY1.out.below hb)
      have WP2 := Lib.hid (WP1.out.below hb)
      have Y1 := Lib.hid (Y0.out.below hb Y0.out.lt)
      clear HB9 HA9 WY1 WP1 Y0
      have WZ0 := Lib.hid (hO.ints)
      clear hb
      have hal : Below w12.heap.size w12 (w12.alloc (.cells #[.int .i64 P', .slice A6 k c6] 26)) := (Below.refl _ _).alloc (Nat.le_refl _) _
      have hbx := Box.new w12 26 #[.int .i64 P', .slice A6 k c6]
      have HB11 := Lib.hid (HB10.out.trans ((hal).mono HB10.out.size))
      have HA11 := Lib.hid (HA10.out.below hal)
      have WY3 := Lib.hid (WY2.out.below hal)
      have WP3 := Lib.hid (WP2.out.below hal)
      have Y2 := Lib.hid (Y1.out.below hal Y1.out.lt)
      have WZ1 := Lib.hid (WZ0.out.below hal)
      clear HB10 HA10 WY2 WP2 Y1 WZ0
      have Z0 := Lib.hid (hbx)
      clear hal hbx
      have hcap := OwnG.cap hO
      have hcapZ : k ≤ c6 ∧ c6 ≤ 9223372036854775807 := by have h := hcap; unfold maxLen at h; omega
      clear hcap
      clear hO
      obtain ⟨xa0, xb0, _, _⟩ := Y2.out.two
      go_wp2_with fail
      refine (G2.out A2 c2 B2 d2 _ WY3.out WP3.out).mono ?_
      rintro e w13 ⟨A7, c7, rfl, hO, hb⟩
      clear xa0 xb0
      have HB12 := Lib.hid (HB11.out.trans ((hb).mono HB11.out.size))
      have HA12 := Lib.hid (HA11.out.below hb)
      have WY4 := Lib.hid (WY3.out.below hb)
      have WP4 := Lib.hid (WP3.out.below hb)
      have Y3 := Lib.hid (Y2.out.below hb Y2.out.lt)
      have WZ2 := Lib.hid (WZ1.out.below hb)
      have Z1 := Lib.hid (Z0.out.below hb Z0.out.lt)
      clear HB11 HA11 WY3 WP3 Y2 WZ1 Z0
      have WZZ0 := Lib.hid (hO.ints)
      clear hb
      have hal : Below w13.heap.size w13 (w13.alloc (.cells #[.int .i64 P', .slice A7 k c7] 26)) := (Below.refl _ _).alloc (Nat.le_refl _) _
      have hbx := Box.new w13 26 #[.int .i64 P', .slice A7 k c7]
      have HB13 := Lib.hid (HB12.out.trans ((hal).mono HB12.out.size))
      have HA13 := Lib.hid (HA12.out.below hal)
      have WY5 := Lib.hid (WY4.out.below hal)
      have WP5 := Lib.hid (WP4.out.below hal)
      have Y4 := Lib.hid (Y3.out.below hal Y3.out.lt)
      have WZ3 := Lib.hid (WZ2.out.below hal)
      have Z2 := Lib.hid (Z1.out.below hal Z1.out.lt)
      have WZZ1 := Lib.hid (WZZ0.out.below hal)
      clear HB12 HA12 WY4 WP4 Y3 WZ2 Z1 WZZ0
      have ZZ0 := Lib.hid (hbx)
      clear hal hbx
      clear hO
      clear WP5
      clear G1 G2
      obtain ⟨xa0, xb0, _, _⟩ := Z2.out.two
      obtain ⟨xa1, xb1, _, _⟩ := ZZ0.out.two
      go_wp2_with fail
      refine (states5_same A6 A7 k c6 c7 P' R _ HRk.out hk WZ3.out WZZ1.out).mono ?_
      rintro e w14 ⟨rfl, hb⟩
      clear xa0 xb0 xa1 xb1
      have HB14 := Lib.hid (HB13.out.trans ((hb).mono HB13.out.size))
      have HA14 := Lib.hid (HA13.out.below hb)
      have WY6 := Lib.hid (WY5.out.below hb)
      have Y5 := Lib.hid (Y4.out.below hb Y4.out.lt)
      have WZ4 := Lib.hid (WZ3.out.below hb)
      have Z3 := Lib.hid (Z2.out.below hb Z2.out.lt)
      have WZZ2 := Lib.hid (WZZ1.out.below hb)
      have ZZ1 := Lib.hid (ZZ0.out.below hb ZZ0.out.lt)
      clear HB13 HA13 WY5 Y4 WZ3 Z2 WZZ1 ZZ0
      clear hb
      clear ZZ1
      clear WZZ2
      go_upto_if 250 with (fail)
      skip
      go_cut [] from 72 (fun wc => Below w14.heap.size w14 wc)
      case first =>
        as_aux_lemma =>
          have LB0 := Lib.hid (Below.refl w14.heap.size w14)
          rcases HGE.out with hE | ⟨rfl, hg⟩
          · have hd : (E2 == 0) = false := by simpa using hE
            go_wp2
            go_meet
            case rel => exact LB0.out
          · obtain ⟨a, M1, M2, _, _, g1, g2⟩ := hg
            clear HGE
            have T1 := Lib.hid g1
            have T2 := Lib.hid g2
            clear g1 g2
            obtain ⟨xa0, xb0, _, _⟩ := Y5.out.two
            go_wp2_with fail
            refine (T1.out A2 c2 _ WY6.out hcapY.1 hcapY.2).mono ?_
            rintro e w15 ⟨A8, c8, rfl, _, hb⟩
            clear xa0 xb0
            have HB15 := Lib.hid (HB14.out.trans ((hb).mono HB14.out.size))
            have HA15 := Lib.hid (HA14.out.below hb)
            have WY7 := Lib.hid (WY6.out.below hb)
            have Y6 := Lib.hid (Y5.out.below hb Y5.out.lt)
            have WZ5 := Lib.hid (WZ4.out.below hb)
            have Z4 := Lib.hid (Z3.out.below hb Z3.out.lt)
            have LB1 := Lib.hid (LB0.out.trans ((hb).mono LB0.out.size))
            clear HB14 HA14 WY6 Y5 WZ4 Z3 LB0
            clear hb
            obtain ⟨xa0, xb0, _, _⟩ := Z4.out.two
            go_wp2_with fail
            refine (T2.out A6 c6 _ WZ5.out hcapZ.1 hcapZ.2).mono ?_
            rintro e w16 ⟨A9, c9, rfl, _, hb⟩
            clear xa0 xb0
            have HB16 := Lib.hid (HB15.out.trans ((hb).mono HB15.out.size))
            have HA16 := Lib.hid (HA15.out.below hb)
            have WY8 := Lib.hid (WY7.out.below hb)
            have Y7 := Lib.hid (Y6.out.below hb Y6.out.lt)
            have WZ6 := Lib.hid (WZ5.out.below hb)
            have Z5 := Lib.hid (Z4.out.below hb Z4.out.lt)
            have LB2 := Lib.hid (LB1.out.trans ((hb).mono LB1.out.size))
            clear HB15 HA15 WY7 Y6 WZ5 Z4 LB1
            clear hb
            go_wp2
            go_meet
            case rel => exact LB2.out
      case rest =>
        as_aux_lemma =>
          obtain ⟨w15, hwc⟩ : ∃ x, x = wc := ⟨wc, rfl⟩
          subst hwc
          have HB15 := Lib.hid (HB14.out.trans ((hcut).mono HB14.out.size))
          have HA15 := Lib.hid (HA14.out.below hcut)
          have WY7 := Lib.hid (WY6.out.below hcut)
          have Y6 := Lib.hid (Y5.out.below hcut Y5.out.lt)
          have WZ5 := Lib.hid (WZ4.out.below hcut)
          have Z4 := Lib.hid (Z3.out.below hcut Z3.out.lt)
          clear HB14 HA14 WY6 Y5 WZ4 Z3
          clear hcut
          clear HGE HRk
          clear Y6
          clear WY7
          clear Z4
          clear WZ5
          go_wp2_with fail
          refine (DrawPerfectState_ret A n c _ HN.out HA15.out (fun ad e h => Nat.lt_of_lt_of_le (HL.out ad e h) HB15.out.size)).mono ?_
          rintro e w16 ⟨k1, n1, a1, rfl, hb⟩
          have HB16 := Lib.hid (HB15.out.trans ((hb).mono HB15.out.size))
          have HA16 := Lib.hid (HA15.out.below hb)
          clear HB15 HA15
          clear hb
          obtain ⟨PP, RP, qp, E3, hRp, hqp, g1, g2, hgood⟩ := pf_all k1 n1 a1
          have G1 := Lib.hid g1
          have G2 := Lib.hid g2
          have HGE := Lib.hid hgood
          have HRp := Lib.hid hRp
          clear g1 g2 hgood hRp
          go_wp2_with fail
          refine (G1.out _).mono ?_
          rintro e w17 ⟨B1, e1, rfl, hO, hb⟩
          have HB17 := Lib.hid (HB16.out.trans ((hb).mono HB16.out.size))
          have HA17 := Lib.hid (HA16.out.below hb)
          clear HB16 HA16
          have WA0 := Lib.hid (hO.ints)
          clear hb
          have hal : Below w17.heap.size w17 (w17.alloc (.cells #[.int .i64 PP, .slice B1 qp e1] 26)) := (Below.refl _ _).alloc (Nat.le_refl _) _
          have hbx := Box.new w17 26 #[.int .i64 PP, .slice B1 qp e1]
          have HB18 := Lib.hid (HB17.out.trans ((hal).mono HB17.out.size))
          have HA18 := Lib.hid (HA17.out.below hal)
          have WA1 := Lib.hid (WA0.out.below hal)
          clear HB17 HA17 WA0
          have PA0 := Lib.hid (hbx)
          clear hal hbx
          clear hO
          go_wp2_with fail
          refine (G2.out _).mono ?_
          rintro e w18 ⟨B3, e2, rfl, hO, hb⟩
          have HB19 := Lib.hid (HB18.out.trans ((hb).mono HB18.out.size))
          have HA19 := Lib.hid (HA18.out.below hb)
          have WA2 := Lib.hid (WA1.out.below hb)
          have PA1 := Lib.hid (PA0.out.below hb PA0.out.lt)
          clear HB18 HA18 WA1 PA0
          have WB0 := Lib.hid (hO.ints)
          clear hb
          have hal : Below w18.heap.size w18 (w18.alloc (.cells #[.int .i64 PP, .slice B3 qp e2] 26)) := (Below.refl _ _).alloc (Nat.le_refl _) _
          have hbx := Box.new w18 26 #[.int .i64 PP, .slice B3 qp e2]
          have HB20 := Lib.hid (HB19.out.trans ((hal).mono HB19.out.size))
          have HA20 := Lib.hid (HA19.out.below hal)
          have WA3 := Lib.hid (WA2.out.below hal)
          have PA2 := Lib.hid (PA1.out.below hal PA1.out.lt)
          have WB1 := Lib.hid (WB0.out.below hal)
          clear HB19 HA19 WA2 PA1 WB0
          have PB0 := Lib.hid (hbx)
          clear hal hbx
          clear hO
          clear G1 G2
          obtain ⟨xa0, xb0, _, _⟩ := PA2.out.two
          obtain ⟨xa1, xb1, _, _⟩ := PB0.out.two
          go_wp2_with fail
          refine (states5_same B1 B3 qp e1 e2 PP RP _ HRp.out hqp WA3.out WB1.out).mono ?_
          rintro e w19 ⟨rfl, hb⟩
          clear xa0 xb0 xa1 xb1
          have HB21 := Lib.hid (HB20.out.trans ((hb).mono HB20.out.size))
          have HA21 := Lib.hid (HA20.out.below hb)
          have WA4 := Lib.hid (WA3.out.below hb)
          have PA3 := Lib.hid (PA2.out.below hb PA2.out.lt)
          have WB2 := Lib.hid (WB1.out.below hb)
          have PB1 := Lib.hid (PB0.out.below hb PB0.out.lt)
          clear HB20 HA20 WA3 PA2 WB1 PB0
          clear hb
          clear PB1
          clear WB2
          go_upto_if 304 with (fail)
          skip
          go_cut [] from 72 (fun wc => Below w19.heap.size w19 wc)
          case first =>
            as_aux_lemma =>
              have LB0 := Lib.hid (Below.refl w19.heap.size w19)
              rcases HGE.out with hE | ⟨rfl, hg⟩
              · have hd : (E3 == 0) = false := by simpa using hE
                go_wp2
                go_meet
                case rel => exact LB0.out
              · clear HGE
                have T1 := Lib.hid hg
                clear hg
                obtain ⟨xa0, xb0, _, _⟩ := PA3.out.two
                go_wp2_with fail
                refine (T1.out B1 e1 _ WA4.out).mono ?_
                rintro e w20 ⟨rfl, hb⟩
                clear xa0 xb0
                have HB22 := Lib.hid (HB21.out.trans ((hb).mono HB21.out.size))
                have HA22 := Lib.hid (HA21.out.below hb)
                have WA5 := Lib.hid (WA4.out.below hb)
                have PA4 := Lib.hid (PA3.out.below hb PA3.out.lt)
                have LB1 := Lib.hid (LB0.out.trans ((hb).mono LB0.out.size))
                clear HB21 HA21 WA4 PA3 LB0
                clear hb
                go_wp2
                go_meet
                case rel => exact LB1.out
          case rest =>
            as_aux_lemma =>
              obtain ⟨w20, hwc⟩ : ∃ x, x = wc := ⟨wc, rfl⟩
              subst hwc
              have HB22 := Lib.hid (HB21.out.trans ((hcut).mono HB21.out.size))
              have HA22 := Lib.hid (HA21.out.below hcut)
              have WA5 := Lib.hid (WA4.out.below hcut)
              have PA4 := Lib.hid (PA3.out.below hcut PA3.out.lt)
              clear HB21 HA21 WA4 PA3
              clear hcut
              clear HGE HRp
              clear PA4
              clear WA5
              go_wp2_with fail
              refine (DrawIsPerfectState_ret A n c _ HN.out HA22.out (fun ad e h => Nat.lt_of_lt_of_le (HL.out ad e h) HB22.out.size)).mono ?_
              rintro e w21 ⟨p4, B4, m4, d4, L4, rfl, hO, hm4, hb⟩
              have HB23 := Lib.hid (HB22.out.trans ((hb).mono HB22.out.size))
              have HA23 := Lib.hid (HA22.out.below hb)
              clear HB22 HA22
              have W0 := Lib.hid (hO.ints)
              clear hb
              have hal : Below w21.heap.size w21 (w21.alloc (.cells #[.int .i64 p4, .slice B4 m4 d4] 26)) := (Below.refl _ _).alloc (Nat.le_refl _) _
              have hbx := Box.new w21 26 #[.int .i64 p4, .slice B4 m4 d4]
              have HB24 := Lib.hid (HB23.out.trans ((hal).mono HB23.out.size))
              have HA24 := Lib.hid (HA23.out.below hal)
              have W1 := Lib.hid (W0.out.below hal)
              clear HB23 HA23 W0
              have D0 := Lib.hid (hbx)
              clear hal hbx
              have HL4 := Lib.hid (Own.len hO)
              clear hO
              obtain ⟨v4, E4, g1, g2⟩ := ip_all p4 L4 m4 HL4.out hm4
              have G1 := Lib.hid g1
              have G2 := Lib.hid g2
              clear g1 g2
              obtain ⟨xa0, xb0, _, _⟩ := D0.out.two
              go_wp2_with fail
              refine (G1.out B4 d4 _ W1.out).mono ?_
              rintro e w22 ⟨rfl, hb⟩
              clear xa0 xb0
              have HB25 := Lib.hid (HB24.out.trans ((hb).mono HB24.out.size))
              have HA25 := Lib.hid (HA24.out.below hb)
              have W2 := Lib.hid (W1.out.below hb)
              have D1 := Lib.hid (D0.out.below hb D0.out.lt)
              clear HB24 HA24 W1 D0
              clear hb
              obtain ⟨xa0, xb0, _, _⟩ := D1.out.two
              go_wp2_with fail
              refine (G2.out B4 d4 _ W2.out).mono ?_
              rintro e w23 ⟨rfl, hb⟩
              clear xa0 xb0
              have HB26 := Lib.hid (HB25.out.trans ((hb).mono HB25.out.size))
              have HA26 := Lib.hid (HA25.out.below hb)
              have W3 := Lib.hid (W2.out.below hb)
              have D2 := Lib.hid (D1.out.below hb D1.out.lt)
              clear HB25 HA25 W2 D1
              clear hb
              clear G1 G2 HL4
              clear D2
              clear W3
              go_wp2_with fail
              refine (DrawStateOfRank_ret A n c _ HN.out HA26.out (fun ad e h => Nat.lt_of_lt_of_le (HL.out ad e h) HB26.out.size)).mono ?_
              rintro e w24 ⟨k5, n5, a5, rfl, hb⟩
              have HB27 := Lib.hid (HB26.out.trans ((hb).mono HB26.out.size))
              have HA27 := Lib.hid (HA26.out.below hb)
              clear HB26 HA26
              clear hb
              obtain ⟨P5, R5, q5, E5, hR5, hq5, g1, g2⟩ := sr_all k5 n5 a5
              have G1 := Lib.hid g1
              have G2 := Lib.hid g2
              have HR5 := Lib.hid hR5
              clear g1 g2 hR5
              go_wp2_with fail
              refine (G1.out _).mono ?_
              rintro e w25 ⟨F1, h1, rfl, hO, hb⟩
              have HB28 := Lib.hid (HB27.out.trans ((hb).mono HB27.out.size))
              have HA28 := Lib.hid (HA27.out.below hb)
              clear HB27 HA27
              have WSA0 := Lib.hid (hO.ints)
              clear hb
              have hal : Below w25.heap.size w25 (w25.alloc (.cells #[.int .i64 P5, .slice F1 q5 h1] 26)) := (Below.refl _ _).alloc (Nat.le_refl _) _
              have hbx := Box.new w25 26 #[.int .i64 P5, .slice F1 q5 h1]
              have HB29 := Lib.hid (HB28.out.trans ((hal).mono HB28.out.size))
              have HA29 := Lib.hid (HA28.out.below hal)
              have WSA1 := Lib.hid (WSA0.out.below hal)
              clear HB28 HA28 WSA0
              have SA0 := Lib.hid (hbx)
              clear hal hbx
              clear hO
              go_wp2_with fail
              refine (G2.out _).mono ?_
              rintro e w26 ⟨F2, h2, rfl, hO, hb⟩
              have HB30 := Lib.hid (HB29.out.trans ((hb).mono HB29.out.size))
              have HA30 := Lib.hid (HA29.out.below hb)
              have WSA2 := Lib.hid (WSA1.out.below hb)
              have SA1 := Lib.hid (SA0.out.below hb SA0.out.lt)
              clear HB29 HA29 WSA1 SA0
              have WSB0 := Lib.hid (hO.ints)
              clear hb
              have hal : Below w26.heap.size w26 (w26.alloc (.cells #[.int .i64 P5, .slice F2 q5 h2] 26)) := (Below.refl _ _).alloc (Nat.le_refl _) _
              have hbx := Box.new w26 26 #[.int .i64 P5, .slice F2 q5 h2]
              have HB31 := Lib.hid (HB30.out.trans ((hal).mono HB30.out.size))
              have HA31 := Lib.hid (HA30.out.below hal)
              have WSA3 := Lib.hid (WSA2.out.below hal)
              have SA2 := Lib.hid (SA1.out.below hal SA1.out.lt)
              have WSB1 := Lib.hid (WSB0.out.below hal)
              clear HB30 HA30 WSA2 SA1 WSB0
              have SB0 := Lib.hid (hbx)
              clear hal hbx
              clear hO
              clear G1 G2
              go_wp2_with fail
              refine (DrawParseState_calls A n c _ HN.out HA31.out (fun ad e h => Nat.lt_of_lt_of_le (HL.out ad e h) HB31.out.size)).mono ?_
              rintro e w27 ⟨tx6, rfl, htx, hb⟩
              have HB32 := Lib.hid (HB31.out.trans ((hb).mono HB31.out.size))
              have HA32 := Lib.hid (HA31.out.below hb)
              have WSA4 := Lib.hid (WSA3.out.below hb)
              have SA3 := Lib.hid (SA2.out.below hb SA2.out.lt)
              have WSB2 := Lib.hid (WSB1.out.below hb)
              have SB1 := Lib.hid (SB0.out.below hb SB0.out.lt)
              clear HB31 HA31 WSA3 SA2 WSB1 SB0
              clear hb
              obtain ⟨P6, R6, q6, E6, hR6, hq6, g1, g2⟩ := ps_all tx6 htx
              clear htx
              have G1 := Lib.hid g1
              have G2 := Lib.hid g2
              have HR6 := Lib.hid hR6
              clear g1 g2 hR6
              go_wp2_with fail
              refine (G1.out _).mono ?_
              rintro e w28 ⟨F3, h3, rfl, hO, hb⟩
              have HB33 := Lib.hid (HB32.out.trans ((hb).mono HB32.out.size))
              have HA33 := Lib.hid (HA32.out.below hb)
              have WSA5 := Lib.hid (WSA4.out.below hb)
              have SA4 := Lib.hid (SA3.out.below hb SA3.out.lt)
              have WSB3 := Lib.hid (WSB2.out.below hb)
              have SB2 := Lib.hid (SB1.out.below hb SB1.out.lt)
              clear HB32 HA32 WSA4 SA3 WSB2 SB1
              have WTA0 := Lib.hid (hO.ints)
              clear hb
              have hal : Below w28.heap.size w28 (w28.alloc (.cells #[.int .i64 P6, .slice F3 q6 h3] 26)) := (Below.refl _ _).alloc (Nat.le_refl _) _
              have hbx := Box.new w28 26 #[.int .i64 P6, .slice F3 q6 h3]
              have HB34 := Lib.hid (HB33.out.trans ((hal).mono HB33.out.size))
              have HA34 := Lib.hid (HA33.out.below hal)
              have WSA6 := Lib.hid (WSA5.out.below hal)
              have SA5 := Lib.hid (SA4.out.below hal SA4.out.lt)
              have WSB4 := Lib.hid (WSB3.out.below hal)
              have SB3 := Lib.hid (SB2.out.below hal SB2.out.lt)
              have WTA1 := Lib.hid (WTA0.out.below hal)
              clear HB33 HA33 WSA5 SA4 WSB3 SB2 WTA0
              have TA0 := Lib.hid (hbx)
              clear hal hbx
              clear hO
              go_wp2_with fail
              refine (G2.out _).mono ?_
              rintro e w29 ⟨F4, h4, rfl, hO, hb⟩
              have HB35 := Lib.hid (HB34.out.trans ((hb).mono HB34.out.size))
              have HA35 := Lib.hid (HA34.out.below hb)
              have WSA7 := Lib.hid (WSA6.out.below hb)
              have SA6 := Lib.hid (SA5.out.below hb SA5.out.lt)
              have WSB5 := Lib.hid (WSB4.out.below hb)
              have SB4 := Lib.hid (SB3.out.below hb SB3.out.lt)
              have WTA2 := Lib.hid (WTA1.out.below hb)
              have TA1 := Lib.hid (TA0.out.below hb TA0.out.lt)
              clear HB34 HA34 WSA6 SA5 WSB4 SB3 WTA1 TA0
              have WTB0 := Lib.hid (hO.ints)
              clear hb
              have hal : Below w29.heap.size w29 (w29.alloc (.cells #[.int .i64 P6, .slice F4 q6 h4] 26)) := (Below.refl _ _).alloc (Nat.le_refl _) _
              have hbx := Box.new w29 26 #[.int .i64 P6, .slice F4 q6 h4]
              have HB36 := Lib.hid (HB35.out.trans ((hal).mono HB35.out.size))
              have HA36 := Lib.hid (HA35.out.below hal)
              have WSA8 := Lib.hid (WSA7.out.below hal)
              have SA7 := Lib.hid (SA6.out.below hal SA6.out.lt)
              have WSB6 := Lib.hid (WSB5.out.below hal)
              have SB5 := Lib.hid (SB4.out.below hal SB4.out.lt)
              have WTA3 := Lib.hid (WTA2.out.below hal)
              have TA2 := Lib.hid (TA1.out.below hal TA1.out.lt)
              have WTB1 := Lib.hid (WTB0.out.below hal)
              clear HB35 HA35 WSA7 SA6 WSB5 SB4 WTA2 TA1 WTB0
              have TB0 := Lib.hid (hbx)
              clear hal hbx
              clear hO
              clear G1 G2
              go_wp2_with fail
              refine (DrawTopOf_ret A n c _ HN.out HA36.out (fun ad e h => Nat.lt_of_lt_of_le (HL.out ad e h) HB36.out.size)).mono ?_
              rintro e w30 ⟨p7, B7, m7, d7, L7, i7, rfl, hO, hm7, hb⟩
              have HB37 := Lib.hid (HB36.out.trans ((hb).mono HB36.out.size))
              have HA37 := Lib.hid (HA36.out.below hb)
              have WSA9 := Lib.hid (WSA8.out.below hb)
              have SA8 := Lib.hid (SA7.out.below hb SA7.out.lt)
              have WSB7 := Lib.hid (WSB6.out.below hb)
              have SB6 := Lib.hid (SB5.out.below hb SB5.out.lt)
              have WTA4 := Lib.hid (WTA3.out.below hb)
              have TA3 := Lib.hid (TA2.out.below hb TA2.out.lt)
              have WTB2 := Lib.hid (WTB1.out.below hb)
              have TB1 := Lib.hid (TB0.out.below hb TB0.out.lt)
              clear HB36 HA36 WSA8 SA7 WSB6 SB5 WTA3 TA2 WTB1 TB0
              have W0 := Lib.hid (hO.ints)
              clear hb
              have hal : Below w30.heap.size w30 (w30.alloc (.cells #[.int .i64 p7, .slice B7 m7 d7] 26)) := (Below.refl _ _).alloc (Nat.le_refl _) _
              have hbx := Box.new w30 26 #[.int .i64 p7, .slice B7 m7 d7]
              have HB38 := Lib.hid (HB37.out.trans ((hal).mono HB37.out.size))
              have HA38 := Lib.hid (HA37.out.below hal)
              have WSA10 := Lib.hid (WSA9.out.below hal)
              have SA9 := Lib.hid (SA8.out.below hal SA8.out.lt)
              have WSB8 := Lib.hid (WSB7.out.below hal)
              have SB7 := Lib.hid (SB6.out.below hal SB6.out.lt)
              have WTA5 := Lib.hid (WTA4.out.below hal)
              have TA4 := Lib.hid (TA3.out.below hal TA3.out.lt)
              have WTB3 := Lib.hid (WTB2.out.below hal)
              have TB2 := Lib.hid (TB1.out.below hal TB1.out.lt)
              have W1 := Lib.hid (W0.out.below hal)
              clear HB37 HA37 WSA9 SA8 WSB7 SB6 WTA4 TA3 WTB2 TB1 W0
              have D0 := Lib.hid (hbx)
              clear hal hbx
              obtain ⟨v7, E7, g1, g2⟩ := tp_all p7 L7 m7 i7 (Own.len hO) hm7
              clear hO
              have G1 := Lib.hid g1
              have G2 := Lib.hid g2
              clear g1 g2
              obtain ⟨xa0, xb0, _, _⟩ := D0.out.two
              go_wp2_with fail
              refine (G1.out B7 d7 _ W1.out).mono ?_
              rintro e w31 ⟨rfl, hb⟩
              clear xa0 xb0
              have HB39 := Lib.hid (HB38.out.trans ((hb).mono HB38.out.size))
              have HA39 := Lib.hid (HA38.out.below hb)
              have WSA11 := Lib.hid (WSA10.out.below hb)
              have SA10 := Lib.hid (SA9.out.below hb SA9.out.lt)
              have WSB9 := Lib.hid (WSB8.out.below hb)
              have SB8 := Lib.hid (SB7.out.below hb SB7.out.lt)
              have WTA6 := Lib.hid (WTA5.out.below hb)
              have TA5 := Lib.hid (TA4.out.below hb TA4.out.lt)
              have WTB4 := Lib.hid (WTB3.out.below hb)
              have TB3 := Lib.hid (TB2.out.below hb TB2.out.lt)
              have W2 := Lib.hid (W1.out.below hb)
              have D1 := Lib.hid (D0.out.below hb D0.out.lt)
              clear HB38 HA38 WSA10 SA9 WSB8 SB7 WTA5 TA4 WTB3 TB2 W1 D0
              clear hb
              obtain ⟨xa0, xb0, _, _⟩ := D1.out.two
              go_wp2_with fail
              refine (G2.out B7 d7 _ W2.out).mono ?_
              rintro e w32 ⟨rfl, hb⟩
              clear xa0 xb0
              have HB40 := Lib.hid (HB39.out.trans ((hb).mono HB39.out.size))
              have HA40 := Lib.hid (HA39.out.below hb)
              have WSA12 := Lib.hid (WSA11.out.below hb)
              have SA11 := Lib.hid (SA10.out.below hb SA10.out.lt)
              have WSB10 := Lib.hid (WSB9.out.below hb)
              have SB9 := Lib.hid (SB8.out.below hb SB8.out.lt)
              have WTA7 := Lib.hid (WTA6.out.below hb)
              have TA6 := Lib.hid (TA5.out.below hb TA5.out.lt)
              have WTB5 := Lib.hid (WTB4.out.below hb)
              have TB4 := Lib.hid (TB3.out.below hb TB3.out.lt)
              have W3 := Lib.hid (W2.out.below hb)
              have D2 := Lib.hid (D1.out.below hb D1.out.lt)
              clear HB39 HA39 WSA11 SA10 WSB9 SB8 WTA6 TA5 WTB4 TB3 W2 D1
              clear hb
              clear G1 G2
              clear D2
              clear W3
              go_wp2_with fail
              refine (DrawStacksOf_ret A n c _ HN.out HA40.out (fun ad e h => Nat.lt_of_lt_of_le (HL.out ad e h) HB40.out.size)).mono ?_
              rintro e w33 ⟨p8, B8, m8, d8, L8, rfl, hO, hm8, hb⟩
              have HB41 := Lib.hid (HB40.out.trans ((hb).mono HB40.out.size))
              have HA41 := Lib.hid (HA40.out.below hb)
              have WSA13 := Lib.hid (WSA12.out.below hb)
              have SA12 := Lib.hid (SA11.out.below hb SA11.out.lt)
              have WSB11 := Lib.hid (WSB10.out.below hb)
              have SB10 := Lib.hid (SB9.out.below hb SB9.out.lt)
              have WTA8 := Lib.hid (WTA7.out.below hb)
              have TA7 := Lib.hid (TA6.out.below hb TA6.out.lt)
              have WTB6 := Lib.hid (WTB5.out.below hb)
              have TB5 := Lib.hid (TB4.out.below hb TB4.out.lt)
              clear HB40 HA40 WSA12 SA11 WSB10 SB9 WTA7 TA6 WTB5 TB4
              have W0 := Lib.hid (hO.ints)
              clear hb
              have hal : Below w33.heap.size w33 (w33.alloc (.cells #[.int .i64 p8, .slice B8 m8 d8] 26)) := (Below.refl _ _).alloc (Nat.le_refl _) _
              have hbx := Box.new w33 26 #[.int .i64 p8, .slice B8 m8 d8]
              have HB42 := Lib.hid (HB41.out.trans ((hal).mono HB41.out.size))
              have HA42 := Lib.hid (HA41.out.below hal)
              have WSA14 := Lib.hid (WSA13.out.below hal)
              have SA13 := Lib.hid (SA12.out.below hal SA12.out.lt)
              have WSB12 := Lib.hid (WSB11.out.below hal)
              have SB11 := Lib.hid (SB10.out.below hal SB10.out.lt)
              have WTA9 := Lib.hid (WTA8.out.below hal)
              have TA8 := Lib.hid (TA7.out.below hal TA7.out.lt)
              have WTB7 := Lib.hid (WTB6.out.below hal)
              have TB6 := Lib.hid (TB5.out.below hal TB5.out.lt)
              have W1 := Lib.hid (W0.out.below hal)
              clear HB41 HA41 WSA13 SA12 WSB11 SB10 WTA8 TA7 WTB6 TB5 W0
              have D0 := Lib.hid (hbx)
              clear hal hbx
              have HL8 := Lib.hid (Own.len hO)
              clear hO
              obtain ⟨LL8, E8, g1, g2⟩ := sk_all p8 L8 m8 HL8.out hm8
              have G1 := Lib.hid g1
              have G2 := Lib.hid g2
              clear g1 g2
              obtain ⟨xa0, xb0, _, _⟩ := D0.out.two
              go_wp2_with fail
              refine (G1.out B8 d8 _ W1.out).mono ?_
              rintro e w34 ⟨J1, j1, jc1, rs1, rfl, hI, hl, hL, hs, hb⟩
              clear xa0 xb0
              have HB43 := Lib.hid (HB42.out.trans ((hb).mono HB42.out.size))
              have HA43 := Lib.hid (HA42.out.below hb)
              have WSA15 := Lib.hid (WSA14.out.below hb)
              have SA14 := Lib.hid (SA13.out.below hb SA13.out.lt)
              have WSB13 := Lib.hid (WSB12.out.below hb)
              have SB12 := Lib.hid (SB11.out.below hb SB11.out.lt)
              have WTA10 := Lib.hid (WTA9.out.below hb)
              have TA9 := Lib.hid (TA8.out.below hb TA8.out.lt)
              have WTB8 := Lib.hid (WTB7.out.below hb)
              have TB7 := Lib.hid (TB6.out.below hb TB6.out.lt)
              have W2 := Lib.hid (W1.out.below hb)
              have D1 := Lib.hid (D0.out.below hb D0.out.lt)
              clear HB42 HA42 WSA14 SA13 WSB12 SB11 WTA9 TA8 WTB7 TB6 W1 D0
              have X10 := Lib.hid (hI)
              clear hb
              have Hl1 := Lib.hid hl
              have HL1 := Lib.hid hL
              have Hs1 := Lib.hid hs
              clear hl hL hs
              clear hI
              obtain ⟨xa0, xb0, _, _⟩ := D1.out.two
              go_wp2_with fail
              refine (G2.out B8 d8 _ W2.out).mono ?_
              rintro e w35 ⟨J2, j2, jc2, rs2, rfl, hI, hl, hL, hs, hb⟩
              clear xa0 xb0
              have HB44 := Lib.hid (HB43.out.trans ((hb).mono HB43.out.size))
              have HA44 := Lib.hid (HA43.out.below hb)
              have WSA16 := Lib.hid (WSA15.out.below hb)
              have SA15 := Lib.hid (SA14.out.below hb SA14.out.lt)
              have WSB14 := Lib.hid (WSB13.out.below hb)
              have SB13 := Lib.hid (SB12.out.below hb SB12.out.lt)
              have WTA11 := Lib.hid (WTA10.out.below hb)
              have TA10 := Lib.hid (TA9.out.below hb TA9.out.lt)
              have WTB9 := Lib.hid (WTB8.out.below hb)
              have TB8 := Lib.hid (TB7.out.below hb TB7.out.lt)
              have W3 := Lib.hid (W2.out.below hb)
              have D2 := Lib.hid (D1.out.below hb D1.out.lt)
              have X11 := Lib.hid (X10.out.below hb)
              clear HB43 HA43 WSA15 SA14 WSB13 SB12 WTA10 TA9 WTB8 TB7 W2 D1 X10
              have X20 := Lib.hid (hI)
              clear hb
              have Hl2 := Lib.hid hl
              have HL2 := Lib.hid hL
              have Hs2 := Lib.hid hs
              clear hl hL hs
              clear hI G1 G2 HL8
              clear D2
              clear W3
              go_wp2_with fail
              refine (DrawStateText_ret A n c _ HN.out HA44.out (fun ad e h => Nat.lt_of_lt_of_le (HL.out ad e h) HB44.out.size)).mono ?_
              rintro e w36 ⟨p9, B9, m9, d9, L9, rfl, hO, hm9, hb⟩
              have HB45 := Lib.hid (HB44.out.trans ((hb).mono HB44.out.size))
              have HA45 := Lib.hid (HA44.out.below hb)
              have WSA17 := Lib.hid (WSA16.out.below hb)
              have SA16 := Lib.hid (SA15.out.below hb SA15.out.lt)
              have WSB15 := Lib.hid (WSB14.out.below hb)
              have SB14 := Lib.hid (SB13.out.below hb SB13.out.lt)
              have WTA12 := Lib.hid (WTA11.out.below hb)
              have TA11 := Lib.hid (TA10.out.below hb TA10.out.lt)
              have WTB10 := Lib.hid (WTB9.out.below hb)
              have TB9 := Lib.hid (TB8.out.below hb TB8.out.lt)
              have X12 := Lib.hid (X11.out.below hb)
              have X21 := Lib.hid (X20.out.below hb)
              clear HB44 HA44 WSA16 SA15 WSB14 SB13 WTA11 TA10 WTB9 TB8 X11 X20
              have W0 := Lib.hid (hO.ints)
              clear hb
              have hal : Below w36.heap.size w36 (w36.alloc (.cells #[.int .i64 p9, .slice B9 m9 d9] 26)) := (Below.refl _ _).alloc (Nat.le_refl _) _
              have hbx := Box.new w36 26 #[.int .i64 p9, .slice B9 m9 d9]
              have HB46 := Lib.hid (HB45.out.trans ((hal).mono HB45.out.size))
              have HA46 := Lib.hid (HA45.out.below hal)
              have WSA18 := Lib.hid (WSA17.out.below hal)
              have SA17 := Lib.hid (SA16.out.below hal SA16.out.lt)
              have WSB16 := Lib.hid (WSB15.out.below hal)
              have SB15 := Lib.hid (SB14.out.below hal SB14.out.lt)
              have WTA13 := Lib.hid (WTA12.out.below hal)
              have TA12 := Lib.hid (TA11.out.below hal TA11.out.lt)
              have WTB11 := Lib.hid (WTB10.out.below hal)
              have TB10 := Lib.hid (TB9.out.below hal TB9.out.lt)
              have X13 := Lib.hid (X12.out.below hal)
              have X22 := Lib.hid (X21.out.below hal)
              have W1 := Lib.hid (W0.out.below hal)
              clear HB45 HA45 WSA17 SA16 WSB15 SB14 WTA12 TA11 WTB10 TB9 X12 X21 W0
              have D0 := Lib.hid (hbx)
              clear hal hbx
              have HL9 := Lib.hid (Own.len hO)
              clear hO
              clear HA46
              obtain ⟨v9, E9, g1, g2⟩ := tx_all p9 L9 m9 HL9.out hm9
              have G1 := Lib.hid g1
              have G2 := Lib.hid g2
              clear g1 g2
              obtain ⟨xa0, xb0, _, _⟩ := D0.out.two
              go_wp2_with fail
              refine (G1.out B9 d9 _ W1.out).mono ?_
              rintro e w37 ⟨rfl, hb⟩
              clear xa0 xb0
              have HB47 := Lib.hid (HB46.out.trans ((hb).mono HB46.out.size))
              have WSA19 := Lib.hid (WSA18.out.below hb)
              have SA18 := Lib.hid (SA17.out.below hb SA17.out.lt)
              have WSB17 := Lib.hid (WSB16.out.below hb)
              have SB16 := Lib.hid (SB15.out.below hb SB15.out.lt)
              have WTA14 := Lib.hid (WTA13.out.below hb)
              have TA13 := Lib.hid (TA12.out.below hb TA12.out.lt)
              have WTB12 := Lib.hid (WTB11.out.below hb)
              have TB11 := Lib.hid (TB10.out.below hb TB10.out.lt)
              have X14 := Lib.hid (X13.out.below hb)
              have X23 := Lib.hid (X22.out.below hb)
              have W2 := Lib.hid (W1.out.below hb)
              have D1 := Lib.hid (D0.out.below hb D0.out.lt)
              clear HB46 WSA18 SA17 WSB16 SB15 WTA13 TA12 WTB11 TB10 X13 X22 W1 D0
              clear hb
              obtain ⟨xa0, xb0, _, _⟩ := D1.out.two
              go_wp2_with fail
              refine (G2.out B9 d9 _ W2.out).mono ?_
              rintro e w38 ⟨rfl, hb⟩
              clear xa0 xb0
              have HB48 := Lib.hid (HB47.out.trans ((hb).mono HB47.out.size))
              have WSA20 := Lib.hid (WSA19.out.below hb)
              have SA19 := Lib.hid (SA18.out.below hb SA18.out.lt)
              have WSB18 := Lib.hid (WSB17.out.below hb)
              have SB17 := Lib.hid (SB16.out.below hb SB16.out.lt)
              have WTA15 := Lib.hid (WTA14.out.below hb)
              have TA14 := Lib.hid (TA13.out.below hb TA13.out.lt)
              have WTB13 := Lib.hid (WTB12.out.below hb)
              have TB12 := Lib.hid (TB11.out.below hb TB11.out.lt)
              have X15 := Lib.hid (X14.out.below hb)
              have X24 := Lib.hid (X23.out.below hb)
              have W3 := Lib.hid (W2.out.below hb)
              have D2 := Lib.hid (D1.out.below hb D1.out.lt)
              clear HB47 WSA19 SA18 WSB17 SB16 WTA14 TA13 WTB12 TB11 X14 X23 W2 D1
              clear hb
              clear G1 G2 HL9
              clear D2
              clear W3
              obtain ⟨xa0, xb0, _, _⟩ := SA19.out.two
              obtain ⟨xa1, xb1, _, _⟩ := SB17.out.two
              go_wp2_with fail
              refine (states5_same F1 F2 q5 h1 h2 P5 R5 _ HR5.out hq5 WSA20.out WSB18.out).mono ?_
              rintro e w39 ⟨rfl, hb⟩
              clear xa0 xb0 xa1 xb1
              have HB49 := Lib.hid (HB48.out.trans ((hb).mono HB48.out.size))
              have WSA21 := Lib.hid (WSA20.out.below hb)
              have SA20 := Lib.hid (SA19.out.below hb SA19.out.lt)
              have WSB19 := Lib.hid (WSB18.out.below hb)
              have SB18 := Lib.hid (SB17.out.below hb SB17.out.lt)
              have WTA16 := Lib.hid (WTA15.out.below hb)
              have TA15 := Lib.hid (TA14.out.below hb TA14.out.lt)
              have WTB14 := Lib.hid (WTB13.out.below hb)
              have TB13 := Lib.hid (TB12.out.below hb TB12.out.lt)
              have X16 := Lib.hid (X15.out.below hb)
              have X25 := Lib.hid (X24.out.below hb)
              clear HB48 WSA20 SA19 WSB18 SB17 WTA15 TA14 WTB13 TB12 X15 X24
              clear hb
              clear SA20
              clear SB18
              clear WSA21
              clear WSB19
              obtain ⟨xa0, xb0, _, _⟩ := TA15.out.two
              obtain ⟨xa1, xb1, _, _⟩ := TB13.out.two
              go_wp2_with fail
              refine (states5_same F3 F4 q6 h3 h4 P6 R6 _ HR6.out hq6 WTA16.out WTB14.out).mono ?_
              rintro e w40 ⟨rfl, hb⟩
              clear xa0 xb0 xa1 xb1
              have HB50 := Lib.hid (HB49.out.trans ((hb).mono HB49.out.size))
              have WTA17 := Lib.hid (WTA16.out.below hb)
              have TA16 := Lib.hid (TA15.out.below hb TA15.out.lt)
              have WTB15 := Lib.hid (WTB14.out.below hb)
              have TB14 := Lib.hid (TB13.out.below hb TB13.out.lt)
              have X17 := Lib.hid (X16.out.below hb)
              have X26 := Lib.hid (X25.out.below hb)
              clear HB49 WTA16 TA15 WTB14 TB13 X16 X25
              clear hb
              clear TA16
              clear TB14
              clear WTA17
              clear WTB15
              go_wp2_with fail
              refine (rows5_same J1 J2 j1 jc1 j2 jc2 rs1 rs2 _ Hl1.out Hl2.out Hs1.out Hs2.out X17.out X26.out (HL1.out.trans HL2.out.symm)).mono ?_
              rintro e w41 ⟨rfl, hb⟩
              have HB51 := Lib.hid (HB50.out.trans ((hb).mono HB50.out.size))
              have X18 := Lib.hid (X17.out.below hb)
              have X27 := Lib.hid (X26.out.below hb)
              clear HB50 X17 X26
              clear hb
              clear X18
              clear X27
              go_wp2
              go_ret
              exact ⟨rfl, HB51.out⟩

end Go.Proofs.Ytfdjlgpdbgmdkaa
