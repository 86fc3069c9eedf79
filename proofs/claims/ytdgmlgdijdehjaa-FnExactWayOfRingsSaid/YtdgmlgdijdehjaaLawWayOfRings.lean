/- 'WayOfRings' of the program answers at every argument as the specification's model, and leaves its arguments as they were. Conditions: none. -/
import Derived.Test.YtdgmlgdijdehjaaOpen
import Derived.Test.YtdgmlgdijdehjaaOpen
import Derived.Test.YtdgmlgdijdehjaaMark
import Derived.Test.YtdgmlgdijdehjaaApart
import Derived.Test.YtdgmlgdijdehjaaWayI
import Derived.Deep.RegionHeld3
namespace Go.Proofs.Ytdgmlgdijdehjaa.fnExactWayOfRings
open Go.ChangeShapes Go.WideShapes Go.ChangeAt Go.RowKit Go.Joins
open Go.ChangeMaps (open_string)
set_option linter.unusedVariables false

theorem szI_no' {n : Nat} {l : Int} (h : l < n) : szI n l = -1 := by unfold szI; omega
theorem szI_yes' {n : Nat} {l : Int} (h : ¬ l < n) : szI n l = l - n := by unfold szI; omega

set_option maxRecDepth 100000 in
set_option maxHeartbeats 8000000 in
theorem core (A0 : Option Addr) (n0 c0 : Nat) (L0 : List Int) (A1 : Option Addr) (n1 c1 : Nat) (L1 : List Int) (E : Int) (LL : List Int) (nn : Nat) (hnn : nn ≤ 1048576) (hLL : LL.length = nn) (w : World) (hL0 : L0.length = n0) (hn0 : n0 ≤ 1048576) (hI0 : Ints w A0 L0) (hL1 : L1.length = n1) (hn1 : n1 ≤ 1048576) (hI1 : Ints w A1 L1)
    (hspec : ∀ g0 g1 W, Ints W (some ⟨g0, 0, none⟩) L0 → Ints W (some ⟨g1, 0, none⟩) L1 → Calls Try.prog 15 #[.slice (some ⟨g0, 0, none⟩) n0 n0, .slice (some ⟨g1, 0, none⟩) n1 n1] W (RetInts W nn LL E))
    (himpl : ∀ g0 g1 W, Ints W (some ⟨g0, 0, none⟩) L0 → Ints W (some ⟨g1, 0, none⟩) L1 → Calls Try.prog 16 #[.slice (some ⟨g0, 0, none⟩) n0 n0, .slice (some ⟨g1, 0, none⟩) n1 n1] W (RetInts W nn LL E)) :
    Calls Try.prog 5 #[.slice A0 n0 c0, .slice A1 n1 c1] w fun e w' => e = .returned (.bool true) ∧ Below w.heap.size w w' := by
  have HS := Lib.hid hspec
  have HP := Lib.hid himpl
  have HLL := Lib.hid hLL
  have HL0 := Lib.hid hL0
  have HL1 := Lib.hid hL1
  have HB0 := Lib.hid (Below.refl w.heap.size w)
  clear hspec himpl hLL hL0 hL1
  go_enter Try.func5, Try.ntmps5
  have hc := Lib.hid (hI0.below HB0.out)
  go_wp2_with fail
  refine (toInt64S_calls A0 n0 c0 L0 _ HL0.out hn0 hc.out).mono ?_
  rintro e w1 ⟨g0, rfl, hg, hr, hb⟩
  have HB1 := Lib.hid (HB0.out.trans ((hb).mono HB0.out.size))
  clear HB0
  have T0_0 := Lib.hid (hr.ints)
  clear hb hg hr hc
  have hc := Lib.hid (hI1.below HB1.out)
  go_wp2_with fail
  refine (toInt64S_calls A1 n1 c1 L1 _ HL1.out hn1 hc.out).mono ?_
  rintro e w1 ⟨g1, rfl, hg, hr, hb⟩
  have T0_1 := Lib.hid (T0_0.out.below hb)
  have HB2 := Lib.hid (HB1.out.trans ((hb).mono HB1.out.size))
  clear T0_0 HB1
  have T1_0 := Lib.hid (hr.ints)
  clear hb hg hr hc
  go_wp2_with fail
  refine (HS.out g0 g1 _ T0_1.out T1_0.out).mono ?_
  rintro e w3 ⟨AS, cS, rfl, hO, hb⟩
  have HB3 := Lib.hid (HB2.out.trans ((hb).mono HB2.out.size))
  clear T0_1 T1_0 HB2
  have O0 := Lib.hid hO
  clear hO hb
  have hc := Lib.hid (hI0.below HB3.out)
  go_wp2_with fail
  skip
  refine (toInt64S_calls A0 n0 c0 L0 _ HL0.out hn0 hc.out).mono ?_
  rintro e w4 ⟨v0, rfl, hg, hr, hb⟩
  have BV0 := HB3.out.size
  have hrow := hr.own hg (by rw [HL0.out]; exact hn0)
  rw [HL0.out] at hrow
  have AP1 := Lib.hid (own_apart O0.out hrow (Nat.le_refl _))
  have AB1 := Lib.hid (own_apart_back O0.out hrow (Nat.le_refl _))
  have O1 := Lib.hid (O0.out.below hb)
  have HB4 := Lib.hid (HB3.out.trans ((hb).mono HB3.out.size))
  clear O0 HB3
  have V0_0 := Lib.hid hrow
  clear hb hg hr hrow hc
  have hc := Lib.hid (hI1.below HB4.out)
  go_wp2_with fail
  skip
  refine (toInt64S_calls A1 n1 c1 L1 _ HL1.out hn1 hc.out).mono ?_
  rintro e w4 ⟨v1, rfl, hg, hr, hb⟩
  have BV1 := HB4.out.size
  have hrow := hr.own hg (by rw [HL1.out]; exact hn1)
  rw [HL1.out] at hrow
  have AP2 := Lib.hid (own_apart O1.out hrow (Nat.le_refl _))
  have AB2 := Lib.hid (own_apart_back O1.out hrow (Nat.le_refl _))
  have AP3 := Lib.hid (own_apart V0_0.out hrow (Nat.le_refl _))
  have AB3 := Lib.hid (own_apart_back V0_0.out hrow (Nat.le_refl _))
  have O2 := Lib.hid (O1.out.below hb)
  have V0_1 := Lib.hid (V0_0.out.below hb)
  have HB5 := Lib.hid (HB4.out.trans ((hb).mono HB4.out.size))
  clear O1 V0_0 HB4
  have V1_0 := Lib.hid hrow
  clear hb hg hr hrow hc
  go_wp2_with fail
  refine (HP.out v0 v1 _ (Own.ints V0_1.out) (Own.ints V1_0.out)).mono ?_
  rintro e w6 ⟨A9, c9, rfl, hQ, hb⟩
  have BQ := HB5.out.size
  have AP4 := Lib.hid (own_apart O2.out hQ (Nat.le_refl _))
  have AB4 := Lib.hid (own_apart_back O2.out hQ (Nat.le_refl _))
  have AP5 := Lib.hid (own_apart V0_1.out hQ (Nat.le_refl _))
  have AB5 := Lib.hid (own_apart_back V0_1.out hQ (Nat.le_refl _))
  have AP6 := Lib.hid (own_apart V1_0.out hQ (Nat.le_refl _))
  have AB6 := Lib.hid (own_apart_back V1_0.out hQ (Nat.le_refl _))
  have O3 := Lib.hid (O2.out.below hb)
  have V0_2 := Lib.hid (V0_1.out.below hb)
  have V1_1 := Lib.hid (V1_0.out.below hb)
  have HB6 := Lib.hid (HB5.out.trans ((hb).mono HB5.out.size))
  clear O2 V0_1 V1_0 HB5
  have Q0 := Lib.hid hQ
  clear hb hQ
  go_wp2_with fail
  refine (eqInt64S_calls A9 AS nn c9 nn cS LL LL _ HLL.out HLL.out hnn hnn Q0.out.ints O3.out.ints).mono ?_
  rintro e w7 ⟨rfl, mq, rfl⟩
  have O4 := Lib.hid (O3.out.below (belowDraws (Below.refl _ _) mq))
  have V0_3 := Lib.hid (V0_2.out.below (belowDraws (Below.refl _ _) mq))
  have V1_2 := Lib.hid (V1_1.out.below (belowDraws (Below.refl _ _) mq))
  have Q1 := Lib.hid (Q0.out.below (belowDraws (Below.refl _ _) mq))
  have HB7 := Lib.hid (HB6.out.trans (((belowDraws (Below.refl _ _) mq)).mono HB6.out.size))
  clear O3 V0_2 V1_1 Q0 HB6
  have hc := Lib.hid (hI0.below HB7.out)
  go_wp2_with fail
  refine (toInt64S_calls A0 n0 c0 L0 _ HL0.out hn0 hc.out).mono ?_
  rintro e w8 ⟨gr, rfl, hg, hr, hb⟩
  have O5 := Lib.hid (O4.out.below hb)
  have V0_4 := Lib.hid (V0_3.out.below hb)
  have V1_3 := Lib.hid (V1_2.out.below hb)
  have Q2 := Lib.hid (Q1.out.below hb)
  have HB8 := Lib.hid (HB7.out.trans ((hb).mono HB7.out.size))
  clear O4 V0_3 V1_2 Q1 HB7
  go_wp2_with fail
  refine (eqInt64S_calls (some ⟨v0, 0, none⟩) (some ⟨gr, 0, none⟩) n0 n0 n0 n0 L0 L0 _ HL0.out HL0.out hn0 hn0 (Own.ints V0_4.out) hr.ints).mono ?_
  rintro e w9 ⟨rfl, mq, rfl⟩
  clear hb hg hr hc
  have O6 := Lib.hid (O5.out.below (belowDraws (Below.refl _ _) mq))
  have V0_5 := Lib.hid (V0_4.out.below (belowDraws (Below.refl _ _) mq))
  have V1_4 := Lib.hid (V1_3.out.below (belowDraws (Below.refl _ _) mq))
  have Q3 := Lib.hid (Q2.out.below (belowDraws (Below.refl _ _) mq))
  have HB9 := Lib.hid (HB8.out.trans (((belowDraws (Below.refl _ _) mq)).mono HB8.out.size))
  clear O5 V0_4 V1_3 Q2 HB8
  have hc := Lib.hid (hI1.below HB9.out)
  go_wp2_with fail
  refine (toInt64S_calls A1 n1 c1 L1 _ HL1.out hn1 hc.out).mono ?_
  rintro e w8 ⟨gr, rfl, hg, hr, hb⟩
  have O7 := Lib.hid (O6.out.below hb)
  have V0_6 := Lib.hid (V0_5.out.below hb)
  have V1_5 := Lib.hid (V1_4.out.below hb)
  have Q4 := Lib.hid (Q3.out.below hb)
  have HB10 := Lib.hid (HB9.out.trans ((hb).mono HB9.out.size))
  clear O6 V0_5 V1_4 Q3 HB9
  go_wp2_with fail
  refine (eqInt64S_calls (some ⟨v1, 0, none⟩) (some ⟨gr, 0, none⟩) n1 n1 n1 n1 L1 L1 _ HL1.out HL1.out hn1 hn1 (Own.ints V1_5.out) hr.ints).mono ?_
  rintro e w9 ⟨rfl, mq, rfl⟩
  clear hb hg hr hc
  have O8 := Lib.hid (O7.out.below (belowDraws (Below.refl _ _) mq))
  have V0_7 := Lib.hid (V0_6.out.below (belowDraws (Below.refl _ _) mq))
  have V1_6 := Lib.hid (V1_5.out.below (belowDraws (Below.refl _ _) mq))
  have Q5 := Lib.hid (Q4.out.below (belowDraws (Below.refl _ _) mq))
  have HB11 := Lib.hid (HB10.out.trans (((belowDraws (Below.refl _ _) mq)).mono HB10.out.size))
  clear O7 V0_6 V1_5 Q4 HB10
  go_wp2_with fail
  refine (markInt64S_calls _ (some ⟨v0, 0, none⟩) n0 n0 L0 (1) _ V0_7.out hn0 (by omega) (by omega)).mono ?_
  rintro e w10 ⟨rfl, hO, hg⟩
  have O9 := Lib.hid (O8.out.kept hg AP1.out)
  have V1_7 := Lib.hid (V1_6.out.kept hg AB3.out)
  have Q6 := Lib.hid (Q5.out.kept hg AB5.out)
  have V0_8 := Lib.hid hO
  have HB12 := Lib.hid (HB11.out.grown hg HB11.out.size (fun k hk => by have h1 := own_bk V0_7.out k hk; omega))
  clear O8 V0_7 V1_6 Q5 HB11 hO hg
  go_wp2_with fail
  refine (markInt64S_calls _ (some ⟨v1, 0, none⟩) n1 n1 L1 (1 + n0) _ V1_7.out hn1 (by omega) (by omega)).mono ?_
  rintro e w10 ⟨rfl, hO, hg⟩
  have O10 := Lib.hid (O9.out.kept hg AP2.out)
  have V0_9 := Lib.hid (V0_8.out.kept hg AP3.out)
  have Q7 := Lib.hid (Q6.out.kept hg AB6.out)
  have V1_8 := Lib.hid hO
  have HB13 := Lib.hid (HB12.out.grown hg HB12.out.size (fun k hk => by have h1 := own_bk V1_7.out k hk; omega))
  clear O9 V0_8 V1_7 Q6 HB12 hO hg
  go_wp2_with fail
  refine (eqInt64S_calls A9 AS nn c9 nn cS LL LL _ HLL.out HLL.out hnn hnn Q7.out.ints O10.out.ints).mono ?_
  rintro e w7 ⟨rfl, mq, rfl⟩
  have O11 := Lib.hid (O10.out.below (belowDraws (Below.refl _ _) mq))
  have Q8 := Lib.hid (Q7.out.below (belowDraws (Below.refl _ _) mq))
  have HB14 := Lib.hid (HB13.out.trans (((belowDraws (Below.refl _ _) mq)).mono HB13.out.size))
  clear O10 Q7 HB13
  go_wp2_with fail
  refine (markInt64S_calls _ A9 nn c9 LL 1 _ Q8.out hnn (by omega) (by omega)).mono ?_
  rintro e w12 ⟨rfl, hO, hg⟩
  have O12 := Lib.hid (O11.out.kept hg AP4.out)
  have Q9 := Lib.hid hO
  have HB15 := Lib.hid (HB14.out.grown hg HB14.out.size (fun k hk => by have h1 := own_bk Q8.out k hk; omega))
  clear O11 Q8 HB14 hO hg
  go_wp2_with fail
  refine (heldInt64S_calls A9 nn c9 1 _ Q9.out.ints hnn (by omega) (by omega)).mono ?_
  rintro e w13 ⟨rfl, mq, rfl⟩
  have O13 := Lib.hid (O12.out.below (belowDraws (Below.refl _ _) mq))
  have Q10 := Lib.hid (Q9.out.below (belowDraws (Below.refl _ _) mq))
  have HB16 := Lib.hid (HB15.out.trans (((belowDraws (Below.refl _ _) mq)).mono HB15.out.size))
  clear O12 Q9 HB15
  have hc := Lib.hid (hI0.below HB16.out)
  go_wp2_with fail
  refine (toInt64S_calls A0 n0 c0 L0 _ HL0.out hn0 hc.out).mono ?_
  rintro e w1 ⟨h0, rfl, hg, hr, hb⟩
  have O14 := Lib.hid (O13.out.below hb)
  have Q11 := Lib.hid (Q10.out.below hb)
  have HB17 := Lib.hid (HB16.out.trans ((hb).mono HB16.out.size))
  clear O13 Q10 HB16
  have T0_0 := Lib.hid (hr.ints)
  clear hb hg hr hc
  have hc := Lib.hid (hI1.below HB17.out)
  go_wp2_with fail
  refine (toInt64S_calls A1 n1 c1 L1 _ HL1.out hn1 hc.out).mono ?_
  rintro e w1 ⟨h1, rfl, hg, hr, hb⟩
  have O15 := Lib.hid (O14.out.below hb)
  have Q12 := Lib.hid (Q11.out.below hb)
  have T0_1 := Lib.hid (T0_0.out.below hb)
  have HB18 := Lib.hid (HB17.out.trans ((hb).mono HB17.out.size))
  clear O14 Q11 T0_0 HB17
  have T1_0 := Lib.hid (hr.ints)
  clear hb hg hr hc
  go_wp2_with fail
  refine (HP.out h0 h1 _ T0_1.out T1_0.out).mono ?_
  rintro e w15 ⟨A14, c14, rfl, hK, hb⟩
  have O16 := Lib.hid (O15.out.below hb)
  have Q13 := Lib.hid (Q12.out.below hb)
  have HB19 := Lib.hid (HB18.out.trans ((hb).mono HB18.out.size))
  clear O15 Q12 T0_1 T1_0 HB18
  have K0 := Lib.hid hK
  clear hK hb
  go_wp2_with fail
  refine (eqInt64S_calls A14 AS nn c14 nn cS LL LL _ HLL.out HLL.out hnn hnn K0.out.ints O16.out.ints).mono ?_
  rintro e w7 ⟨rfl, mq, rfl⟩
  have O17 := Lib.hid (O16.out.below (belowDraws (Below.refl _ _) mq))
  have Q14 := Lib.hid (Q13.out.below (belowDraws (Below.refl _ _) mq))
  have K1 := Lib.hid (K0.out.below (belowDraws (Below.refl _ _) mq))
  have HB20 := Lib.hid (HB19.out.trans (((belowDraws (Below.refl _ _) mq)).mono HB19.out.size))
  clear O16 Q13 K0 HB19
  go_wp2_with fail
  refine (heldInt64S_calls A9 nn c9 1 _ Q14.out.ints hnn (by omega) (by omega)).mono ?_
  rintro e w13 ⟨rfl, mq, rfl⟩
  have O18 := Lib.hid (O17.out.below (belowDraws (Below.refl _ _) mq))
  have Q15 := Lib.hid (Q14.out.below (belowDraws (Below.refl _ _) mq))
  have K2 := Lib.hid (K1.out.below (belowDraws (Below.refl _ _) mq))
  have HB21 := Lib.hid (HB20.out.trans (((belowDraws (Below.refl _ _) mq)).mono HB20.out.size))
  clear O17 Q14 K1 HB20
  go_wp2
  go_ret
  exact ⟨rfl, by first | exact HB21.out | (rw [← World.drewN_drewN]; exact HB21.out)⟩

theorem walk (A0 : Option Addr) (n0 c0 : Nat) (L0 : List Int) (A1 : Option Addr) (n1 c1 : Nat) (L1 : List Int) (w : World) (hA0 : ArgInts w A0 n0 L0) (hA1 : ArgInts w A1 n1 L1) :
    Calls Try.prog 5 #[.slice A0 n0 c0, .slice A1 n1 c1] w fun e w' => e = .returned (.bool true) ∧ Below w.heap.size w w' := by
  obtain ⟨hL0, hm0, hI0⟩ := hA0
  obtain ⟨hL1, hm1, hI1⟩ := hA1
  by_cases hn0 : (1048576 : Int) < n0
  · go_enter Try.func5, Try.ntmps5
    go_wp2
    go_ret
    exact ⟨rfl, Below.refl _ _⟩
  by_cases hn1 : (1048576 : Int) < n1
  · go_enter Try.func5, Try.ntmps5
    go_wp2
    go_ret
    exact ⟨rfl, Below.refl _ _⟩
  exact core A0 n0 c0 L0 A1 n1 c1 L1 (rdE L0 L1) (wyV L0 L1) (wyV L0 L1).length (by exact wyV_len _ _) rfl w hL0 (by omega) hI0 hL1 (by omega) hI1
    (fun g0 g1 W hW0 hW1 => specWayOfRings_ret (some ⟨g0, 0, none⟩) n0 n0 L0 (some ⟨g1, 0, none⟩) n1 n1 L1 W hL0 (by omega) hW0 hL1 (by omega) hW1)
    (fun g0 g1 W hW0 hW1 => implWayOfRings_ret ⟨g0, 0, none⟩ n0 n0 L0 ⟨g1, 0, none⟩ n1 n1 L1 W hL0 (by omega) hW0 hL1 (by omega) hW1)

set_option maxRecDepth 100000 in
theorem lifted (os : Os) (started : os.Started) (H : Type) (enc : TypeId × Value → H) :
    ReturnsInHanded {} Try.checked os 5 .any (Rows.fnExactWayOfRingsSpec.pre6 enc Try.prog Try.f5 Rows.fnExactWayOfRingsRow.domain false) (Rows.fnExactWayOfRingsSpec.post enc Try.prog Try.f5 false true false false) := by
  refine returnsInHanded_of_change (C := Try.checked) own started (by kernel_rfl) Try.func5
    (ChangeSpec.witness6 (enc := enc) (C := Try.checked) false ⟨#[], #[.slice none 0 0, .slice none 0 0], []⟩ 8 (by kernel_rfl) (by kernel_rfl) (by kernel_rfl) (by kernel_rfl)) ?_
  intro W base args ds gs before hval0 hW hcnd _
  have hval : ∀ (j : Nat) t v, Try.f5.params[j]? = some t → args[j]? = some v → Value.okWide Try.prog W .any base t v := hval0
  have hW' := hW
  obtain ⟨p, q, hA0, hV, rfl, hfz, hnd⟩ := hW
  have hA : DataW.TrodAll enc Try.prog W 0 (fun _ => true) true Try.f5.params.toList args.toList ds p := hA0
  rw [Try.params5] at hA hval
  obtain ⟨v0, vs0, d0, ds0, p0, q0, hargs, rfl, rfl, h0, r0⟩ := trodAll_cons hA
  obtain ⟨v1, vs1, d1, ds1, p1, q1, rfl, rfl, rfl, h1, r1⟩ := trodAll_cons r0
  obtain ⟨rfl, rfl, rfl⟩ := trodAll_nil r1
  obtain rfl : args = #[v0, v1] := by cases args; simp_all
  obtain ⟨rfl, rfl⟩ := trodVars_none hV
  have lt0 : ∀ x ∈ p0, x.block < W.heap.size := by obtain ⟨m, hm⟩ := h0; exact DataW.trod_lt m _ _ _ hm
  have k0 := h0
  obtain ⟨fu0, hf0⟩ := h0
  obtain ⟨A0, n0, c0, rfl⟩ := okWide_slice Try.underlying22 (hval 0 22 v0 rfl rfl)
  obtain ⟨A'0, n'0, c'0, L0, he0, hAI0⟩ := open_slice_ints (by simpa [Value.cells] using hf0)
  injection he0 with e1 e2 e3; subst e1 e2 e3
  have lt1 : ∀ x ∈ p1, x.block < W.heap.size := by obtain ⟨m, hm⟩ := h1; exact DataW.trod_lt m _ _ _ hm
  have k1 := h1
  obtain ⟨fu1, hf1⟩ := h1
  obtain ⟨A1, n1, c1, rfl⟩ := okWide_slice Try.underlying22 (hval 1 22 v1 rfl rfl)
  obtain ⟨A'1, n'1, c'1, L1, he1, hAI1⟩ := open_slice_ints (by simpa [Value.cells] using hf1)
  injection he1 with e1 e2 e3; subst e1 e2 e3
  clear hA0 hval0
  refine (walk A0 n0 c0 L0 A1 n1 c1 L1 W hAI0 hAI1).mono fun e W' ⟨he, bel⟩ => ?_
  subst he
  exact ⟨_, rfl, _, _, _, [], _, [], hW', trodAll_mk1 (shut_bool Try.underlying4 _), (trodAll_cons_mk (Below.trod laidOut (by kernel_rfl) (of_decide_eq_true (by kernel_rfl)) k0 bel lt0) (trodAll_cons_mk (Below.trod laidOut (by kernel_rfl) (of_decide_eq_true (by kernel_rfl)) k1 bel lt1) trodAll_mk0)), rfl, bel.frame _, fun h => by cases h⟩

theorem over : Rows.fnExactWayOfRingsRow.holds Try.pinned (OpenSpec.ofChange Rows.fnExactWayOfRingsSpec) :=
  OpenClaim.holds_of_wide 5 Try.f5 rfl rfl rfl rfl rfl rfl rfl ⟨rfl, rfl, rfl, rfl, rfl⟩ rfl rfl rfl rfl rfl (by kernel_rfl) Try.func5 (by kernel_rfl)
    (of_decide_eq_true (by kernel_rfl)) (by unfold Func.isWrapper; first | (rw [if_pos (by decide +kernel)]; kernel_rfl) | (rw [if_neg (by decide +kernel)]; exact ⟨rfl, rfl⟩))
    (fun os started H enc _ => lifted os started H enc)

theorem proved : Rows.FnExactWayOfRingsSaid := over
#print axioms proved
end Go.Proofs.Ytdgmlgdijdehjaa.fnExactWayOfRings
