/- 'StateOfWord' of the program answers at every argument as the specification's model, and leaves its arguments as they were. Conditions: none. -/
import Derived.Test.YtnfjdggiaodhmaaOpen
import Derived.Test.YtnfjdggiaodhmaaOpen
import Derived.Test.YtnfjdggiaodhmaaHeld
import Derived.Test.YtnfjdggiaodhmaaApart
import Derived.Test.YtnfjdggiaodhmaaSow
import Derived.Deep.RegionHeld3
namespace Go.Proofs.Ytnfjdggiaodhmaa.fnExactStateOfWord
open Go.ChangeShapes Go.WideShapes Go.ChangeAt Go.RowKit Go.Joins
open Go.ChangeMaps (open_string)
set_option linter.unusedVariables false

theorem szI_no' {n : Nat} {l : Int} (h : l < n) : szI n l = -1 := by unfold szI; omega
theorem szI_yes' {n : Nat} {l : Int} (h : ¬ l < n) : szI n l = l - n := by unfold szI; omega

set_option maxRecDepth 100000 in
set_option maxHeartbeats 8000000 in
theorem core (A0 : Option Addr) (n0 c0 : Nat) (L0 : List Int) (P E : Int) (LL : List Int) (nn : Nat) (hnn : nn ≤ 1048576) (hLL : LL.length = nn) (w : World) (hL0 : L0.length = n0) (hn0 : n0 ≤ 1048576) (hI0 : Ints w A0 L0)
    (hspec : ∀ g0 W, Ints W (some ⟨g0, 0, none⟩) L0 → Calls Try.prog 24 #[.slice (some ⟨g0, 0, none⟩) n0 n0] W (RetState W P nn LL E))
    (himpl : ∀ g0 W, Ints W (some ⟨g0, 0, none⟩) L0 → Calls Try.prog 25 #[.slice (some ⟨g0, 0, none⟩) n0 n0] W (RetState W P nn LL E)) :
    Calls Try.prog 7 #[.slice A0 n0 c0] w fun e w' => e = .returned (.bool true) ∧ Below w.heap.size w w' := by
  have HS := Lib.hid hspec
  have HP := Lib.hid himpl
  have HLL := Lib.hid hLL
  have HL0 := Lib.hid hL0
  have HB0 := Lib.hid (Below.refl w.heap.size w)
  clear hspec himpl hLL hL0
  go_enter Try.func7, Try.ntmps7
  have hc := Lib.hid (hI0.below HB0.out)
  go_wp2_with fail
  refine (toInt64S_calls A0 n0 c0 L0 _ HL0.out hn0 hc.out).mono ?_
  rintro e w1 ⟨g0, rfl, hg, hr, hb⟩
  have HB1 := Lib.hid (HB0.out.trans ((hb).mono HB0.out.size))
  clear HB0
  have T0_0 := Lib.hid (hr.ints)
  clear hb hg hr hc
  go_wp2_with fail
  refine (HS.out g0 _ T0_0.out).mono ?_
  rintro e w3 ⟨AO, cO, rfl, hO, hb⟩
  have HB2 := Lib.hid (HB1.out.trans ((hb).mono HB1.out.size))
  clear T0_0 HB1
  have O0 := Lib.hid hO
  clear hO hb
  have hX := Box.new w3 35 #[.int .i64 P, .slice AO nn cO]
  have hba : Below w3.heap.size w3 (World.alloc w3 (.cells #[.int .i64 P, .slice AO nn cO] 35)) := (Below.refl _ w3).alloc (Nat.le_refl _) _
  have O1 := Lib.hid (O0.out.below hba)
  have HB3 := Lib.hid (HB2.out.trans ((hba).mono HB2.out.size))
  clear O0 HB2
  have X0 := Lib.hid hX
  clear hX hba
  have hc := Lib.hid (hI0.below HB3.out)
  go_wp2_with fail
  generalize hWW : World.alloc w3 (.cells #[.int .i64 P, .slice AO nn cO] 35) = WX at *
  clear hWW
  generalize w3.heap.size = bX at *
  refine (toInt64S_calls A0 n0 c0 L0 _ HL0.out hn0 hc.out).mono ?_
  rintro e w4 ⟨v0, rfl, hg, hr, hb⟩
  have BV0 := HB3.out.size
  have hrow := hr.own hg (by rw [HL0.out]; exact hn0)
  rw [HL0.out] at hrow
  have AP1 := Lib.hid (own_apart O1.out hrow (Nat.le_refl _))
  have AB1 := Lib.hid (own_apart_back O1.out hrow (Nat.le_refl _))
  have O2 := Lib.hid (O1.out.below hb)
  have X1 := Lib.hid (X0.out.below hb X0.out.lt)
  have HB4 := Lib.hid (HB3.out.trans ((hb).mono HB3.out.size))
  clear O1 X0 HB3
  have V0_0 := Lib.hid hrow
  clear hb hg hr hrow hc
  go_wp2_with fail
  refine (HP.out v0 _ (Own.ints V0_0.out)).mono ?_
  rintro e w6 ⟨A9, c9, rfl, hQ, hb⟩
  have BQ := HB4.out.size
  have AP2 := Lib.hid (own_apart O2.out hQ (Nat.le_refl _))
  have AB2 := Lib.hid (own_apart_back O2.out hQ (Nat.le_refl _))
  have AP3 := Lib.hid (own_apart V0_0.out hQ (Nat.le_refl _))
  have AB3 := Lib.hid (own_apart_back V0_0.out hQ (Nat.le_refl _))
  have O3 := Lib.hid (O2.out.below hb)
  have X2 := Lib.hid (X1.out.below hb X1.out.lt)
  have V0_1 := Lib.hid (V0_0.out.below hb)
  have HB5 := Lib.hid (HB4.out.trans ((hb).mono HB4.out.size))
  clear O2 X1 V0_0 HB4
  have Q0 := Lib.hid hQ
  clear hb hQ
  have hX := Box.new w6 35 #[.int .i64 P, .slice A9 nn c9]
  have hba : Below w6.heap.size w6 (World.alloc w6 (.cells #[.int .i64 P, .slice A9 nn c9] 35)) := (Below.refl _ w6).alloc (Nat.le_refl _) _
  have O4 := Lib.hid (O3.out.below hba)
  have X3 := Lib.hid (X2.out.below hba X2.out.lt)
  have V0_2 := Lib.hid (V0_1.out.below hba)
  have Q1 := Lib.hid (Q0.out.below hba)
  have HB6 := Lib.hid (HB5.out.trans ((hba).mono HB5.out.size))
  clear O3 X2 V0_1 Q0 HB5
  have Y0 := Lib.hid hX
  clear hX hba
  obtain ⟨x0, x1, _, _⟩ := X3.out.two
  obtain ⟨y0, y1, _, _⟩ := Y0.out.two
  go_wp2_with fail
  generalize hWW : World.alloc w6 (.cells #[.int .i64 P, .slice A9 nn c9] 35) = WY at *
  clear hWW
  generalize w6.heap.size = bY at *
  refine (eqState_calls A9 AO nn c9 nn cO P P LL LL _ HLL.out HLL.out hnn hnn (Own.ints Q1.out) (Own.ints O4.out)).mono ?_
  rintro e w7 ⟨rfl, hb⟩
  have O5 := Lib.hid (O4.out.below hb)
  have X4 := Lib.hid (X3.out.below hb X3.out.lt)
  have V0_3 := Lib.hid (V0_2.out.below hb)
  have Q2 := Lib.hid (Q1.out.below hb)
  have Y1 := Lib.hid (Y0.out.below hb Y0.out.lt)
  have HB7 := Lib.hid (HB6.out.trans ((hb).mono HB6.out.size))
  clear O4 X3 V0_2 Q1 Y0 HB6
  clear hb
  clear x0 x1 y0 y1
  have hc := Lib.hid (hI0.below HB7.out)
  go_wp2_with fail
  refine (toInt64S_calls A0 n0 c0 L0 _ HL0.out hn0 hc.out).mono ?_
  rintro e w8 ⟨gr, rfl, hg, hr, hb⟩
  have O6 := Lib.hid (O5.out.below hb)
  have X5 := Lib.hid (X4.out.below hb X4.out.lt)
  have V0_4 := Lib.hid (V0_3.out.below hb)
  have Q3 := Lib.hid (Q2.out.below hb)
  have Y2 := Lib.hid (Y1.out.below hb Y1.out.lt)
  have HB8 := Lib.hid (HB7.out.trans ((hb).mono HB7.out.size))
  clear O5 X4 V0_3 Q2 Y1 HB7
  go_wp2_with fail
  refine (eqInt64S_calls (some ⟨v0, 0, none⟩) (some ⟨gr, 0, none⟩) n0 n0 n0 n0 L0 L0 _ HL0.out HL0.out hn0 hn0 (Own.ints V0_4.out) hr.ints).mono ?_
  rintro e w9 ⟨rfl, mq, rfl⟩
  clear hb hg hr hc
  have O7 := Lib.hid (O6.out.below (belowDraws (Below.refl _ _) mq))
  have X6 := Lib.hid (X5.out.below (belowDraws (Below.refl _ _) mq) X5.out.lt)
  have V0_5 := Lib.hid (V0_4.out.below (belowDraws (Below.refl _ _) mq))
  have Q4 := Lib.hid (Q3.out.below (belowDraws (Below.refl _ _) mq))
  have Y3 := Lib.hid (Y2.out.below (belowDraws (Below.refl _ _) mq) Y2.out.lt)
  have HB9 := Lib.hid (HB8.out.trans (((belowDraws (Below.refl _ _) mq)).mono HB8.out.size))
  clear O6 X5 V0_4 Q3 Y2 HB8
  go_wp2_with fail
  refine (markInt64S_calls _ (some ⟨v0, 0, none⟩) n0 n0 L0 (1) _ V0_5.out hn0 (by omega) (by omega)).mono ?_
  rintro e w10 ⟨rfl, hO, hg⟩
  have O8 := Lib.hid (O7.out.kept hg AP1.out)
  have X7 := Lib.hid (X6.out.grown hg (V0_5.out.box_ne X6.out (by decide)))
  have Q5 := Lib.hid (Q4.out.kept hg AB3.out)
  have Y4 := Lib.hid (Y3.out.grown hg (V0_5.out.box_ne Y3.out (by decide)))
  have V0_6 := Lib.hid hO
  have HB10 := Lib.hid (HB9.out.grown hg HB9.out.size (fun k hk => by have h1 := own_bk V0_5.out k hk; omega))
  clear O7 X6 V0_5 Q4 Y3 HB9 hO hg
  obtain ⟨x0, x1, _, _⟩ := X7.out.two
  obtain ⟨y0, y1, _, _⟩ := Y4.out.two
  go_wp2_with fail
  refine (eqState_calls A9 AO nn c9 nn cO P P LL LL _ HLL.out HLL.out hnn hnn (Own.ints Q5.out) (Own.ints O8.out)).mono ?_
  rintro e w7 ⟨rfl, hb⟩
  have O9 := Lib.hid (O8.out.below hb)
  have X8 := Lib.hid (X7.out.below hb X7.out.lt)
  have Q6 := Lib.hid (Q5.out.below hb)
  have Y5 := Lib.hid (Y4.out.below hb Y4.out.lt)
  have HB11 := Lib.hid (HB10.out.trans ((hb).mono HB10.out.size))
  clear O8 X7 Q5 Y4 HB10
  clear hb
  clear x0 x1 y0 y1
  obtain ⟨y0, y1, _, _⟩ := Y5.out.two
  go_wp2_with fail
  refine (markState_calls _ A9 nn c9 P LL 1 _ Q6.out hnn (by omega) (by omega)).mono ?_
  rintro e w12 ⟨rfl, hO, hg⟩
  have O10 := Lib.hid (O9.out.kept hg AP2.out)
  have X9 := Lib.hid (X8.out.grown hg (Q6.out.box_ne X8.out (by decide)))
  have Y6 := Lib.hid (Y5.out.grown hg (Q6.out.box_ne Y5.out (by decide)))
  have Q7 := Lib.hid hO
  have HB12 := Lib.hid (HB11.out.grown hg HB11.out.size (fun k hk => by have h1 := own_bk Q6.out k hk; omega))
  clear O9 X8 Q6 Y5 HB11 hO hg
  clear y0 y1
  obtain ⟨y0, y1, _, _⟩ := Y6.out.two
  go_wp2_with fail
  refine (heldState_calls A9 nn c9 P 1 _ (Own.ints Q7.out) hnn (by omega) (by omega)).mono ?_
  rintro e w13 ⟨rfl, hb⟩
  have O11 := Lib.hid (O10.out.below hb)
  have X10 := Lib.hid (X9.out.below hb X9.out.lt)
  have Q8 := Lib.hid (Q7.out.below hb)
  have Y7 := Lib.hid (Y6.out.below hb Y6.out.lt)
  have HB13 := Lib.hid (HB12.out.trans ((hb).mono HB12.out.size))
  clear O10 X9 Q7 Y6 HB12
  clear hb
  clear y0 y1
  have hc := Lib.hid (hI0.below HB13.out)
  go_wp2_with fail
  refine (toInt64S_calls A0 n0 c0 L0 _ HL0.out hn0 hc.out).mono ?_
  rintro e w1 ⟨h0, rfl, hg, hr, hb⟩
  have O12 := Lib.hid (O11.out.below hb)
  have X11 := Lib.hid (X10.out.below hb X10.out.lt)
  have Q9 := Lib.hid (Q8.out.below hb)
  have Y8 := Lib.hid (Y7.out.below hb Y7.out.lt)
  have HB14 := Lib.hid (HB13.out.trans ((hb).mono HB13.out.size))
  clear O11 X10 Q8 Y7 HB13
  have T0_0 := Lib.hid (hr.ints)
  clear hb hg hr hc
  go_wp2_with fail
  refine (HP.out h0 _ T0_0.out).mono ?_
  rintro e w15 ⟨A14, c14, rfl, hK, hb⟩
  have O13 := Lib.hid (O12.out.below hb)
  have X12 := Lib.hid (X11.out.below hb X11.out.lt)
  have Q10 := Lib.hid (Q9.out.below hb)
  have Y9 := Lib.hid (Y8.out.below hb Y8.out.lt)
  have HB15 := Lib.hid (HB14.out.trans ((hb).mono HB14.out.size))
  clear O12 X11 Q9 Y8 T0_0 HB14
  have K0 := Lib.hid hK
  clear hK hb
  have hX := Box.new w15 35 #[.int .i64 P, .slice A14 nn c14]
  have hba : Below w15.heap.size w15 (World.alloc w15 (.cells #[.int .i64 P, .slice A14 nn c14] 35)) := (Below.refl _ w15).alloc (Nat.le_refl _) _
  have O14 := Lib.hid (O13.out.below hba)
  have X13 := Lib.hid (X12.out.below hba X12.out.lt)
  have Q11 := Lib.hid (Q10.out.below hba)
  have Y10 := Lib.hid (Y9.out.below hba Y9.out.lt)
  have K1 := Lib.hid (K0.out.below hba)
  have HB16 := Lib.hid (HB15.out.trans ((hba).mono HB15.out.size))
  clear O13 X12 Q10 Y9 K0 HB15
  have Z0 := Lib.hid hX
  clear hX hba
  obtain ⟨x0, x1, _, _⟩ := X13.out.two
  obtain ⟨z0, z1, _, _⟩ := Z0.out.two
  go_wp2_with fail
  generalize hWW : World.alloc w15 (.cells #[.int .i64 P, .slice A14 nn c14] 35) = WZ at *
  clear hWW
  generalize w15.heap.size = bZ at *
  refine (eqState_calls A14 AO nn c14 nn cO P P LL LL _ HLL.out HLL.out hnn hnn (Own.ints K1.out) (Own.ints O14.out)).mono ?_
  rintro e w7 ⟨rfl, hb⟩
  have O15 := Lib.hid (O14.out.below hb)
  have X14 := Lib.hid (X13.out.below hb X13.out.lt)
  have Q12 := Lib.hid (Q11.out.below hb)
  have Y11 := Lib.hid (Y10.out.below hb Y10.out.lt)
  have K2 := Lib.hid (K1.out.below hb)
  have Z1 := Lib.hid (Z0.out.below hb Z0.out.lt)
  have HB17 := Lib.hid (HB16.out.trans ((hb).mono HB16.out.size))
  clear O14 X13 Q11 Y10 K1 Z0 HB16
  clear hb
  clear x0 x1 z0 z1
  obtain ⟨y0, y1, _, _⟩ := Y11.out.two
  go_wp2_with fail
  refine (heldState_calls A9 nn c9 P 1 _ (Own.ints Q12.out) hnn (by omega) (by omega)).mono ?_
  rintro e w13 ⟨rfl, hb⟩
  have O16 := Lib.hid (O15.out.below hb)
  have X15 := Lib.hid (X14.out.below hb X14.out.lt)
  have Q13 := Lib.hid (Q12.out.below hb)
  have Y12 := Lib.hid (Y11.out.below hb Y11.out.lt)
  have K3 := Lib.hid (K2.out.below hb)
  have Z2 := Lib.hid (Z1.out.below hb Z1.out.lt)
  have HB18 := Lib.hid (HB17.out.trans ((hb).mono HB17.out.size))
  clear O15 X14 Q12 Y11 K2 Z1 HB17
  clear hb
  clear y0 y1
  go_wp2
  go_ret
  exact ⟨rfl, by first | exact HB18.out | (rw [← World.drewN_drewN]; exact HB18.out)⟩

theorem walk (A0 : Option Addr) (n0 c0 : Nat) (L0 : List Int) (w : World) (hA0 : ArgInts w A0 n0 L0) :
    Calls Try.prog 7 #[.slice A0 n0 c0] w fun e w' => e = .returned (.bool true) ∧ Below w.heap.size w w' := by
  obtain ⟨hL0, hm0, hI0⟩ := hA0
  by_cases hn0 : (1048576 : Int) < n0
  · go_enter Try.func7, Try.ntmps7
    go_wp2
    go_ret
    exact ⟨rfl, Below.refl _ _⟩
  exact core A0 n0 c0 L0 (sowP L0) (wcode 3 L0) (sowV L0) (sowV L0).length (by have := sowV_len L0; omega) rfl w hL0 (by omega) hI0
    (fun g0 W hW0 => specStateOfWord_ret (some ⟨g0, 0, none⟩) n0 n0 L0 W hL0 (by omega) hW0)
    (fun g0 W hW0 => implStateOfWord_ret (some ⟨g0, 0, none⟩) n0 n0 L0 W hL0 (by omega) hW0)

set_option maxRecDepth 100000 in
theorem lifted (os : Os) (started : os.Started) (H : Type) (enc : TypeId × Value → H) :
    ReturnsInHanded {} Try.checked os 7 .any (Rows.fnExactStateOfWordSpec.pre6 enc Try.prog Try.f7 Rows.fnExactStateOfWordRow.domain false) (Rows.fnExactStateOfWordSpec.post enc Try.prog Try.f7 false true false false) := by
  refine returnsInHanded_of_change (C := Try.checked) own started (by kernel_rfl) Try.func7
    (ChangeSpec.witness6 (enc := enc) (C := Try.checked) false ⟨#[], #[.slice none 0 0], []⟩ 8 (by kernel_rfl) (by kernel_rfl) (by kernel_rfl) (by kernel_rfl)) ?_
  intro W base args ds gs before hval0 hW hcnd _
  have hval : ∀ (j : Nat) t v, Try.f7.params[j]? = some t → args[j]? = some v → Value.okWide Try.prog W .any base t v := hval0
  have hW' := hW
  obtain ⟨p, q, hA0, hV, rfl, hfz, hnd⟩ := hW
  have hA : DataW.TrodAll enc Try.prog W 0 (fun _ => true) true Try.f7.params.toList args.toList ds p := hA0
  rw [Try.params7] at hA hval
  obtain ⟨v0, vs0, d0, ds0, p0, q0, hargs, rfl, rfl, h0, r0⟩ := trodAll_cons hA
  obtain ⟨rfl, rfl, rfl⟩ := trodAll_nil r0
  obtain rfl : args = #[v0] := by cases args; simp_all
  obtain ⟨rfl, rfl⟩ := trodVars_none hV
  have lt0 : ∀ x ∈ p0, x.block < W.heap.size := by obtain ⟨m, hm⟩ := h0; exact DataW.trod_lt m _ _ _ hm
  have k0 := h0
  obtain ⟨fu0, hf0⟩ := h0
  obtain ⟨A0, n0, c0, rfl⟩ := okWide_slice Try.underlying22 (hval 0 22 v0 rfl rfl)
  obtain ⟨A'0, n'0, c'0, L0, he0, hAI0⟩ := open_slice_ints (by simpa [Value.cells] using hf0)
  injection he0 with e1 e2 e3; subst e1 e2 e3
  clear hA0 hval0
  refine (walk A0 n0 c0 L0 W hAI0).mono fun e W' ⟨he, bel⟩ => ?_
  subst he
  exact ⟨_, rfl, _, _, _, [], _, [], hW', trodAll_mk1 (shut_bool Try.underlying4 _), (trodAll_cons_mk (Below.trod laidOut (by kernel_rfl) (of_decide_eq_true (by kernel_rfl)) k0 bel lt0) trodAll_mk0), rfl, bel.frame _, fun h => by cases h⟩

theorem over : Rows.fnExactStateOfWordRow.holds Try.pinned (OpenSpec.ofChange Rows.fnExactStateOfWordSpec) :=
  OpenClaim.holds_of_wide 7 Try.f7 rfl rfl rfl rfl rfl rfl rfl ⟨rfl, rfl, rfl, rfl, rfl⟩ rfl rfl rfl rfl rfl (by kernel_rfl) Try.func7 (by kernel_rfl)
    (of_decide_eq_true (by kernel_rfl)) (by unfold Func.isWrapper; first | (rw [if_pos (by decide +kernel)]; kernel_rfl) | (rw [if_neg (by decide +kernel)]; exact ⟨rfl, rfl⟩))
    (fun os started H enc _ => lifted os started H enc)

theorem proved : Rows.FnExactStateOfWordSaid := over
#print axioms proved
end Go.Proofs.Ytnfjdggiaodhmaa.fnExactStateOfWord
