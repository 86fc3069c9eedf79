/- 'RulerList' of the program answers at every argument as the specification's model, and its answer is its own memory, the table math/bits.deBruijn64tab being as its own initialiser lays it (a tied card). Conditions: none. -/
import Derived.Test.YtlhcenhlcajgnaaDoorOpen
import Derived.Test.YtlhcenhlcajgnaaDoorMark
import Derived.Test.YtlhcenhlcajgnaaDoorApart
import Derived.Test.YtlhcenhlcajgnaaDoorRuler
import Derived.Test.YtlhcenhlcajgnaaDoorDoor
import Derived.Deep.RegionHeld3
import Derived.Test.YtlhcenhlcajgnaaDoorCards
import Derived.Test.YtlhcenhlcajgnaaDoorTie
import Derived.SevenTiedAt
import Derived.LaidMore
import Derived.Stop.Joined
namespace Go.Proofs.YtlhcenhlcajgnaaDoor.fnExactRulerList
open Go.ChangeShapes Go.WideShapes Go.ChangeAt Go.RowKit Go.Joins
open Go.ChangeMaps (open_string)
set_option linter.unusedVariables false

set_option maxRecDepth 100000 in
set_option maxHeartbeats 4000000 in
theorem core (a0 : Int) (E : Int) (LL : List Int) (nn : Nat) (hnn : nn ≤ 1048576) (hLL : LL.length = nn) (w : World) (hT : Tab w)
    (hspec : ∀ W, Calls Tryd.prog 4 #[.int .i64 a0] W (RetInts W nn LL E))
    (himpl : ∀ W, Tab W → Calls Tryd.prog 5 #[.int .i64 a0] W (RetInts W nn LL E)) :
    Calls Tryd.prog 3 #[.int .i64 a0] w fun e w' => e = .returned (.bool true) ∧ Below w.heap.size w w' := by
  have HS := Lib.hid hspec
  have HP := Lib.hid himpl
  have HLL := Lib.hid hLL
  have HT := Lib.hid hT
  have HB0 := Lib.hid (Below.refl w.heap.size w)
  clear hspec himpl hLL hT
  go_enter Tryd.func3, Tryd.ntmps3
  go_wp2_with fail
  refine (HS.out _).mono ?_
  rintro e w1 ⟨A0, c0, rfl, hO, hb⟩
  have HB1 := Lib.hid (HB0.out.trans ((hb).mono HB0.out.size))
  clear HB0
  have O0 := Lib.hid hO
  clear hO hb
  have HTx := Lib.hid (HT.out.below HB1.out)
  go_wp2_with fail
  refine (HP.out _ HTx.out).mono ?_
  rintro e w2 ⟨A9, c9, rfl, hQ, hb⟩
  have BQ := HB1.out.size
  have AZ := Lib.hid (own_apart O0.out hQ (Nat.le_refl _))
  have AW := Lib.hid (own_apart_back O0.out hQ (Nat.le_refl _))
  have O1 := Lib.hid (O0.out.below hb)
  have HB2 := Lib.hid (HB1.out.trans ((hb).mono HB1.out.size))
  clear O0 HB1
  have Q0 := Lib.hid hQ
  clear hb hQ HTx
  go_wp2_with fail
  refine (eqInt64S_calls A9 A0 nn c9 nn c0 LL LL _ HLL.out HLL.out hnn hnn Q0.out.ints O1.out.ints).mono ?_
  rintro e w7 ⟨rfl, mq, rfl⟩
  have O2 := Lib.hid (O1.out.below (belowDraws (Below.refl _ _) mq))
  have Q1 := Lib.hid (Q0.out.below (belowDraws (Below.refl _ _) mq))
  have HB3 := Lib.hid (HB2.out.trans (((belowDraws (Below.refl _ _) mq)).mono HB2.out.size))
  clear O1 Q0 HB2
  go_wp2_with fail
  refine (markInt64S_calls _ A9 nn c9 LL 1 _ Q1.out hnn (by omega) (by omega)).mono ?_
  rintro e w12 ⟨rfl, hO, hg⟩
  have O3 := Lib.hid (O2.out.kept hg AZ.out)
  have Q2 := Lib.hid hO
  have HB4 := Lib.hid (HB3.out.grown hg HB3.out.size (fun k hk => by have h1 := own_bk Q1.out k hk; omega))
  clear O2 Q1 HB3 hO hg
  go_wp2_with fail
  refine (heldInt64S_calls A9 nn c9 1 _ Q2.out.ints hnn (by omega) (by omega)).mono ?_
  rintro e w13 ⟨rfl, mq, rfl⟩
  have O4 := Lib.hid (O3.out.below (belowDraws (Below.refl _ _) mq))
  have Q3 := Lib.hid (Q2.out.below (belowDraws (Below.refl _ _) mq))
  have HB5 := Lib.hid (HB4.out.trans (((belowDraws (Below.refl _ _) mq)).mono HB4.out.size))
  clear O3 Q2 HB4
  have HTx := Lib.hid (HT.out.below HB5.out)
  go_wp2_with fail
  refine (HP.out _ HTx.out).mono ?_
  rintro e w15 ⟨A14, c14, rfl, hK, hb⟩
  have O5 := Lib.hid (O4.out.below hb)
  have Q4 := Lib.hid (Q3.out.below hb)
  have HB6 := Lib.hid (HB5.out.trans ((hb).mono HB5.out.size))
  clear O4 Q3 HB5
  have K0 := Lib.hid hK
  clear hK hb HTx
  go_wp2_with fail
  refine (eqInt64S_calls A14 A0 nn c14 nn c0 LL LL _ HLL.out HLL.out hnn hnn K0.out.ints O5.out.ints).mono ?_
  rintro e w7 ⟨rfl, mq, rfl⟩
  have O6 := Lib.hid (O5.out.below (belowDraws (Below.refl _ _) mq))
  have Q5 := Lib.hid (Q4.out.below (belowDraws (Below.refl _ _) mq))
  have K1 := Lib.hid (K0.out.below (belowDraws (Below.refl _ _) mq))
  have HB7 := Lib.hid (HB6.out.trans (((belowDraws (Below.refl _ _) mq)).mono HB6.out.size))
  clear O5 Q4 K0 HB6
  go_wp2_with fail
  refine (heldInt64S_calls A9 nn c9 1 _ Q5.out.ints hnn (by omega) (by omega)).mono ?_
  rintro e w13 ⟨rfl, mq, rfl⟩
  have O7 := Lib.hid (O6.out.below (belowDraws (Below.refl _ _) mq))
  have Q6 := Lib.hid (Q5.out.below (belowDraws (Below.refl _ _) mq))
  have K2 := Lib.hid (K1.out.below (belowDraws (Below.refl _ _) mq))
  have HB8 := Lib.hid (HB7.out.trans (((belowDraws (Below.refl _ _) mq)).mono HB7.out.size))
  clear O6 Q5 K1 HB7
  go_wp2
  go_ret
  exact ⟨rfl, by first | exact HB8.out | (rw [← World.drewN_drewN]; exact HB8.out)⟩

theorem walk (a0 : Int) (w : World) (ha0 : (Lit.int .i64 a0).wf = true) (hT : Tab w) :
    Calls Tryd.prog 3 #[.int .i64 a0] w fun e w' => e = .returned (.bool true) ∧ Below w.heap.size w w' :=
  core a0 (dcE a0) (dcV a0) (dcV a0).length (by exact dcV_len _) rfl w hT (fun W => specRulerList_ret a0 W) (fun W h => implRulerList_ret a0 W h)

theorem door_met (os : Os) (args : Array Value) : laidMetH Tryd.prog Rows.fnExactRulerListRow.laid ((World.doorLaid Tryd.prog 14 os).forCall (fun _ _ => 0) ⟨#[], args, []⟩).memory :=
  laidMetH_of_parts3 (fuel := 8) (laidMet_of_run' 8 (by kernel_rfl) (by kernel_rfl)) (by kernel_rfl) (by kernel_rfl)
theorem tab_of_laid {W : World} (h : laidMetH Tryd.prog Rows.fnExactRulerListRow.laid W) : Tab W := by
  rw [MakeChecks.laidMetH_plain _ _ _ (by kernel_rfl)] at h
  exact tab_of h

set_option maxRecDepth 100000 in
theorem lifted (os : Os) (started : os.Started) (H : Type) (enc : TypeId × Value → H) :
    ReturnsInHanded {} Tryd.checked os 3 .any (fun w args => (Rows.fnExactRulerListSpec.pre enc Tryd.prog Tryd.f3 [] false w args ∧ laidMetH Tryd.prog Rows.fnExactRulerListRow.laid w) ∧ sizedMet enc Tryd.prog Tryd.f3 (OpenSpec.ofChange Rows.fnExactRulerListSpec) false w args)
      (Rows.fnExactRulerListSpec.post enc Tryd.prog Tryd.f3 false true false false) := by
  refine returnsInHanded_of_change_and (C := Tryd.checked) (X := fun w _ => laidMetH Tryd.prog Rows.fnExactRulerListRow.laid w) (fun _ _ _ hh h => h.of_heap hh) own started (by kernel_rfl) Tryd.func3
    (ChangeSpec.witness_shaped (enc := enc) (C := Tryd.checked) (os := os) (X := fun w _ => laidMetH Tryd.prog Rows.fnExactRulerListRow.laid w) false (World.doorLaid Tryd.prog 14 os) #[.int .i64 0] 8 rfl (World.shaped_of_RefB (by kernel_rfl) (by kernel_rfl)) (by kernel_rfl) (by kernel_rfl) (by kernel_rfl) (door_met os _)) ?_
  intro W base args ds gs before hval0 hW _ _ hL _
  have hval : ∀ (j : Nat) t v, Tryd.f3.params[j]? = some t → args[j]? = some v → Value.okWide Tryd.prog W .any base t v := hval0
  have hW' := hW
  obtain ⟨p, q, hA0, hV, rfl, hfz, hnd⟩ := hW
  have hA : DataW.TrodAll enc Tryd.prog W 0 (fun _ => true) true Tryd.f3.params.toList args.toList ds p := hA0
  rw [Tryd.params3] at hA hval
  obtain ⟨v0, vs0, d0, ds0, p0, q0, hargs, rfl, rfl, h0, r0⟩ := trodAll_cons hA
  obtain ⟨rfl, rfl, rfl⟩ := trodAll_nil r0
  obtain rfl : args = #[v0] := by cases args; simp_all
  obtain ⟨rfl, rfl⟩ := trodVars_none hV
  have lt0 : ∀ x ∈ p0, x.block < W.heap.size := by obtain ⟨m, hm⟩ := h0; exact DataW.trod_lt m _ _ _ hm
  have k0 := h0
  obtain ⟨a0, rfl, rfl, rfl, w0⟩ := open_int Tryd.underlying2 (hval 0 2 v0 rfl rfl) h0
  clear hA0 hval0
  refine ((walk a0 W w0 (tab_of_laid hL))).mono fun e W' ⟨he, bel⟩ => ?_
  subst he
  exact ⟨_, rfl, _, _, _, [], _, [], hW', trodAll_mk1 (shut_bool Tryd.underlying4 _), (trodAll_cons_mk (Below.trod laidOut (by kernel_rfl) (of_decide_eq_true (by kernel_rfl)) k0 bel lt0) trodAll_mk0), rfl, bel.frame _, fun h => by cases h⟩

theorem over : Rows.fnExactRulerListRow.holds Tryd.pinned (OpenSpec.ofChange Rows.fnExactRulerListSpec) :=
  OpenClaim.holds_of_wide 3 Tryd.f3 rfl rfl rfl rfl rfl rfl rfl ⟨rfl, rfl, rfl, rfl, rfl⟩ rfl rfl rfl rfl rfl (by kernel_rfl) Tryd.func3 (by kernel_rfl)
    (of_decide_eq_true (by kernel_rfl)) (by unfold Func.isWrapper; first | (rw [if_pos (by decide +kernel)]; kernel_rfl) | (rw [if_neg (by decide +kernel)]; exact ⟨rfl, rfl⟩))
    (fun os started H enc _ => lifted os started H enc)

theorem proved : Rows.FnExactRulerListCardSaid :=
  Claim7.holds_tied_plain_at .later [] [.data] true _ _
    over (fun _ h => by cases h) (by kernel_rfl) (fun _ h => by cases h) fnExactRulerList_row_tie rfl ⟨rfl, rfl⟩ (by kernel_rfl) rfl
    (fun f fn hf hfn => by
      obtain rfl : f = 3 := Option.some.inj ((show Tryd.prog.funcNamed "loop.example/g01321/laws.FnExactRulerList" = some 3 by kernel_rfl).symm.trans hf) |>.symm
      obtain rfl : fn = Tryd.f3 := (Option.some.inj (Tryd.func3.symm.trans hfn)).symm
      exact ⟨by kernel_rfl, fun j t ht => by
        rw [Tryd.params3] at ht
        have hm : t ∈ [2] := by simpa using Array.mem_of_getElem? ht
        have hall : ([2].all fun u => !Tryd.prog.wantsStandIn u) = true := by kernel_rfl
        exact (show Tryd.prog.wantsStandIn t = false by simpa using List.all_eq_true.1 hall t hm)⟩)
    (by kernel_rfl)
#print axioms proved
end Go.Proofs.YtlhcenhlcajgnaaDoor.fnExactRulerList
