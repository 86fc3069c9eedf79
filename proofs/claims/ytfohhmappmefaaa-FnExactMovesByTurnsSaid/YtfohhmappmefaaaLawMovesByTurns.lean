/- 'MovesByTurns' of the program answers at every argument as the specification's model, and its answer is its own memory. Conditions: none. -/
import Derived.Test.YtfohhmappmefaaaOpen
import Derived.Test.YtfohhmappmefaaaMark
import Derived.Test.YtfohhmappmefaaaApart
import Derived.Test.YtfohhmappmefaaaMvS
import Derived.Test.YtfohhmappmefaaaTn
import Derived.Deep.RegionHeld3
namespace Go.Proofs.Ytfohhmappmefaaa.fnExactMovesByTurns
open Go.ChangeShapes Go.WideShapes Go.ChangeAt Go.RowKit Go.Joins
open Go.ChangeMaps (open_string)
set_option linter.unusedVariables false

set_option maxRecDepth 100000 in
set_option maxHeartbeats 4000000 in
theorem core (a0 : Int) (E : Int) (LL : List Mv) (nn : Nat) (hnn : nn ≤ 1048576) (hLL : LL.length = nn) (w : World)
    (hspec : ∀ W, Calls Try.prog 7 #[.int .i64 a0] W (RetMvs W nn LL E))
    (himpl : ∀ W, Calls Try.prog 8 #[.int .i64 a0] W (RetMvs W nn LL E)) :
    Calls Try.prog 4 #[.int .i64 a0] w fun e w' => e = .returned (.bool true) ∧ Below w.heap.size w w' := by
  have HS := Lib.hid hspec
  have HP := Lib.hid himpl
  have HLL := Lib.hid hLL
  have HB0 := Lib.hid (Below.refl w.heap.size w)
  clear hspec himpl hLL
  go_enter Try.func4, Try.ntmps4
  go_wp2_with fail
  refine (HS.out _).mono ?_
  rintro e w1 ⟨A0, c0, rfl, hO, hb⟩
  have HB1 := Lib.hid (HB0.out.trans ((hb).mono HB0.out.size))
  clear HB0
  have O0 := Lib.hid hO
  clear hO hb
  go_wp2_with fail
  refine (HP.out _).mono ?_
  rintro e w2 ⟨A9, c9, rfl, hQ, hb⟩
  have BQ := HB1.out.size
  have AZ := Lib.hid (ows_apart O0.out hQ (Nat.le_refl _))
  have AW := Lib.hid (ows_apart_back O0.out hQ (Nat.le_refl _))
  have O1 := Lib.hid (O0.out.below hb)
  have HB2 := Lib.hid (HB1.out.trans ((hb).mono HB1.out.size))
  clear O0 HB1
  have Q0 := Lib.hid hQ
  clear hb hQ
  go_wp2_with fail
  refine (eqMoveS_calls A9 A0 nn c9 nn c0 LL LL _ HLL.out HLL.out hnn hnn (OwnM.mvs Q0.out) (OwnM.mvs O1.out)).mono ?_
  rintro e w7 ⟨rfl, hbq⟩
  have O2 := Lib.hid (O1.out.below hbq)
  have Q1 := Lib.hid (Q0.out.below hbq)
  have HB3 := Lib.hid (HB2.out.trans ((hbq).mono HB2.out.size))
  clear O1 Q0 HB2
  go_wp2_with fail
  refine (markMoveS_calls _ A9 nn c9 (mvF LL) 1 _ Q1.out hnn (by omega) (by omega)).mono ?_
  rintro e w12 ⟨rfl, hO, hg⟩
  have O3 := Lib.hid (O2.out.kept hg AZ.out)
  have Q2 := Lib.hid hO
  have HB4 := Lib.hid (HB3.out.grown hg HB3.out.size (fun k hk => by have h1 := ows_bk Q1.out k hk; omega))
  clear O2 Q1 HB3 hO hg
  go_wp2_with fail
  refine (heldMoveS_calls _ A9 nn c9 1 _ Q2.out hnn (by omega) (by omega)).mono ?_
  rintro e w13 ⟨rfl, hbq⟩
  have O4 := Lib.hid (O3.out.below hbq)
  have Q3 := Lib.hid (Q2.out.below hbq)
  have HB5 := Lib.hid (HB4.out.trans ((hbq).mono HB4.out.size))
  clear O3 Q2 HB4
  go_wp2_with fail
  refine (HP.out _).mono ?_
  rintro e w15 ⟨A14, c14, rfl, hK, hb⟩
  have O5 := Lib.hid (O4.out.below hb)
  have Q4 := Lib.hid (Q3.out.below hb)
  have HB6 := Lib.hid (HB5.out.trans ((hb).mono HB5.out.size))
  clear O4 Q3 HB5
  have K0 := Lib.hid hK
  clear hK hb
  go_wp2_with fail
  refine (eqMoveS_calls A14 A0 nn c14 nn c0 LL LL _ HLL.out HLL.out hnn hnn (OwnM.mvs K0.out) (OwnM.mvs O5.out)).mono ?_
  rintro e w7 ⟨rfl, hbq⟩
  have O6 := Lib.hid (O5.out.below hbq)
  have Q5 := Lib.hid (Q4.out.below hbq)
  have K1 := Lib.hid (K0.out.below hbq)
  have HB7 := Lib.hid (HB6.out.trans ((hbq).mono HB6.out.size))
  clear O5 Q4 K0 HB6
  go_wp2_with fail
  refine (heldMoveS_calls _ A9 nn c9 1 _ Q5.out hnn (by omega) (by omega)).mono ?_
  rintro e w13 ⟨rfl, hbq⟩
  have O7 := Lib.hid (O6.out.below hbq)
  have Q6 := Lib.hid (Q5.out.below hbq)
  have K2 := Lib.hid (K1.out.below hbq)
  have HB8 := Lib.hid (HB7.out.trans ((hbq).mono HB7.out.size))
  clear O6 Q5 K1 HB7
  go_wp2
  go_ret
  exact ⟨rfl, by first | exact HB8.out | (rw [← World.drewN_drewN]; exact HB8.out)⟩

theorem walk (a0 : Int) (w : World) (ha0 : (Lit.int .i64 a0).wf = true) :
    Calls Try.prog 4 #[.int .i64 a0] w fun e w' => e = .returned (.bool true) ∧ Below w.heap.size w w' :=
  core a0 (mtnE a0) (mtnL a0) (mtnL a0).length (by exact mtnL_len _) rfl w (fun W => specMovesByTurns_ret a0 W) (fun W => implMovesByTurns_ret a0 W)

set_option maxRecDepth 100000 in
theorem lifted (os : Os) (started : os.Started) (H : Type) (enc : TypeId × Value → H) :
    ReturnsInHanded {} Try.checked os 4 .any (Rows.fnExactMovesByTurnsSpec.pre6 enc Try.prog Try.f4 Rows.fnExactMovesByTurnsRow.domain false) (Rows.fnExactMovesByTurnsSpec.post enc Try.prog Try.f4 false true false false) := by
  refine returnsInHanded_of_change (C := Try.checked) own started (by kernel_rfl) Try.func4
    (ChangeSpec.witness6 (enc := enc) (C := Try.checked) false ⟨#[], #[.int .i64 0], []⟩ 8 (by kernel_rfl) (by kernel_rfl) (by kernel_rfl) (by kernel_rfl)) ?_
  intro W base args ds gs before hval0 hW hcnd _
  have hval : ∀ (j : Nat) t v, Try.f4.params[j]? = some t → args[j]? = some v → Value.okWide Try.prog W .any base t v := hval0
  have hW' := hW
  obtain ⟨p, q, hA0, hV, rfl, hfz, hnd⟩ := hW
  have hA : DataW.TrodAll enc Try.prog W 0 (fun _ => true) true Try.f4.params.toList args.toList ds p := hA0
  rw [Try.params4] at hA hval
  obtain ⟨v0, vs0, d0, ds0, p0, q0, hargs, rfl, rfl, h0, r0⟩ := trodAll_cons hA
  obtain ⟨rfl, rfl, rfl⟩ := trodAll_nil r0
  obtain rfl : args = #[v0] := by cases args; simp_all
  obtain ⟨rfl, rfl⟩ := trodVars_none hV
  have lt0 : ∀ x ∈ p0, x.block < W.heap.size := by obtain ⟨m, hm⟩ := h0; exact DataW.trod_lt m _ _ _ hm
  have k0 := h0
  obtain ⟨a0, rfl, rfl, rfl, w0⟩ := open_int Try.underlying2 (hval 0 2 v0 rfl rfl) h0
  clear hA0 hval0
  refine (walk a0 W w0).mono fun e W' ⟨he, bel⟩ => ?_
  subst he
  exact ⟨_, rfl, _, _, _, [], _, [], hW', trodAll_mk1 (shut_bool Try.underlying4 _), (trodAll_cons_mk (Below.trod laidOut (by kernel_rfl) (of_decide_eq_true (by kernel_rfl)) k0 bel lt0) trodAll_mk0), rfl, bel.frame _, fun h => by cases h⟩

theorem over : Rows.fnExactMovesByTurnsRow.holds Try.pinned (OpenSpec.ofChange Rows.fnExactMovesByTurnsSpec) :=
  OpenClaim.holds_of_wide 4 Try.f4 rfl rfl rfl rfl rfl rfl rfl ⟨rfl, rfl, rfl, rfl, rfl⟩ rfl rfl rfl rfl rfl (by kernel_rfl) Try.func4 (by kernel_rfl)
    (of_decide_eq_true (by kernel_rfl)) (by unfold Func.isWrapper; first | (rw [if_pos (by decide +kernel)]; kernel_rfl) | (rw [if_neg (by decide +kernel)]; exact ⟨rfl, rfl⟩))
    (fun os started H enc _ => lifted os started H enc)

theorem proved : Rows.FnExactMovesByTurnsSaid := over
#print axioms proved
end Go.Proofs.Ytfohhmappmefaaa.fnExactMovesByTurns
