/- The great law 'FnStates' holds of every code. Conditions: none. -/
import Derived.Test.YtfdjlgpdbgmdkaaOpen
import Derived.Test.YtfdjlgpdbgmdkaaOpen
import Derived.Test.YtfdjlgpdbgmdkaaDraw
import Derived.Test.YtfdjlgpdbgmdkaaGreat
import Derived.Test.YtfdjlgpdbgmdkaaFnSt
import Derived.Deep.RegionHeld3
namespace Go.Proofs.Ytfdjlgpdbgmdkaa
open Go.ChangeShapes Go.WideShapes Go.ChangeAt Go.RowKit Go.Joins
set_option linter.unusedVariables false

theorem cellsU8 : Try.prog.cellsOf 5 = 1 := by kernel_rfl
theorem u8_of {n : Int} (h : (Lit.int .u8 n).wf = true) : ∃ b : Nat, b < 256 ∧ n = b := by
  have h2 := bounds_u8 h
  exact ⟨n.toNat, by omega, by omega⟩
theorem open_slice_bytes {H : Type} {enc : TypeId × Value → H} {W : World} {fuel : Nat} {v : Value} {x : DataW H × List MemPlace}
    (hf : DataW.trod enc Try.prog W 0 (fun _ => true) true fuel 22 [v] = some x) :
    ∃ (A : Option Addr) (n c : Nat), v = .slice A n c ∧ By W A n ∧ ∀ ad, A = some ad → 0 < n → ad.block < W.heap.size := by
  rcases open_ints Try.underlying22 Try.underlying5 cellsU8 hf with ⟨hcs, _⟩ | ⟨a, l, c, zs, hcs, _, hl, hm, hz, _, hcell, hwz⟩
  · simp only [List.cons.injEq, and_true] at hcs
    exact ⟨none, 0, 0, hcs, fun k hk => by omega, fun ad e => by cases e⟩
  · simp only [List.cons.injEq, and_true] at hcs
    simp only [if_true] at hz
    have each : ∀ k, k < l → ∃ b : Nat, b < 256 ∧ W.cell? (a.add k) = some (.int .u8 b) := by
      intro k hk
      have h := hcell k (by omega)
      obtain ⟨b, hb, e⟩ := u8_of (hwz (zs.getD k 0) (by rw [List.getD_eq_getElem?_getD, List.getElem?_eq_getElem (by omega)]; exact List.getElem_mem _))
      rw [e] at h
      exact ⟨b, hb, h⟩
    refine ⟨some a, l, c, hcs, fun k hk => ?_, fun ad e h0 => ?_⟩
    · obtain ⟨b, hb, h⟩ := each k hk
      exact ⟨a, rfl, by have := block_of_cell h; rwa [add_block] at this, b, hb, h⟩
    · injection e with e
      subst e
      obtain ⟨b, hb, h⟩ := each 0 h0
      have := block_of_cell h
      rwa [add_block] at this

end Go.Proofs.Ytfdjlgpdbgmdkaa

namespace Go.Proofs.Ytfdjlgpdbgmdkaa.fnStates
open Go.ChangeShapes Go.WideShapes Go.ChangeAt Go.RowKit Go.Joins
open Go.ChangeMaps (open_string)
set_option linter.unusedVariables false

set_option maxRecDepth 100000 in
set_option maxHeartbeats 4000000 in
theorem walk (A : Option Addr) (n c : Nat) (w : World) (hA : By w A n) (hl : ∀ ad, A = some ad → 0 < n → ad.block < w.heap.size) :
    Calls Try.prog 3 #[.slice A n c] w fun e w' => e = .returned (.bool true) ∧ Below w.heap.size w w' := by
  by_cases hn : n ≤ 4096
  · exact fnStates_core A n c w hn hA hl
  · go_enter Try.func3, Try.ntmps3
    go_wp2_with fail
    refine (big_yes A n c _ (by omega)).mono ?_
    rintro e w0 ⟨rfl, rfl⟩
    go_wp2
    go_ret
    exact ⟨rfl, Below.refl _ _⟩

set_option maxRecDepth 100000 in
theorem lifted (os : Os) (started : os.Started) (H : Type) (enc : TypeId × Value → H) :
    ReturnsInHanded {} Try.checked os 3 .any (Rows.fnStatesSpec.pre6 enc Try.prog Try.f3 Rows.fnStatesRow.domain false) (Rows.fnStatesSpec.post enc Try.prog Try.f3 false true false false) := by
  refine returnsInHanded_of_change (C := Try.checked) own started (by kernel_rfl) Try.func3
    (ChangeSpec.witness6 (enc := enc) (C := Try.checked) false ⟨#[], #[.slice none 0 0], []⟩ 8 (by kernel_rfl) (by kernel_rfl) (by kernel_rfl) (by kernel_rfl)) ?_
  intro W base args ds gs before hval0 hW hcnd _
  have hval : ∀ (j : Nat) t v, Try.f3.params[j]? = some t → args[j]? = some v → Value.okWide Try.prog W .any base t v := hval0
  have hW' := hW
  obtain ⟨p, q, hA0, hV, rfl, hfz, hnd⟩ := hW
  have hA : DataW.TrodAll enc Try.prog W 0 (fun _ => true) true Try.f3.params.toList args.toList ds p := hA0
  rw [Try.params3] at hA hval
  obtain ⟨v0, vs0, d0, ds0, p0, q0, hargs, rfl, rfl, h0, r0⟩ := trodAll_cons hA
  obtain ⟨rfl, rfl, rfl⟩ := trodAll_nil r0
  obtain rfl : args = #[v0] := by cases args; simp_all
  obtain ⟨rfl, rfl⟩ := trodVars_none hV
  have lt0 : ∀ x ∈ p0, x.block < W.heap.size := by obtain ⟨m, hm⟩ := h0; exact DataW.trod_lt m _ _ _ hm
  have k0 := h0
  obtain ⟨fu0, hf0⟩ := h0
  obtain ⟨A0, n0, c0, rfl⟩ := okWide_slice Try.underlying22 (hval 0 22 v0 rfl rfl)
  obtain ⟨A'0, n'0, c'0, he0, hB0, hl0⟩ := open_slice_bytes (by simpa [Value.cells] using hf0)
  injection he0 with e1 e2 e3; subst e1 e2 e3
  clear hA0 hval0
  refine (walk A0 n0 c0 W hB0 hl0).mono fun e W' ⟨he, bel⟩ => ?_
  subst he
  exact ⟨_, rfl, _, _, _, [], _, [], hW', trodAll_mk1 (shut_bool Try.underlying4 _), (trodAll_cons_mk (Below.trod laidOut (by kernel_rfl) (of_decide_eq_true (by kernel_rfl)) k0 bel lt0) trodAll_mk0), rfl, bel.frame _, fun h => by cases h⟩

theorem over : Rows.fnStatesRow.holds Try.pinned (OpenSpec.ofChange Rows.fnStatesSpec) :=
  OpenClaim.holds_of_wide 3 Try.f3 rfl rfl rfl rfl rfl rfl rfl ⟨rfl, rfl, rfl, rfl, rfl⟩ rfl rfl rfl rfl rfl (by kernel_rfl) Try.func3 (by kernel_rfl)
    (of_decide_eq_true (by kernel_rfl)) (by unfold Func.isWrapper; first | (rw [if_pos (by decide +kernel)]; kernel_rfl) | (rw [if_neg (by decide +kernel)]; exact ⟨rfl, rfl⟩))
    (fun os started H enc _ => lifted os started H enc)

theorem proved : Rows.FnStatesSaid := over
#print axioms proved
end Go.Proofs.Ytfdjlgpdbgmdkaa.fnStates
