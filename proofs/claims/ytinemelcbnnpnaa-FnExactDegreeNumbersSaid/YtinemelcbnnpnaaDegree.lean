/- Contracts: the degree of a state. -/
import Derived.Test.YtinemelcbnnpnaaIter
import Derived.Test.YtinemelcbnnpnaaSpecMoves
import Derived.RangeFuncBox
namespace Go.Proofs.Ytinemelcbnnpnaa
open Go.RowKit Go.Shelf
set_option linter.unusedVariables false
attribute [local go_sem] Oper.semAt_some

set_option maxRecDepth 100000 in
set_option maxHeartbeats 2000000 in
theorem degreeOf_calls (A : Option Addr) (n c : Nat) (p : Int) (L : List Int) (w : World) (hL : L.length = n) (hcap : n ≤ c) (hc63 : c ≤ 9223372036854775807) (hI : Ints w A L) (hs : stateB p L = true) :
    Calls Try.prog 57 #[.agg #[.int .i64 p, .slice A n c]] w fun e w' => e = .returned (.int .i64 (movesL p L).length) ∧ Below w.heap.size w w' := by
  have HL := Lib.hid hL
  have HS := Lib.hid hs
  clear hL hs
  refine (callsIn_wide (n := 6)).1 ?_
  refine callsIn_of_wp_marks Try.func57 rfl trivial ?_ rfl
  simp only [Try.ntmps57, List.size_toArray, List.length_cons, List.length_nil, Nat.reduceAdd, Nat.reduceSub, Array.replicate_succ, Array.replicate_zero, List.push_toArray, List.append_toArray, List.nil_append, List.cons_append]
  gi_wp2_with (refine ⟨trivial, ?_⟩; gi_at_call 42; refine (legalMoves_calls _ A n c p _).mono ?_; rintro e w' ⟨rfl, rfl⟩)
  have hb3 : Below w.heap.size w (((w.alloc (.cells #[.int .i64 p, .slice A n c] 29)).alloc (.cells #[.int .i64 0] 2)).alloc (.cells #[.int .i64 p, .slice A n c] 29)) := (((Below.refl _ _).alloc (Nat.le_refl _) _).alloc (by simp) _).alloc (by simp; omega) _
  have bD := Boxed.new (w.alloc (.cells #[.int .i64 p, .slice A n c] 29)) 2 (.int .i64 0)
  rw [World.size_alloc] at bD
  have bS := Box.new ((w.alloc (.cells #[.int .i64 p, .slice A n c] 29)).alloc (.cells #[.int .i64 0] 2)) 29 #[.int .i64 p, .slice A n c]
  simp only [World.size_alloc] at bS
  refine wpIn_rangeFunc_ownG rfl (by omega) (gf := 63) (lb := #[.pointer (some ⟨w.heap.size + 1 + 1, 0, none⟩)]) rfl trivial (enters_of Try.func63 (by kernel_rfl) rfl)
    (legalMoves_stops _ (w.heap.size + 1 + 1) (by omega) A n c p L HL.out hcap hc63 HS.out _ bS (hI.below hb3)) (fun h k => keepB_t h k) (keepB_b (by intro b hb; have := stS_cases hI hb; simp; omega)) (Below.refl _ _) (fun _ => rfl)
    (fun pre W => Boxed W (w.heap.size + 1) 2 (.int .i64 pre.length) ∧ Below w.heap.size w W)
    (fun _ _ _ => False)
    (OwnFrom.and (Own.from (boxed_own _ _ (fun pre : List Mv => .int .i64 pre.length)) _) (ownFrom_below (Nat.le_refl _) (by simp; omega)))
    (fun _ _ _ _ _ hs _ _ => hs)
    ⟨bD.alloc _, hb3⟩
    (fun x => { tmps := #[.agg #[.int .i64 p, .slice A n c], .pointer (some ⟨w.heap.size, 0, none⟩), .int .i64 0, .pointer (some ⟨w.heap.size + 1, 0, none⟩), .agg #[.int .i64 p, .slice A n c], .func (.func 63) #[] #[.pointer (some ⟨w.heap.size + 1 + 1, 0, none⟩)], mvV x, undef, undef, undef], defers := [] }) ?assign ?body ?done ?stop
  case assign =>
    intro l x W K hK
    gi_wp2
    simpa using hK
  case body =>
    rintro l pre x W ⟨hv, hB⟩ hlt
    have hc := hv.cell
    have hf := hv.frozen
    gi_wp2
    refine ⟨(KeepsOthers.setCell _ _ _).from _, ?_, ?_, hB.setCell (p := ⟨w.heap.size + 1, 0, none⟩) (by simp) _⟩
    · intro b hb
      exact Below.heap_setCell _ _ _ _ (by have := stS_cases hI hb; simp; omega)
    · have := hv.set (.int .i64 ((pre.length : Int) + 1))
      rw [List.length_append]
      simpa using this
  case done =>
    rintro D ys W hD rfl ⟨hv, hB⟩ hK
    have hc := hv.cell
    gi_wp2
    refine ⟨by simp, .inl ⟨_, _, rfl, run_takeDeferred hK, ?_⟩⟩
    exact ⟨_, results_tmp rfl _ _ _, rfl, hB.trans (belowK_b (w := w) (Nat.le_refl _) W D _ _ (by simp at hD; omega) hK rfl rfl)⟩
  case stop =>
    rintro D c pre W _ _ h _
    exact h.elim

/-- What DegreeOf answers. -/
def degV (p : Int) (L : List Int) : Int := if stateB p L = true then ((movesL p L).length : Int) else 0
theorem degV_yes {p : Int} {L : List Int} (h : stateB p L = true) : degV p L = (movesL p L).length := by unfold degV; rw [if_pos h]
theorem degV_no {p : Int} {L : List Int} (h : stateB p L = false) : degV p L = 0 := by unfold degV; rw [h]; rfl

end Go.Proofs.Ytinemelcbnnpnaa
