/- Contracts: the legal move of another disc. -/
import Derived.Test.YtcicjnpnhaddcaaDoorTnP
import Derived.Test.YtcicjnpnhaddcaaDoorIter
import Derived.RangeFuncBox
import Derived.RangeFuncNested
namespace Go.Proofs.YtcicjnpnhaddcaaDoor
open Go.RowKit Go.Shelf
set_option linter.unusedVariables false
attribute [local go_sem] Oper.semAt_some

def OtI (b B : Nat) (w0 : World) (pre : List Mv) (W : World) : Prop :=
  (∀ m ∈ pre, m.1 = 0) ∧ Box W b 36 #[.int .i64 0, .int .i64 0, .int .i64 0] ∧ Below B w0 W ∧ B + 3 ≤ W.heap.size
def OtX (b B : Nat) (w0 : World) (c : Code) (pre : List Mv) (W : World) : Prop :=
  ∃ q m, c = .ret ∧ pre = q ++ [m] ∧ (∀ m ∈ q, m.1 = 0) ∧ m.1 ≠ 0 ∧ Box W b 36 #[.int .i64 m.1, .int .i64 m.2.1, .int .i64 m.2.2] ∧ Below B w0 W
theorem find_none {M : List Mv} (h : ∀ m ∈ M, m.1 = 0) : M.find? (fun m => m.1 != 0) = none := by
  rw [List.find?_eq_none]
  intro m hm
  simp [h m hm]
theorem find_pre {q M : List Mv} {m : Mv} (hp : q ++ [m] <+: M) (h : ∀ m ∈ q, m.1 = 0) (h2 : m.1 ≠ 0) : M.find? (fun m => m.1 != 0) = some m := by
  obtain ⟨t, rfl⟩ := hp
  rw [List.find?_append, List.find?_append, find_none h]
  simp [h2]

theorem box_set3 {w : World} {b t : Nat} {x y z a c d : Value} (h : Box w b t #[x, y, z]) : Box (((w.setCell ⟨b, 0, none⟩ a).setCell ⟨b, 1, none⟩ c).setCell ⟨b, 2, none⟩ d) b t #[a, c, d] := ((h.set 0 a).set 1 c).set 2 d
theorem heap_set3 (D b : Nat) (h : D ≠ b) (W : World) (x y z : Value) {o : Obj} (hd : W.heap[D]? = some o) :
    (((W.setCell ⟨b, 0, none⟩ x).setCell ⟨b, 1, none⟩ y).setCell ⟨b, 2, none⟩ z).heap[D]? = some o := by
  rw [Below.heap_setCell _ _ _ _ (by exact h), Below.heap_setCell _ _ _ _ (by exact h), Below.heap_setCell _ _ _ _ (by exact h)]
  exact hd

set_option maxRecDepth 100000 in
set_option maxHeartbeats 4000000 in
theorem moveOfOther_calls (A : Option Addr) (n c : Nat) (L : List Int) (w : World) (hL : L.length = n) (hcap : n ≤ c) (hc63 : c ≤ 9223372036854775807) (hI : Ints w A L) (hs : stateB 3 L = true) :
    Calls Tryd.prog 45 #[.agg #[.int .i64 3, .slice A n c]] w fun e w' => e = .returned (.agg #[.int .i64 (otM L).1, .int .i64 (otM L).2.1, .int .i64 (otM L).2.2]) ∧ Below w.heap.size w w' := by
  have HL := Lib.hid hL
  have HS := Lib.hid hs
  clear hL hs
  obtain ⟨p, hp⟩ : ∃ p : Int, p = 3 := ⟨_, rfl⟩
  rw [← hp] at HS ⊢
  have hot : Hid (otM L = ((movesL p L).find? (fun m => m.1 != 0)).getD (0, 0, 0)) := by rw [hp]; exact rfl
  clear hp
  refine (callsIn_wide (n := 6)).1 ?_
  refine callsIn_of_wp_marks Tryd.func45 rfl trivial ?_ rfl
  simp only [Tryd.ntmps45, List.size_toArray, List.length_cons, List.length_nil, Nat.reduceAdd, Nat.reduceSub, Array.replicate_succ, Array.replicate_zero, List.push_toArray, List.append_toArray, List.nil_append, List.cons_append]
  gi_wp2_with (refine ⟨trivial, ?_⟩; gi_at_call 62; refine (legalMoves_calls _ A n c p _).mono ?_; rintro e w' ⟨rfl, rfl⟩)
  have hB0 : Below w.heap.size w (((w.alloc (.cells #[.int .i64 p, .slice A n c] 28)).alloc (.cells #[.int .i64 0, .int .i64 0, .int .i64 0] 36)).alloc (.cells #[.int .i64 p, .slice A n c] 28)) := (((Below.refl _ _).alloc (Nat.le_refl _) _).alloc (by simp) _).alloc (by simp; omega) _
  have bM := Box.new (w.alloc (.cells #[.int .i64 p, .slice A n c] 28)) 36 #[.int .i64 0, .int .i64 0, .int .i64 0]
  rw [World.size_alloc] at bM
  have bS := Box.new ((w.alloc (.cells #[.int .i64 p, .slice A n c] 28)).alloc (.cells #[.int .i64 0, .int .i64 0, .int .i64 0] 36)) 28 #[.int .i64 p, .slice A n c]
  simp only [World.size_alloc] at bS
  have bM2 := bM.alloc (.cells #[.int .i64 p, .slice A n c] 28)
  have hI2 := hI.below hB0
  have hsz : (((w.alloc (.cells #[.int .i64 p, .slice A n c] 28)).alloc (.cells #[.int .i64 0, .int .i64 0, .int .i64 0] 36)).alloc (.cells #[.int .i64 p, .slice A n c] 28)).heap.size = w.heap.size + 3 := by simp
  generalize ((w.alloc (.cells #[.int .i64 p, .slice A n c] 28)).alloc (.cells #[.int .i64 0, .int .i64 0, .int .i64 0] 36)).alloc (.cells #[.int .i64 p, .slice A n c] 28) = W0 at *
  have hSb : ∀ b, stS (w.heap.size + 1 + 1) A L b → b ≠ w.heap.size + 1 ∧ b < w.heap.size + 3 := fun b hb => by
    rcases stS_cases hI hb with h | h <;> omega
  refine wpIn_rangeFunc_ownH rfl (by omega) (gf := 73) (lb := #[.pointer (some ⟨w.heap.size + 1 + 1, 0, none⟩)]) rfl trivial (enters_of Tryd.func73 (by kernel_rfl) rfl)
    (legalMoves_stops _ (w.heap.size + 1 + 1) (by omega) A n c p L HL.out hcap hc63 HS.out _ bS hI2) (fun h k => keepB_t h k) (keepB_b (by intro b hb; have := hSb b hb; omega)) (Below.refl _ _) (fun _ => rfl)
    (OtI (w.heap.size + 1) w.heap.size w) (OtX (w.heap.size + 1) w.heap.size w)
    (by
      show OwnFrom _ (fun (pre : List Mv) W => (∀ m ∈ pre, m.1 = 0) ∧ Box W _ _ _ ∧ Below _ _ W ∧ _ ≤ W.heap.size)
      exact OwnFrom.and (ownFrom_pure _ (fun pre : List Mv => ∀ m ∈ pre, m.1 = 0)) (OwnFrom.and (Own.from (box_own _ _ _) _) (OwnFrom.and (ownFrom_below (Nat.le_refl _) (by omega)) (ownFrom_size _ _))))
    (by
      rintro cc s X Y row ⟨q, m, h1, h2, h3, h4, h5, h6⟩ hg hr
      exact ⟨q, m, h1, h2, h3, h4, box_own _ 36 _ () X Y row h5 hg (fun r e => (hr r e).2), (show OwnFrom W0.heap.size (fun (_ : Unit) W => Below w.heap.size w W) from ownFrom_below (Nat.le_refl _) (by omega)) () X Y row h6 hg hr⟩)
    ⟨fun m hm => absurd hm (by simp), bM2, hB0, by omega⟩
    (fun x a' W => ∃ Bx, w.heap.size + 1 + 1 < Bx ∧ Box W Bx 36 #[.int .i64 x.1, .int .i64 x.2.1, .int .i64 x.2.2] ∧ a' = { tmps := #[.agg #[.int .i64 p, .slice A n c], .pointer (some ⟨w.heap.size, 0, none⟩), .pointer (some ⟨w.heap.size + 1, 0, none⟩), .pointer (some ⟨Bx, 0, none⟩), .agg #[.int .i64 p, .slice A n c], .func (.func 73) #[] #[.pointer (some ⟨w.heap.size + 1 + 1, 0, none⟩)], mvV x, undef, undef, undef, undef, undef], defers := [] })
    (fun x a' _ X Y row hs hg hr => by obtain ⟨Bx, h1, h2, h3⟩ := hs; exact ⟨Bx, h1, box_own Bx 36 _ () X Y row h2 hg (fun r e => (hr r e).2), h3⟩)
    ?assign ?body ?done ?stop
  case assign =>
    rintro l pre ⟨x1, x2, x3⟩ W K ⟨h1, h2, hB, hW3⟩ hK
    have hlt := h2.lt
    have hle := hB.size
    dsimp only [mvV] at hK ⊢
    gi_wp2
    exact hK _ _ ((KeepsOthers.alloc _ _).from _) (keepB_below ((Below.refl W.heap.size W).alloc (Nat.le_refl _) _) (fun b hb => by have := hSb b hb; omega)) ⟨h1, h2.alloc _, hB.alloc hle _, by simp; omega⟩ ⟨W.heap.size, by omega, Box.new W 36 _, rfl⟩
  case body =>
    rintro l pre ⟨x1, x2, x3⟩ a' W hl ⟨r, hr⟩ ⟨h1, h2, hB, hW3⟩ ⟨Bx, hBx, bX, rfl⟩ hlt
    obtain ⟨k0, k1, k2⟩ := bX.three
    obtain ⟨m0, m1, m2⟩ := h2.three
    have f0 := h2.frozen 0
    have f1 := h2.frozen 1
    have f2 := h2.frozen 2
    have H1 := Lib.hid h1
    have H2 := Lib.hid h2
    have HB := Lib.hid hB
    clear h1 h2 hB bX
    dsimp only [mvV] at k0 k1 k2 ⊢
    by_cases hx : x1 = 0
    · have ht : (x1 != 0) = false := by simpa using hx
      have HX := Lib.hid hx
      clear hx
      gi_wp2
      refine ⟨KeepsFrom.refl _ _, fun b hb => rfl, fun m hm => ?_, H2.out, HB.out, hW3⟩
      rcases List.mem_append.1 hm with h | h
      · exact H1.out m h
      · simp only [List.mem_singleton] at h
        rw [h]
        exact HX.out
    · have ht : (x1 != 0) = true := by simpa using hx
      have HX := Lib.hid hx
      clear hx
      gi_wp2
      exact ⟨(((KeepsOthers.setCell _ _ _).trans (KeepsOthers.setCell _ _ _)).trans (KeepsOthers.setCell _ _ _)).from _, pre, (x1, x2, x3), rfl, rfl, H1.out, HX.out, box_set3 H2.out, ((HB.out.setCell (by simp) _).setCell (by simp) _).setCell (by simp) _⟩
  case done =>
    rintro D xs W hD rfl ⟨h1, h2, hB, hW3⟩ hK
    have e1 := Lib.hid (show otM L = (0, 0, 0) by rw [hot.out, find_none h1]; rfl)
    obtain ⟨m0, m1, m2⟩ := h2.three
    have f0 := h2.frozen 0
    have f1 := h2.frozen 1
    have f2 := h2.frozen 2
    have H2 := Lib.hid (box_set3 h2 (a := .int .i64 0) (c := .int .i64 0) (d := .int .i64 0))
    have HB := Lib.hid (((hB.setCell (show w.heap.size ≤ (⟨w.heap.size + 1, 0, none⟩ : Addr).block by simp) (.int .i64 0)).setCell (show w.heap.size ≤ (⟨w.heap.size + 1, 1, none⟩ : Addr).block by simp) (.int .i64 0)).setCell (show w.heap.size ≤ (⟨w.heap.size + 1, 2, none⟩ : Addr).block by simp) (.int .i64 0))
    have HK := Lib.hid hK
    clear h1 h2 hB hK
    gi_wp2
    have hK' := heap_set3 D (w.heap.size + 1) (by omega) W (.int .i64 0) (.int .i64 0) (.int .i64 0) HK.out
    generalize ((W.setCell ⟨w.heap.size + 1, 0, none⟩ (.int .i64 0)).setCell ⟨w.heap.size + 1, 1, none⟩ (.int .i64 0)).setCell ⟨w.heap.size + 1, 2, none⟩ (.int .i64 0) = V at *
    refine ⟨by simp, .inl ⟨_, _, rfl, run_takeDeferred hK', ?_⟩⟩
    obtain ⟨r0, r1, r2⟩ := Box.three (show Box (V.putObj D (.deferred none)) (w.heap.size + 1) 36 #[.int .i64 0, .int .i64 0, .int .i64 0] from (World.putObj_heap_other (by omega)).trans H2.out)
    refine ⟨.agg #[.int .i64 0, .int .i64 0, .int .i64 0], (by simp [results, Tryd.results45, go_sem, r0, r1, r2]), ?_⟩
    rw [e1.out]
    exact ⟨rfl, HB.out.trans (belowK_b (w := w) (Nat.le_refl _) V D _ _ (by omega) hK' rfl rfl)⟩
  case stop =>
    rintro D cc pre W hD hpre ⟨q, m, rfl, rfl, h3, h4, h5, h6⟩ hK
    have e1 := Lib.hid (show otM L = m by rw [hot.out, find_pre hpre h3 h4]; rfl)
    gi_wp2
    refine ⟨by simp, .inl ⟨_, _, rfl, run_takeDeferred hK, ?_⟩⟩
    obtain ⟨r0, r1, r2⟩ := Box.three (show Box (W.putObj D (.deferred none)) (w.heap.size + 1) 36 _ from (World.putObj_heap_other (by omega)).trans h5)
    refine ⟨.agg #[.int .i64 m.1, .int .i64 m.2.1, .int .i64 m.2.2], (by simp [results, Tryd.results45, go_sem, r0, r1, r2]), ?_⟩
    rw [e1.out]
    exact ⟨rfl, h6.trans (belowK_b (w := w) (Nat.le_refl _) W D _ _ (by omega) hK rfl rfl)⟩

end Go.Proofs.YtcicjnpnhaddcaaDoor
