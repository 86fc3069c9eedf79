/- Contracts of the laws' functions over desks: they compare, mark, look for marks. -/
import Derived.Test.YtepjdoonopbijaaDoorHpC
import Derived.Test.YtepjdoonopbijaaDoorHpK
import Derived.Test.YtepjdoonopbijaaDoorHeld
namespace Go.Proofs.YtepjdoonopbijaaDoor
open Go.RowKit
set_option linter.unusedVariables false

theorem Box.four {w : World} {b t : Nat} {u v x y : Value} (h : Box w b t #[u, v, x, y]) : w.cell? ⟨b, 0, none⟩ = some u ∧ w.cell? ⟨b, 1, none⟩ = some v ∧ w.cell? ⟨b, 2, none⟩ = some x ∧ w.cell? ⟨b, 3, none⟩ = some y := by
  have c0 := h.cell 0
  have c1 := h.cell 1
  have c2 := h.cell 2
  have c3 := h.cell 3
  exact ⟨by simpa using c0, by simpa using c1, by simpa using c2, by simpa using c3⟩
/-- The list's block is none of the lists'. -/
def ApartSS (A H : Option Addr) (rs : List Rw) : Prop := ∀ g, A = some ⟨g, 0, none⟩ → H ≠ some ⟨g, 0, none⟩ ∧ ∀ r ∈ rs, r.A ≠ some ⟨g, 0, none⟩
theorem ApartSS.mk {A H : Option Addr} {rs : List Rw} {k : Int} (h : ApartSS A H rs) : ApartSS A H (mkSS k rs) := by
  intro g hg
  refine ⟨(h g hg).1, fun r hr => ?_⟩
  obtain ⟨i, hi⟩ := List.getElem?_of_mem hr
  have hil := (List.getElem?_eq_some_iff.1 hi).1
  rw [mkSS_len] at hil
  have h2 := mkSS_get k rs i _ (List.getElem?_eq_getElem hil)
  rw [h2] at hi
  injection hi with hi
  rw [← hi]
  exact (h g hg).2 rs[i] (List.getElem_mem hil)
/-- A block that is none of the lists' is written to. -/
theorem OwnSS.keptApart {B n c : Nat} {w w' : World} {A H : Option Addr} {rs : List Rw} {n' c' : Nat} (h : OwnSS B w H n c rs) (ha : ApartSS A H rs) (hA : ∀ g, (Value.slice A n' c').ownBlock = some g → A = some ⟨g, 0, none⟩) (hg : w.grownBy w' (Value.slice A n' c').ownBlock) : OwnSS B w' H n c rs := by
  refine ⟨?_, fun r hr => ?_, h.2.2⟩
  · exact h.1.kept hg (fun g h1 e => (ha g (hA g e)).1 h1)
  · exact (h.2.1 r hr).kept hg (fun g h1 e => (ha g (hA g e)).2 r hr h1)
/-- The lists' blocks are written to, the list's is not. -/
theorem Own.keptSS {B n c : Nat} {w w' : World} {A H : Option Addr} {rs : List Rw} {L : List Int} (h : Own B w A n c L) (ha : ApartSS A H rs) (hk : KeptSS rs w w') : Own B w' A n c L :=
  OwnG.of_block (e := 2) (size := 1) h (fun g hg => hk.2 g (by
    rcases h.form with ⟨h1, _⟩ | ⟨g', h1, _, h2⟩
    · rw [h1] at hg; cases hg
    · rw [h1] at hg; injection hg with hg; injection hg with hg; omega) (fun r hr => (ha g hg).2 r hr))
theorem own_blockOf {B n c : Nat} {w : World} {A : Option Addr} {L : List Int} (h : Own B w A n c L) : ∀ g, (Value.slice A n c).ownBlock = some g → A = some ⟨g, 0, none⟩ :=
  fun g hg => block_of_own (e := 2) (size := 1) h hg
/-- A list made ahead of the lists is apart from them; one made behind them, too. -/
theorem apartSS_fwd {B B' n c n' c' : Nat} {w w' : World} {A H : Option Addr} {L : List Int} {rs : List Rw} (h : Own B w A n c L) (h' : OwnSS B' w' H n' c' rs) (hB : w.heap.size ≤ B') : ApartSS A H rs := by
  intro g hg
  rcases h.form with ⟨h1, _⟩ | ⟨g', h1, _, h2⟩
  · rw [h1] at hg; cases hg
  · rw [h1] at hg; injection hg with hg; injection hg with hg; subst hg
    refine ⟨fun e => ?_, fun r hr e => ?_⟩
    · rw [e] at h'
      have := (ownG_lt h'.1).1
      omega
    · have h3 := h'.2.1 r hr
      rw [e] at h3
      have := (ownG_lt (e := 2) (size := 1) h3).1
      omega
theorem apartSS_back {B B' n c n' c' : Nat} {w w' : World} {A H : Option Addr} {L : List Int} {rs : List Rw} (h : Own B w A n c L) (h' : OwnSS B' w' H n' c' rs) (hB : w'.heap.size ≤ B) : ApartSS A H rs := by
  intro g hg
  rcases h.form with ⟨h1, _⟩ | ⟨g', h1, h2, _⟩
  · rw [h1] at hg; cases hg
  · rw [h1] at hg; injection hg with hg; injection hg with hg; subst hg
    refine ⟨fun e => ?_, fun r hr e => ?_⟩
    · rw [e] at h'
      have := (ownG_lt h'.1).2
      omega
    · have h3 := h'.2.1 r hr
      rw [e] at h3
      have := (ownG_lt (e := 2) (size := 1) h3).2
      omega

/-- A desk in memory of its own. -/
def OwnDk (B : Nat) (w : World) (A : Option Addr) (n c : Nat) (L : List Int) (H : Option Addr) (m d : Nat) (rs : List Rw) : Prop :=
  Own B w A n c L ∧ OwnSS B w H m d rs ∧ ApartSS A H rs
section
variable {B n c m d : Nat} {w w' : World} {A H : Option Addr} {L : List Int} {rs : List Rw}
theorem OwnDk.below (h : OwnDk B w A n c L H m d rs) (hb : Below w.heap.size w w') : OwnDk B w' A n c L H m d rs := ⟨h.1.below hb, h.2.1.below hb, h.2.2⟩
theorem OwnDk.mono {B' : Nat} (h : OwnDk B w A n c L H m d rs) (hB : B' ≤ B) : OwnDk B' w A n c L H m d rs := ⟨h.1.mono hB, h.2.1.mono hB, h.2.2⟩
theorem OwnDk.setOld (h : OwnDk B w A n c L H m d rs) {a : Addr} (ha : a.block < B) (u : Value) : OwnDk B (w.setCell a u) A n c L H m d rs :=
  ⟨OwnG.setBelow (e := 2) (size := 1) h.1 ha u, h.2.1.setOld ha u, h.2.2⟩
/-- A desk that can be read. -/
def IntsDk (w : World) (A : Option Addr) (L : List Int) (H : Option Addr) (rs : List Rw) : Prop := Ints w A L ∧ IntsSS w H rs
theorem IntsDk.below (h : IntsDk w A L H rs) (hb : Below w.heap.size w w') : IntsDk w' A L H rs := ⟨h.1.below hb, h.2.below hb⟩
theorem OwnDk.ints (h : OwnDk B w A n c L H m d rs) : IntsDk w A L H rs := ⟨h.1.ints, h.2.1.ints⟩
end

set_option maxHeartbeats 1000000 in
theorem eqDesk_same (A A' H H' : Option Addr) (n c c' m d d' : Nat) (P G : Int) (L : List Int) (rs rs' : List Rw) (w : World) (hL : L.length = n) (hn : n ≤ 1048576) (hl : rs.length = m) (hl' : rs'.length = m) (hm : m ≤ 1048576) (hb : ∀ r ∈ rs, r.n ≤ 1048576) (hb' : ∀ r ∈ rs', r.n ≤ 1048576)
    (hI : IntsDk w A L H rs) (hI' : IntsDk w A' L H' rs') (hLL : LLof rs = LLof rs') :
    Calls Tryd.prog 8 #[.agg #[.int .i64 P, .slice A n c, .int .i64 G, .slice H m d], .agg #[.int .i64 P, .slice A' n c', .int .i64 G, .slice H' m d']] w fun e w' => e = .returned (.bool true) ∧ Below w.heap.size w w' := by
  have HL := Lib.hid hL
  have Hl := Lib.hid hl
  have Hl' := Lib.hid hl'
  have Hb := Lib.hid hb
  have Hb' := Lib.hid hb'
  have hb0 : Below w.heap.size w ((w.alloc (.cells #[.int .i64 P, .slice A n c, .int .i64 G, .slice H m d] 35)).alloc (.cells #[.int .i64 P, .slice A' n c', .int .i64 G, .slice H' m d'] 35)) := ((Below.refl _ _).alloc (Nat.le_refl _) _).alloc (by simp) _
  have X0 := Lib.hid ((Box.new w 35 #[.int .i64 P, .slice A n c, .int .i64 G, .slice H m d]).alloc (.cells #[.int .i64 P, .slice A' n c', .int .i64 G, .slice H' m d'] 35))
  have Y0 : Hid (Box ((w.alloc (.cells #[.int .i64 P, .slice A n c, .int .i64 G, .slice H m d] 35)).alloc (.cells #[.int .i64 P, .slice A' n c', .int .i64 G, .slice H' m d'] 35)) (w.heap.size + 1) 35 #[.int .i64 P, .slice A' n c', .int .i64 G, .slice H' m d']) := Lib.hid (by simpa using Box.new (w.alloc (.cells #[.int .i64 P, .slice A n c, .int .i64 G, .slice H m d] 35)) 35 #[.int .i64 P, .slice A' n c', .int .i64 G, .slice H' m d'])
  have HI0 := Lib.hid (hI.below hb0)
  have HI0' := Lib.hid (hI'.below hb0)
  have HE : Hid (decide (LLof rs = LLof rs') = true) := by unfold Hid; simpa using hLL
  have HB0 := Lib.hid hb0
  clear hL hl hl' hb hb' hb0 hI hI' hLL
  obtain ⟨x0, x1, x2, x3⟩ := X0.out.four
  obtain ⟨y0, y1, y2, y3⟩ := Y0.out.four
  go_enter Tryd.func8, Tryd.ntmps8
  go_wp2_with fail
  refine (eqState_calls A A' n c n c' P P L L _ HL.out HL.out hn hn HI0.out.1 HI0'.out.1).mono ?_
  rintro e w1 ⟨rfl, hb⟩
  have X1 := Lib.hid (X0.out.below hb X0.out.lt)
  have Y1 := Lib.hid (Y0.out.below hb Y0.out.lt)
  have HI1 := Lib.hid (HI0.out.below hb)
  have HI1' := Lib.hid (HI0'.out.below hb)
  have HB1 := Lib.hid (HB0.out.trans (hb.mono HB0.out.size))
  rw [show decide (P = P ∧ L = L) = true by simp]
  clear hb x0 x1 x2 x3 y0 y1 y2 y3 X0 Y0 HI0 HI0' HB0
  obtain ⟨x0, x1, x2, x3⟩ := X1.out.four
  obtain ⟨y0, y1, y2, y3⟩ := Y1.out.four
  go_wp2_with fail
  refine (eqHeap_calls H H' m d m d' rs rs' _ Hl.out Hl'.out hm hm Hb.out Hb'.out HI1.out.2 HI1'.out.2).mono ?_
  rintro e w2 ⟨rfl, hb⟩
  have HB2 := Lib.hid (HB1.out.trans (hb.mono HB1.out.size))
  rw [HE.out]
  clear hb x0 x1 x2 x3 y0 y1 y2 y3 X1 Y1 HI1 HI1' HB1
  go_wp2
  go_ret
  exact ⟨rfl, HB2.out⟩

end Go.Proofs.YtepjdoonopbijaaDoor
