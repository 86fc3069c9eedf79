/- Contracts: a desk that came in is measured and copied; how it is opened; what is a desk. -/
import Derived.Test.YtepjdoonopbijaaDoorDk
import Derived.Test.YtepjdoonopbijaaDoorDkLen
import Derived.Test.YtepjdoonopbijaaDoorOpenHeap
import Derived.Test.YtepjdoonopbijaaDoorOpenState
import Derived.Deep.Strs
namespace Go.Proofs.YtepjdoonopbijaaDoor
open Go.ChangeShapes Go.WideShapes Go.ChangeAt Go.RowKit Go.Joins Go.Deep
set_option linter.unusedVariables false

theorem belowSet {B b i : Nat} {w w' : World} (h : Below B w w') (hb : B ≤ b) (v : Value) : Below B w (w'.setCell ⟨b, i, none⟩ v) := h.setCell hb v
theorem Box.at3 {w : World} {t : Nat} {o o' : Obj} {cs : Array Value} : Box (((w.alloc o).alloc o').alloc (.cells cs t)) (w.heap.size + 1 + 1) t cs := by
  have := Box.new ((w.alloc o).alloc o') t cs
  simpa using this
theorem Box.at2 {w : World} {t : Nat} {o : Obj} {cs : Array Value} : Box ((w.alloc o).alloc (.cells cs t)) (w.heap.size + 1) t cs := by
  have := Box.new (w.alloc o) t cs
  simpa using this

set_option maxHeartbeats 2000000 in
theorem toDesk_calls (A H : Option Addr) (n c m d : Nat) (p G : Int) (L : List Int) (rs : List Rw) (w : World) (hL : L.length = n) (hn : n ≤ 1048576) (hl : rs.length = m) (hm : m ≤ 1048576) (hb : ∀ r ∈ rs, r.n ≤ 1048576) (hI : IntsDk w A L H rs) :
    Calls Tryd.prog 6 #[.agg #[.int .i64 p, .slice A n c, .int .i64 G, .slice H m d]] w fun e w' => ∃ g h rs', e = .returned (.agg #[.int .i64 p, .slice (some ⟨g, 0, none⟩) n n, .int .i64 G, .slice (some ⟨h, 0, none⟩) m m]) ∧
      OwnDk w.heap.size w' (some ⟨g, 0, none⟩) n n L (some ⟨h, 0, none⟩) m m rs' ∧ LLof rs' = LLof rs ∧ Below w.heap.size w w' := by
  have HL := Lib.hid hL
  have Hl := Lib.hid hl
  have Hb := Lib.hid hb
  have hb0 : Below w.heap.size w (((w.alloc (.cells #[.int .i64 p, .slice A n c, .int .i64 G, .slice H m d] 29)).alloc (.cells #[.int .i64 0, .slice none 0 0, .int .i64 0, .slice none 0 0] 35)).alloc (.cells #[.int .i64 0, .slice none 0 0, .int .i64 0, .slice none 0 0] 35)) := (((Below.refl _ _).alloc (Nat.le_refl _) _).alloc (by simp) _).alloc (by simp; omega) _
  have X0 := Lib.hid (((Box.new w 29 #[.int .i64 p, .slice A n c, .int .i64 G, .slice H m d]).alloc (.cells #[.int .i64 0, .slice none 0 0, .int .i64 0, .slice none 0 0] 35)).alloc (.cells #[.int .i64 0, .slice none 0 0, .int .i64 0, .slice none 0 0] 35))
  have R0 : Hid (Box (((w.alloc (.cells #[.int .i64 p, .slice A n c, .int .i64 G, .slice H m d] 29)).alloc (.cells #[.int .i64 0, .slice none 0 0, .int .i64 0, .slice none 0 0] 35)).alloc (.cells #[.int .i64 0, .slice none 0 0, .int .i64 0, .slice none 0 0] 35)) (w.heap.size + 1) 35 #[.int .i64 0, .slice none 0 0, .int .i64 0, .slice none 0 0]) := Lib.hid (Box.at2.alloc _)
  have V0 : Hid (Box (((w.alloc (.cells #[.int .i64 p, .slice A n c, .int .i64 G, .slice H m d] 29)).alloc (.cells #[.int .i64 0, .slice none 0 0, .int .i64 0, .slice none 0 0] 35)).alloc (.cells #[.int .i64 0, .slice none 0 0, .int .i64 0, .slice none 0 0] 35)) (w.heap.size + 1 + 1) 35 #[.int .i64 0, .slice none 0 0, .int .i64 0, .slice none 0 0]) := Lib.hid Box.at3
  have HI0 := Lib.hid (hI.below hb0)
  have HB0 := Lib.hid hb0
  have hs0 : w.heap.size + 3 ≤ (((w.alloc (.cells #[.int .i64 p, .slice A n c, .int .i64 G, .slice H m d] 29)).alloc (.cells #[.int .i64 0, .slice none 0 0, .int .i64 0, .slice none 0 0] 35)).alloc (.cells #[.int .i64 0, .slice none 0 0, .int .i64 0, .slice none 0 0] 35)).heap.size := by simp
  have HIe := Lib.hid hI
  clear hL hl hb hb0 hI
  obtain ⟨x0, x1, x2, x3⟩ := X0.out.four
  go_enter Tryd.func6, Tryd.ntmps6
  go_wp2_with fail
  generalize hW0 : ((w.alloc (.cells #[.int .i64 p, .slice A n c, .int .i64 G, .slice H m d] 29)).alloc (.cells #[.int .i64 0, .slice none 0 0, .int .i64 0, .slice none 0 0] 35)).alloc (.cells #[.int .i64 0, .slice none 0 0, .int .i64 0, .slice none 0 0] 35) = W0 at *
  clear hW0
  refine (toState_calls A n c p L _ HL.out hn HI0.out.1).mono ?_
  rintro e w1 ⟨g, rfl, hg, hr, hb⟩
  have hO := hr.own (B := W0.heap.size) hg (by rw [HL.out]; exact hn)
  rw [HL.out] at hO
  have HO1 := Lib.hid hO
  have X1 := Lib.hid (X0.out.below hb X0.out.lt)
  have R1 := Lib.hid (R0.out.below hb R0.out.lt)
  have V1 := Lib.hid (V0.out.below hb V0.out.lt)
  have HI1 := Lib.hid (HI0.out.below hb)
  have HB1 := Lib.hid (HB0.out.trans (hb.mono HB0.out.size))
  have hs1 : W0.heap.size ≤ w1.heap.size := hb.size
  clear hr hb hg hO x0 x1 x2 x3 X0 R0 V0 HI0
  obtain ⟨x0, x1, x2, x3⟩ := X1.out.four
  obtain ⟨v0, v1, v2, v3⟩ := V1.out.four
  have f0 := V1.out.frozen 0
  have f1 := V1.out.frozen 1
  have f2 := V1.out.frozen 2
  have f3 := V1.out.frozen 3
  go_wp2_with fail
  have V2 : Hid (Box (((w1.setCell ⟨w.heap.size + 1 + 1, 0, none⟩ (.int .i64 p)).setCell ⟨w.heap.size + 1 + 1, 1, none⟩ (.slice (some ⟨g, 0, none⟩) n n)).setCell ⟨w.heap.size + 1 + 1, 2, none⟩ (.int .i64 G)) (w.heap.size + 1 + 1) 35 #[.int .i64 p, .slice (some ⟨g, 0, none⟩) n n, .int .i64 G, .slice none 0 0]) := Lib.hid (((V1.out.set 0 (.int .i64 p)).set 1 (.slice (some ⟨g, 0, none⟩) n n)).set 2 (.int .i64 G))
  have hbs : Below (w.heap.size + 1 + 1) w1 (((w1.setCell ⟨w.heap.size + 1 + 1, 0, none⟩ (.int .i64 p)).setCell ⟨w.heap.size + 1 + 1, 1, none⟩ (.slice (some ⟨g, 0, none⟩) n n)).setCell ⟨w.heap.size + 1 + 1, 2, none⟩ (.int .i64 G)) := belowSet (belowSet (belowSet (Below.refl _ _) (Nat.le_refl _) _) (Nat.le_refl _) _) (Nat.le_refl _) _
  have hss : (((w1.setCell ⟨w.heap.size + 1 + 1, 0, none⟩ (.int .i64 p)).setCell ⟨w.heap.size + 1 + 1, 1, none⟩ (.slice (some ⟨g, 0, none⟩) n n)).setCell ⟨w.heap.size + 1 + 1, 2, none⟩ (.int .i64 G)).heap.size = w1.heap.size := by simp
  have hgW := (ownG_lt (e := 2) (size := 1) HO1.out).1
  have hne : ∀ g', (some ⟨g, 0, none⟩ : Option Addr) = some ⟨g', 0, none⟩ → g' ≠ w.heap.size + 1 + 1 := fun g' hg' => by injection hg' with hg'; injection hg' with hg'; omega
  have HO2 := Lib.hid (((HO1.out.setBox (a := ⟨w.heap.size + 1 + 1, 0, none⟩) hne (.int .i64 p)).setBox (a := ⟨w.heap.size + 1 + 1, 1, none⟩) hne (.slice (some ⟨g, 0, none⟩) n n)).setBox (a := ⟨w.heap.size + 1 + 1, 2, none⟩) hne (.int .i64 G))
  have X2 := Lib.hid (X1.out.below hbs (by omega))
  have R2 := Lib.hid (R1.out.below hbs (by omega))
  have HB2 := Lib.hid (HB1.out.trans (hbs.mono (by omega)))
  have HIh := Lib.hid (HIe.out.2.below HB2.out)
  have V3 := V2
  clear hbs x0 x1 x2 x3 v0 v1 v2 v3 f0 f1 f2 f3 V1 X1 R1 HB1 HI1
  generalize hW2 : ((w1.setCell ⟨w.heap.size + 1 + 1, 0, none⟩ (.int .i64 p)).setCell ⟨w.heap.size + 1 + 1, 1, none⟩ (.slice (some ⟨g, 0, none⟩) n n)).setCell ⟨w.heap.size + 1 + 1, 2, none⟩ (.int .i64 G) = W2 at *
  clear hW2
  clear V3
  refine (toHeap_calls H m d rs _ Hl.out hm Hb.out HIh.out).mono ?_
  rintro e w3 ⟨h, rs', rfl, hh, hS, hLL, hb⟩
  have hbk := HB2.out.size
  have X3 := Lib.hid (X2.out.below hb X2.out.lt)
  have R3 := Lib.hid (R2.out.below hb R2.out.lt)
  have V3 := Lib.hid (V2.out.below hb V2.out.lt)
  have HO3 := Lib.hid (HO2.out.below hb)
  have HS3 := Lib.hid hS
  have HA := Lib.hid (apartSS_fwd HO2.out hS (Nat.le_refl _))
  have HE := Lib.hid hLL
  have HB3 := Lib.hid (HB2.out.trans (hb.mono HB2.out.size))
  clear hb hS hLL hh
  obtain ⟨v0, v1, v2, v3⟩ := V3.out.four
  obtain ⟨r0, r1, r2, r3⟩ := R3.out.four
  have f0 := V3.out.frozen 0
  have f1 := V3.out.frozen 1
  have f2 := V3.out.frozen 2
  have f3 := V3.out.frozen 3
  have k0 := R3.out.frozen 0
  have k1 := R3.out.frozen 1
  have k2 := R3.out.frozen 2
  have k3 := R3.out.frozen 3
  go_wp2
  have hR0 := R3.out.other (a := ⟨w.heap.size + 1 + 1, 3, none⟩) (by show w.heap.size + 1 ≠ w.heap.size + 1 + 1; omega) (.slice (some ⟨h, 0, none⟩) m m)
  have hR4 : Box _ (w.heap.size + 1) 35 #[.int .i64 p, .slice (some ⟨g, 0, none⟩) n n, .int .i64 G, .slice (some ⟨h, 0, none⟩) m m] := (((hR0.set 0 (.int .i64 p)).set 1 (.slice (some ⟨g, 0, none⟩) n n)).set 2 (.int .i64 G)).set 3 (.slice (some ⟨h, 0, none⟩) m m)
  obtain ⟨z0, z1, z2, z3⟩ := hR4.four
  refine bodyPost_ret (v := .agg #[.int .i64 p, .slice (some ⟨g, 0, none⟩) n n, .int .i64 G, .slice (some ⟨h, 0, none⟩) m m]) (by simp [results, Tryd.results6, go_sem, z0, z1, z2, z3]) rfl ?_
  have HD : OwnDk (w.heap.size + 3) w3 (some ⟨g, 0, none⟩) n n L (some ⟨h, 0, none⟩) m m rs' := ⟨HO3.out.mono hs0, HS3.out.mono (by omega), HA.out⟩
  refine ⟨g, h, rs', rfl, (((((HD.setOld (a := ⟨w.heap.size + 1 + 1, 3, none⟩) (by simp) _).setOld (a := ⟨w.heap.size + 1, 0, none⟩) (by simp) _).setOld (a := ⟨w.heap.size + 1, 1, none⟩) (by simp) _).setOld (a := ⟨w.heap.size + 1, 2, none⟩) (by simp) _).setOld (a := ⟨w.heap.size + 1, 3, none⟩) (by simp) _).mono (by omega), HE.out, ?_⟩
  exact belowSet (belowSet (belowSet (belowSet (belowSet HB3.out (by omega) _) (by omega) _) (by omega) _) (by omega) _) (by omega) _

set_option maxHeartbeats 1000000 in
theorem szDesk_calls (A H : Option Addr) (n c m d : Nat) (p G left : Int) (rs : List Rw) (w : World) (hn : n ≤ 9223372036854775807) (hA : ArgSS w H m rs) (h0 : 0 ≤ left) (h1 : left ≤ 1048576) :
    Calls Tryd.prog 4 #[.agg #[.int .i64 p, .slice A n c, .int .i64 G, .slice H m d], .int .i64 left] w fun e w' => e = .returned (.int .i64 (szI (n + (m + totN rs)) left)) ∧ Below w.heap.size w w' := by
  have hb0 : Below w.heap.size w (w.alloc (.cells #[.int .i64 p, .slice A n c, .int .i64 G, .slice H m d] 29)) := (Below.refl _ _).alloc (Nat.le_refl _) _
  have X0 := Lib.hid (Box.new w 29 #[.int .i64 p, .slice A n c, .int .i64 G, .slice H m d])
  have HB0 := Lib.hid hb0
  have HA := Lib.hid hA
  clear hb0 hA
  obtain ⟨x0, x1, x2, x3⟩ := X0.out.four
  by_cases hs : left < n
  · have e1 : szI n left = -1 := by unfold szI; rw [if_pos hs]
    have H1 : Hid (szI (n + (m + totN rs)) left = -1) := by unfold Hid szI; rw [if_pos (by omega)]
    clear hs
    go_enter Tryd.func4, Tryd.ntmps4
    go_wp2_with fail
    refine (szState_calls A n c p left _ hn h0 h1).mono ?_
    rintro e w1 ⟨rfl, hb⟩
    have HB1 := Lib.hid (HB0.out.trans (hb.mono HB0.out.size))
    rw [e1]
    clear hb x0 x1 x2 x3 e1
    go_wp2
    go_ret
    exact ⟨ret_int H1.out.symm, HB1.out⟩
  · have e1 : szI n left = left - n := by unfold szI; rw [if_neg hs]
    have hnn : ¬ (left - n : Int) < 0 := by omega
    have hl0 : (0 : Int) ≤ left - n := by omega
    have hl1 : (left - n : Int) ≤ 1048576 := by omega
    have hlo := szI_lo (m + totN rs) (left - n) hl0
    have H1 : Hid (szI (n + (m + totN rs)) left = szI (m + totN rs) (left - n)) := by unfold Hid szI; split <;> split <;> omega
    clear hs
    go_enter Tryd.func4, Tryd.ntmps4
    go_wp2_with fail
    refine (szState_calls A n c p left _ hn h0 h1).mono ?_
    rintro e w1 ⟨rfl, hb⟩
    have HB1 := Lib.hid (HB0.out.trans (hb.mono HB0.out.size))
    have X1 := Lib.hid (X0.out.below hb X0.out.lt)
    rw [e1]
    clear hb x0 x1 x2 x3 e1
    obtain ⟨x0, x1, x2, x3⟩ := X1.out.four
    go_wp2_with fail
    refine (szHeap_calls H m d rs (left - n) _ (HA.out.below HB1.out) hl0 hl1).mono ?_
    rintro e w2 ⟨rfl, hb⟩
    have HB2 := Lib.hid (HB1.out.trans (hb.mono HB1.out.size))
    clear hb x0 x1 x2 x3
    go_wp2
    all_goals
      go_ret
      exact ⟨ret_int (by have := H1.out; omega), HB2.out⟩

theorem cellsDk : Tryd.prog.cellsOf 29 = 4 := by kernel_rfl
theorem array4 {α : Type} {cs : Array α} (h : cs.size = 4) : ∃ c0 c1 c2 c3, cs = #[c0, c1, c2, c3] := by
  obtain ⟨l⟩ := cs
  match l, h with
  | [c0, c1, c2, c3], _ => exact ⟨c0, c1, c2, c3, rfl⟩
theorem cellsSl2 : Tryd.prog.cellsOf 22 = 1 := by kernel_rfl
theorem cellsSS : Tryd.prog.cellsOf 25 = 1 := by kernel_rfl
theorem cellsSt : Tryd.prog.cellsOf 24 = 2 := by kernel_rfl

set_option maxRecDepth 100000 in
/-- A desk: its value, and what its lists read as. -/
theorem open_desk {H : Type} {enc : TypeId × Value → H} {W : World} {v : Value} {d : DataW H} {p : List MemPlace} {b0 : Nat}
    (hv : Value.okWide Tryd.prog W .any b0 29 v) (h : DataW.Trod enc Tryd.prog W 0 (fun _ => true) true 29 v d p) :
    ∃ (q : Int) (A : Option Addr) (n c : Nat) (L : List Int) (G : Int) (B : Option Addr) (m e : Nat) (rs : List Rw), v = .agg #[.int .i64 q, .slice A n c, .int .i64 G, .slice B m e] ∧ ArgInts W A n L ∧ ArgSS W B m rs := by
  obtain ⟨cs, rfl, hsz⟩ := okWide_struct Tryd.underlying29 hv
  obtain ⟨c0, c1, c2, c3, rfl⟩ := array4 (hsz.trans cellsDk)
  obtain ⟨fuel, hf⟩ := h
  obtain ⟨y0, y1, y2, n, hx, _, h0, h1, h2⟩ := trod_struct3 Tryd.underlying29 hf
  simp only [Value.cells] at h0 h1 h2
  simp only [cellsSt, cellsI, cellsHp, List.drop, List.take] at h0 h1 h2
  obtain ⟨a0, a1, n1, _, _, g0, g1⟩ := trod_struct2 Tryd.underlying24 h0
  simp only [cellsI, cellsSl2, List.drop, List.take] at g0 g1
  obtain ⟨q, e0, _, _⟩ := DataW.trod_int Tryd.underlying2 g0
  obtain ⟨A, k, c, L, e1, hA⟩ := open_slice_ints g1
  obtain ⟨G, e2, _, _⟩ := DataW.trod_int Tryd.underlying2 h1
  obtain ⟨b1, n2, _, _, k0⟩ := trod_struct1 Tryd.underlying27 h2
  simp only [cellsSS, List.drop, List.take] at k0
  obtain ⟨B, m, e, rs, e3, hB⟩ := open_lists k0
  simp only [List.cons.injEq, and_true] at e0 e1 e2 e3
  subst e0 e1 e2 e3
  exact ⟨_, A, k, c, L, _, B, m, e, rs, rfl, hA, hB⟩

end Go.Proofs.YtepjdoonopbijaaDoor
