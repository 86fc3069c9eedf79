/- Contracts: the heap behind a move, by the specification's model. -/
import Derived.Test.YtpiglaolofddfaaDoorHpAp
import Derived.Test.YtpiglaolofddfaaDoorHpA2
import Derived.Test.YtpiglaolofddfaaDoorHpSpec
import Derived.Test.YtpiglaolofddfaaDoorHpOf
import Derived.Test.YtpiglaolofddfaaDoorSS2
import Derived.BigQuiet
namespace Go.Proofs.YtpiglaolofddfaaDoor
open Go.RowKit
set_option linter.unusedVariables false

theorem Own.shorter {B n c k : Nat} {w : World} {A : Option Addr} {L : List Int} (h : Own B w A n c L) (hk : k ≤ n) : Own B w A k c (L.take k) := by
  have hl := Own.len h
  refine ⟨by simp; omega, ?_⟩
  rcases h.2 with ⟨hv, hn⟩ | ⟨g, cap, cur, hv, hb, hh, hnc, hcm, hcs, hx⟩
  · subst hn
    obtain rfl : k = 0 := by omega
    exact .inl ⟨hv, rfl⟩
  · injection hv with e1 e2 e3
    subst e1 e3
    refine .inr ⟨g, c, cur, rfl, hb, hh, by omega, hcm, hcs, ?_⟩
    rw [List.map_take, ← hx, List.take_take]
    congr 1
    omega
theorem dnR_other {LL : List (List Int)} {f t a : Nat} {d : Int} (h1 : a ≠ f) (h2 : a ≠ t) : dnR LL f t d a = LL[a]?.getD [] := by unfold dnR; rw [if_neg h1, if_neg h2, List.append_nil]
theorem dnR_from {LL : List (List Int)} {f t : Nat} {d : Int} (h : f ≠ t) : dnR LL f t d f = (LL[f]?.getD []).dropLast := by unfold dnR; rw [if_pos rfl, if_neg h, List.append_nil]
theorem dnR_to {LL : List (List Int)} {f t : Nat} {d : Int} (h : f ≠ t) : dnR LL f t d t = LL[t]?.getD [] ++ [d] := by unfold dnR; rw [if_neg (fun e => h e.symm), if_pos rfl]
theorem Own.capB {B n c : Nat} {w : World} {A : Option Addr} {L : List Int} (h : Own B w A n c L) : n ≤ c := by
  rcases h.2 with ⟨hv, hn⟩ | ⟨g, cap, cur, hv, hb, hh, hnc, hcm, hcs, hx⟩
  · omega
  · injection hv with e1 e2 e3; omega
theorem OwnSS.setBoxed {B n c b t : Nat} {w : World} {A : Option Addr} {rs : List Rw} {cs : Array Value} (h : OwnSS B w A n c rs) (hb : Box w b t cs) (h1 : t ≠ 61) (h2 : t ≠ 2) (i : Nat) (u : Value) : OwnSS B (w.setCell ⟨b, i, none⟩ u) A n c rs :=
  ⟨OwnG.setBoxed h.1 hb h1 i u, fun r hr => OwnG.setBoxed (h.2.1 r hr) hb h2 i u, h.2.2⟩
def dnK (LL : List (List Int)) (f t : Nat) (d : Int) (a : Nat) : List (List Int) := (List.range a).map (dnR LL f t d)
theorem dnK_succ (LL : List (List Int)) (f t : Nat) (d : Int) (a : Nat) : dnK LL f t d (a + 1) = dnK LL f t d a ++ [dnR LL f t d a] := by unfold dnK; rw [List.range_succ, List.map_append]; rfl

set_option maxRecDepth 100000 in
set_option maxHeartbeats 8000000 in
theorem l06Done_calls (A : Option Addr) (n c : Nat) (rs : List Rw) (d : Int) (f t : Nat) (hf : f < 3) (ht : t < 3) (hne : f ≠ t) (w : World) (hL : rs.length = n) (hn : n = 3) (h4 : ∀ r ∈ rs, r.n ≤ 4) (hnc : ∀ r ∈ rs, r.A = none → r.c = 0) (hI : IntsSS w A rs) (hfn : (LLof rs)[f]?.getD [] ≠ []) :
    Calls Tryd.prog 27 #[.agg #[.slice A n c], .agg #[.int .i64 d, .int .i64 (f : Int), .int .i64 (t : Int)]] w fun e w' => ∃ A' c' rs', e = .returned (.agg #[.slice A' 3 c']) ∧ OwnSS w.heap.size w' A' 3 c' rs' ∧ LLof rs' = dnL (LLof rs) f t d ∧ Below w.heap.size w w' := by
  obtain ⟨i0, hi, hz0, hz1, hz2⟩ := info_parts Tryd.infoI
  obtain ⟨j0, hj, hy0, hy1, hy2⟩ := info_parts Tryd.infoSS
  subst hn
  have HL := Lib.hid hL
  have H4 := Lib.hid h4
  have HNC := Lib.hid hnc
  have HFN := Lib.hid hfn
  have HI := Lib.hid hI
  clear hL h4 hnc hfn hI
  go_enter Tryd.func27, Tryd.ntmps27
  go_wp2
  go_loopw [6, 7] (fun i _ wr => ∃ a : Nat, a ≤ 3 ∧ i = .int .i64 a ∧ (∃ AA cc rk, Box wr (w.heap.size + 1 + 1 + 1 + 1) 29 #[.slice AA a cc] ∧ OwnSS (w.heap.size + 1 + 1 + 1) wr AA a cc rk ∧ LLof rk = dnK (LLof rs) f t d a) ∧ Box wr w.heap.size 29 #[.slice A 3 c] ∧ Box wr (w.heap.size + 1) 40 #[.int .i64 d, .int .i64 (f : Int), .int .i64 (t : Int)] ∧ Box wr (w.heap.size + 1 + 1) 29 #[.slice none 0 0] ∧ Below w.heap.size w wr) (fun i _ _ => 3 - (intOf i).toNat)
  case atStart =>
    have e1 := ((((Box.new w 29 #[.slice A 3 c]).alloc (.cells #[.int .i64 d, .int .i64 (f : Int), .int .i64 (t : Int)] 40)).alloc (.cells #[.slice none 0 0] 29)).alloc (.cells #[] 61)).alloc (.cells #[.slice (some ⟨w.heap.size + 1 + 1 + 1, 0, none⟩) 0 0] 29)
    have e2 := (((Box.new (w.alloc (.cells #[.slice A 3 c] 29)) 40 #[.int .i64 d, .int .i64 (f : Int), .int .i64 (t : Int)]).alloc (.cells #[.slice none 0 0] 29)).alloc (.cells #[] 61)).alloc (.cells #[.slice (some ⟨w.heap.size + 1 + 1 + 1, 0, none⟩) 0 0] 29)
    have e3 := ((Box.new ((w.alloc (.cells #[.slice A 3 c] 29)).alloc (.cells #[.int .i64 d, .int .i64 (f : Int), .int .i64 (t : Int)] 40)) 29 #[.slice none 0 0]).alloc (.cells #[] 61)).alloc (.cells #[.slice (some ⟨w.heap.size + 1 + 1 + 1, 0, none⟩) 0 0] 29)
    have e4 := (Box.new (((w.alloc (.cells #[.slice A 3 c] 29)).alloc (.cells #[.int .i64 d, .int .i64 (f : Int), .int .i64 (t : Int)] 40)).alloc (.cells #[.slice none 0 0] 29)) 61 #[]).alloc (.cells #[.slice (some ⟨w.heap.size + 1 + 1 + 1, 0, none⟩) 0 0] 29)
    have e5 := Box.new ((((w.alloc (.cells #[.slice A 3 c] 29)).alloc (.cells #[.int .i64 d, .int .i64 (f : Int), .int .i64 (t : Int)] 40)).alloc (.cells #[.slice none 0 0] 29)).alloc (.cells #[] 61)) 29 #[.slice (some ⟨w.heap.size + 1 + 1 + 1, 0, none⟩) 0 0]
    simp only [World.size_alloc] at e2 e3 e4 e5
    exact ⟨0, by omega, rfl, ⟨_, _, [], e5, ⟨OwnG.emptyAt e4 (Nat.le_refl _), fun r hr => by simp at hr, List.Pairwise.nil⟩, rfl⟩, e1, e2, e3, (((((Below.refl _ _).alloc (Nat.le_refl _) _).alloc (by simp) _).alloc (by simp; omega) _).alloc (by simp; omega) _).alloc (by simp; omega) _⟩
  case round =>
    obtain ⟨a, ha, rfl, ⟨AA, cc, rk, hX, hSS, hLL⟩, hH, hM, hR, hb⟩ := hrel
    have HX := Lib.hid hX
    have HSS := Lib.hid hSS
    have HLL := Lib.hid hLL
    have HH := Lib.hid hH
    have HM := Lib.hid hM
    have HR := Lib.hid hR
    have HB := Lib.hid hb
    obtain ⟨wo, rfl⟩ : ∃ wo : World, wo = wr := ⟨_, rfl⟩
    have hB3 : w.heap.size + 1 + 1 + 1 ≤ wo.heap.size := by have := hX.lt; omega
    have hold : Hid (∀ s ∈ rk, ∀ g, s.A = some ⟨g, 0, none⟩ → g < wo.heap.size) := by
      intro s hs g hA
      have := HSS.out.2.1 s hs
      rw [hA] at this
      exact (ownG_lt this).2
    obtain ⟨x0, xf⟩ := hX.one
    obtain ⟨h0, hf0⟩ := hH.one
    obtain ⟨m0, m1, m2⟩ := hM.three
    obtain ⟨r0, rf0⟩ := hR.one
    clear hX hSS hLL hH hM hR hb
    by_cases hlt : a < 3
    · obtain ⟨r, hr⟩ := get_of_lt (rs := rs) (k := a) (by rw [HL.out]; exact hlt)
      obtain ⟨ad, rfl, had, hcr, hlr, hir⟩ := (HI.out.below HB.out) a r hr
      have hr4 := H4.out r (List.mem_of_getElem? hr)
      have hrc := HNC.out r (List.mem_of_getElem? hr)
      have hat := LL_at hr
      have hat2 : (LLof rs)[a]?.getD [] = r.L := by rw [hat]; rfl
      have HAT := Lib.hid hat2
      obtain ⟨rA, rn, rc, rd, rL⟩ := r
      change rn ≤ 4 at hr4
      change _ = some (Value.slice rA rn rc) at hcr
      have HLr : Hid (rL.length = rn) := hlr
      have HIr : Hid (Ints wo rA rL) := hir
      have HNr : Hid (rA = none → rc = 0) := hrc
      change Hid ((LLof rs)[a]?.getD [] = rL) at HAT
      have hlt2 : (a : Int) < 3 := by omega
      clear hr hlr hir hrc hat hat2 r0 rf0
      by_cases haf : a = f
      · subst haf
        have hpos : Hid (1 ≤ rn) := by
          have h1 := HFN.out
          rw [HAT.out] at h1
          have := List.length_pos_iff.2 h1
          have := HLr.out
          unfold Hid; omega
        have e1 : ((a : Int) == (a : Int)) = true := by simp
        have e2 : ((a : Int) == (t : Int)) = false := by simp; omega
        have hp1 := hpos.out
        go_wp2_with fail
        refine (l01Own_calls rA rn rc rL _ HLr.out (by omega) HNr.out HIr.out).mono ?_
        rintro e w2 ⟨A2, c2, rfl, hO2, hb2⟩
        have HX2 := Lib.hid (HX.out.below hb2 HX.out.lt)
        have HSS2 := Lib.hid (HSS.out.below hb2)
        have HH2 := Lib.hid (HH.out.below hb2 HH.out.lt)
        have HM2 := Lib.hid (HM.out.below hb2 HM.out.lt)
        have HR2 := Lib.hid (HR.out.below hb2 HR.out.lt)
        have HB2 := Lib.hid (HB.out.trans (hb2.mono HB.out.size))
        have HQ := Lib.hid hO2
        have hsz2 := hb2.size
        clear hb2 hO2 HX HSS HH HM HR HB m0 m1 m2 x0 xf h0 hf0 hcr
        have HX := HX2
        have HSS := HSS2
        have HH := HH2
        have HM := HM2
        have HR := HR2
        have HB := HB2
        clear HX2 HSS2 HH2 HM2 HR2 HB2
        obtain ⟨m0, m1, m2⟩ := HM.out.three
        obtain ⟨q, hq⟩ : ∃ q, rn = q + 1 := ⟨rn - 1, by omega⟩
        subst hq
        obtain ⟨g2, rfl, hg2, _, _⟩ := OwnG.cell (show OwnG 2 1 wo.heap.size w2 A2 (q + 1) c2 (rL.map (Value.int .i64)) from HQ.out) 0 (by omega)
        have hcap2 := Own.capB HQ.out
        have HQ2 := Lib.hid (Own.shorter (k := q) HQ.out (by omega))
        have hq0 : (0 : Int) ≤ (q : Int) := by omega
        have hq1 : (q : Int) ≤ (c2 : Int) := by omega
        have hq2 : ((q + 1 : Nat) : Int) - 1 = (q : Int) := by omega
        have HQ0 := HQ
        clear HQ
        have HQ := HQ2
        obtain ⟨RR, hRR⟩ : ∃ RR : Rw, RR = ⟨(some (⟨g2, 0, none⟩ : Addr)), q, c2, c2, (rL.take q)⟩ := ⟨_, rfl⟩
        have HRv : Hid (RR.v = .slice (some (⟨g2, 0, none⟩ : Addr)) (q) c2) := by rw [hRR]; rfl
        have HRo : Hid (Own (w.heap.size + 1 + 1 + 1) w2 RR.A RR.n RR.d RR.L) := by rw [hRR]; exact OwnG.mono HQ.out hB3
        have HRb : Hid (∀ g, RR.A = some ⟨g, 0, none⟩ → wo.heap.size ≤ g) := by
          intro g hg
          rw [hRR] at hg
          change (some (⟨g2, 0, none⟩ : Addr)) = some ⟨g, 0, none⟩ at hg
          have := HQ.out
          rw [hg] at this
          exact (ownG_lt this).1
        have HRl : Hid (RR.L = dnR (LLof rs) a t d a) := by rw [hRR, dnR_from hne, HAT.out, List.dropLast_eq_take, show rL.length - 1 = q by rw [HLr.out]; omega]; exact rfl
        have hmaps : (rk.map Rw.v).length = a := by have := HSS.out.len; simpa using this
        have hszw : w.heap.size + 1 + 1 + 1 ≤ w2.heap.size := by have := HX.out.lt; omega
        clear hRR
        obtain ⟨x0, xf⟩ := HX.out.one
        go_wp2_with (at_builtin; refine wpList_append_own _ rfl _ _ 22 rfl (w.heap.size + 1 + 1 + 1) 61 j0 (.slice none 0 0) 1 24 Tryd.underlying22 hj hy0 hy1 hy2 rfl (by decide) _ _ _ rfl (HSS.out.1.alloc _) ⟨w2.heap.size, 0, none⟩ 1 1 [.slice (some (⟨g2, 0, none⟩ : Addr)) (q) c2] rfl rfl (cell_one_new _ _ _) (by simp [Value.oneCell']) (by unfold maxLen; omega) (by omega) (by simp; omega) ?_; intro v' w4 hown' hgrow _; obtain ⟨A4, c4, rfl⟩ := ownG_shape hown'; have HO4 := Lib.hid hown'; have HG4 := Lib.hid hgrow; have hx4 := OwnG.grown_box HSS.out.1 hgrow HX.out (by decide); have HX4 := Lib.hid hx4; obtain ⟨x0, xf⟩ := hx4.one; clear hown' hgrow hx4)
        go_roundw
        case rel =>
          have hsn : OwnSS (w.heap.size + 1 + 1 + 1) w4 A4 (a + 1) c4 (rk ++ [RR]) := by
            refine OwnSS.snoc HSS.out HRo.out HRb.out hold.out ?_ HG4.out
            rw [HRv.out]
            exact HO4.out
          have hbw : Below w.heap.size w w4 := HB.out.trans (OwnG.grown_below HSS.out.1 HG4.out (by omega) HB.out.size)
          refine ⟨a + 1, by omega, by go_num, ⟨A4, c4, rk ++ [RR], HX4.out.set 0 _, OwnSS.setBoxed hsn HX4.out (by decide) (by decide) 0 _, ?_⟩, (OwnG.grown_box HSS.out.1 HG4.out HH.out (by decide)).other (by simp <;> omega) _, (OwnG.grown_box HSS.out.1 HG4.out HM.out (by decide)).other (by simp <;> omega) _, (OwnG.grown_box HSS.out.1 HG4.out HR.out (by decide)).other (by simp <;> omega) _, hbw.setCell (by simp <;> omega) _⟩
          rw [dnK_succ, ← HLL.out, ← HRl.out]
          simp [LLof]
        case measure => simp [intOf]; omega
      · by_cases hat : a = t
        · subst hat
          have e1 : ((a : Int) == (f : Int)) = false := by simp; omega
          have e2 : ((a : Int) == (a : Int)) = true := by simp
          go_wp2_with fail
          refine (l01Own_calls rA rn rc rL _ HLr.out (by omega) HNr.out HIr.out).mono ?_
          rintro e w2 ⟨A2, c2, rfl, hO2, hb2⟩
          have HM2 := Lib.hid (HM.out.below hb2 HM.out.lt)
          have HB2 := Lib.hid hb2
          have HQ0 := Lib.hid hO2
          have hszQ : wo.heap.size ≤ w2.heap.size := hb2.size
          have hr4' : rn < 1000 := by omega
          have hmaps : (rk.map Rw.v).length = a := by have := HSS.out.len; simpa using this
          clear hb2 hO2 m0 m1 m2 x0 xf h0 hf0 hcr
          obtain ⟨m0, m1, m2⟩ := HM2.out.three
          go_wp2_with (first | (at_builtin; refine wpList_append_own _ rfl _ _ 61 rfl wo.heap.size 2 i0 (.int .i64 0) 1 8 Tryd.underlying61 hi hz0 hz1 hz2 rfl (by decide) _ _ _ rfl (OwnG.alloc (show OwnG 2 1 wo.heap.size w2 A2 rn c2 (rL.map (Value.int .i64)) from HQ0.out) _) ⟨w2.heap.size, 0, none⟩ 1 1 [.int .i64 d] rfl rfl (cell_one_new _ _ _) (by simp [Value.oneCell']) (by unfold maxLen; omega) (by omega) (by simp <;> omega) ?_; intro v' w3 hown' hgrow _; obtain ⟨A3, c3, rfl⟩ := ownG_shape hown'; obtain ⟨o4, _, _, b4⟩ := Own.pushed HQ0.out hgrow hown'; have HQ := Lib.hid o4; have hb3 := HB2.out.trans (b4 wo.heap.size (Nat.le_refl _) hszQ); have HX3 := Lib.hid (HX.out.below hb3 HX.out.lt); have HSS3 := Lib.hid (HSS.out.below hb3); have HH3 := Lib.hid (HH.out.below hb3 HH.out.lt); have HM3 := Lib.hid (HM.out.below hb3 HM.out.lt); have HR3 := Lib.hid (HR.out.below hb3 HR.out.lt); have HB3 := Lib.hid (HB.out.trans (hb3.mono HB.out.size)); obtain ⟨x0, xf⟩ := HX3.out.one; have hszw : w.heap.size + 1 + 1 + 1 ≤ w3.heap.size := (by have := HX3.out.lt; omega); clear hown' hgrow o4 b4 hb3) | (at_builtin; refine wpList_append_own _ rfl _ _ 22 rfl (w.heap.size + 1 + 1 + 1) 61 j0 (.slice none 0 0) 1 24 Tryd.underlying22 hj hy0 hy1 hy2 rfl (by decide) _ _ _ rfl (HSS3.out.1.alloc _) ⟨w3.heap.size, 0, none⟩ 1 1 [.slice A3 (rn + 1) c3] rfl rfl (cell_one_new _ _ _) (by simp [Value.oneCell']) (by unfold maxLen; omega) (by omega) (by simp; omega) ?_; intro v' w4 hown' hgrow _; obtain ⟨A4, c4, rfl⟩ := ownG_shape hown'; have HO4 := Lib.hid hown'; have HG4 := Lib.hid hgrow; have hx4 := OwnG.grown_box HSS3.out.1 hgrow HX3.out (by decide); have HX4 := Lib.hid hx4; obtain ⟨x0, xf⟩ := hx4.one; clear hown' hgrow hx4))
          clear HX HSS HH HM HR HB
          have HX := HX3
          have HSS := HSS3
          have HH := HH3
          have HM := HM3
          have HR := HR3
          have HB := HB3
          clear HX3 HSS3 HH3 HM3 HR3 HB3
          obtain ⟨RR, hRR⟩ : ∃ RR : Rw, RR = ⟨A3, rn + 1, c3, c3, (rL ++ [d])⟩ := ⟨_, rfl⟩
          have HRv : Hid (RR.v = .slice A3 (rn + 1) c3) := by rw [hRR]; rfl
          have HRo : Hid (Own (w.heap.size + 1 + 1 + 1) w3 RR.A RR.n RR.d RR.L) := by rw [hRR]; exact OwnG.mono HQ.out hB3
          have HRb : Hid (∀ g, RR.A = some ⟨g, 0, none⟩ → wo.heap.size ≤ g) := by
            intro g hg
            rw [hRR] at hg
            change A3 = some ⟨g, 0, none⟩ at hg
            have := HQ.out
            rw [hg] at this
            exact (ownG_lt this).1
          have HRl : Hid (RR.L = dnR (LLof rs) f a d a) := by rw [hRR, dnR_to hne, HAT.out]; exact rfl
          go_roundw
          case rel =>
            have hsn : OwnSS (w.heap.size + 1 + 1 + 1) w4 A4 (a + 1) c4 (rk ++ [RR]) := by
              refine OwnSS.snoc HSS.out HRo.out HRb.out hold.out ?_ HG4.out
              rw [HRv.out]
              exact HO4.out
            have hbw : Below w.heap.size w w4 := HB.out.trans (OwnG.grown_below HSS.out.1 HG4.out (by omega) HB.out.size)
            refine ⟨a + 1, by omega, by go_num, ⟨A4, c4, rk ++ [RR], HX4.out.set 0 _, OwnSS.setBoxed hsn HX4.out (by decide) (by decide) 0 _, ?_⟩, (OwnG.grown_box HSS.out.1 HG4.out HH.out (by decide)).other (by simp <;> omega) _, (OwnG.grown_box HSS.out.1 HG4.out HM.out (by decide)).other (by simp <;> omega) _, (OwnG.grown_box HSS.out.1 HG4.out HR.out (by decide)).other (by simp <;> omega) _, hbw.setCell (by simp <;> omega) _⟩
            rw [dnK_succ, ← HLL.out, ← HRl.out]
            simp [LLof]
          case measure => simp [intOf]; omega
        · have e1 : ((a : Int) == (f : Int)) = false := by simp; omega
          have e2 : ((a : Int) == (t : Int)) = false := by simp; omega
          go_wp2_with fail
          refine (l01Own_calls rA rn rc rL _ HLr.out (by omega) HNr.out HIr.out).mono ?_
          rintro e w2 ⟨A2, c2, rfl, hO2, hb2⟩
          have HX2 := Lib.hid (HX.out.below hb2 HX.out.lt)
          have HSS2 := Lib.hid (HSS.out.below hb2)
          have HH2 := Lib.hid (HH.out.below hb2 HH.out.lt)
          have HM2 := Lib.hid (HM.out.below hb2 HM.out.lt)
          have HR2 := Lib.hid (HR.out.below hb2 HR.out.lt)
          have HB2 := Lib.hid (HB.out.trans (hb2.mono HB.out.size))
          have HQ := Lib.hid hO2
          have hsz2 := hb2.size
          clear hb2 hO2 HX HSS HH HM HR HB m0 m1 m2 x0 xf h0 hf0 hcr
          have HX := HX2
          have HSS := HSS2
          have HH := HH2
          have HM := HM2
          have HR := HR2
          have HB := HB2
          clear HX2 HSS2 HH2 HM2 HR2 HB2
          obtain ⟨m0, m1, m2⟩ := HM.out.three
          obtain ⟨RR, hRR⟩ : ∃ RR : Rw, RR = ⟨A2, rn, c2, c2, rL⟩ := ⟨_, rfl⟩
          have HRv : Hid (RR.v = .slice A2 (rn) c2) := by rw [hRR]; rfl
          have HRo : Hid (Own (w.heap.size + 1 + 1 + 1) w2 RR.A RR.n RR.d RR.L) := by rw [hRR]; exact OwnG.mono HQ.out hB3
          have HRb : Hid (∀ g, RR.A = some ⟨g, 0, none⟩ → wo.heap.size ≤ g) := by
            intro g hg
            rw [hRR] at hg
            change A2 = some ⟨g, 0, none⟩ at hg
            have := HQ.out
            rw [hg] at this
            exact (ownG_lt this).1
          have HRl : Hid (RR.L = dnR (LLof rs) f t d a) := by rw [hRR, dnR_other haf hat, HAT.out]; exact rfl
          have hmaps : (rk.map Rw.v).length = a := by have := HSS.out.len; simpa using this
          have hszw : w.heap.size + 1 + 1 + 1 ≤ w2.heap.size := by have := HX.out.lt; omega
          clear hRR
          obtain ⟨x0, xf⟩ := HX.out.one
          go_wp2_with (at_builtin; refine wpList_append_own _ rfl _ _ 22 rfl (w.heap.size + 1 + 1 + 1) 61 j0 (.slice none 0 0) 1 24 Tryd.underlying22 hj hy0 hy1 hy2 rfl (by decide) _ _ _ rfl (HSS.out.1.alloc _) ⟨w2.heap.size, 0, none⟩ 1 1 [.slice A2 (rn) c2] rfl rfl (cell_one_new _ _ _) (by simp [Value.oneCell']) (by unfold maxLen; omega) (by omega) (by simp; omega) ?_; intro v' w4 hown' hgrow _; obtain ⟨A4, c4, rfl⟩ := ownG_shape hown'; have HO4 := Lib.hid hown'; have HG4 := Lib.hid hgrow; have hx4 := OwnG.grown_box HSS.out.1 hgrow HX.out (by decide); have HX4 := Lib.hid hx4; obtain ⟨x0, xf⟩ := hx4.one; clear hown' hgrow hx4)
          go_roundw
          case rel =>
            have hsn : OwnSS (w.heap.size + 1 + 1 + 1) w4 A4 (a + 1) c4 (rk ++ [RR]) := by
              refine OwnSS.snoc HSS.out HRo.out HRb.out hold.out ?_ HG4.out
              rw [HRv.out]
              exact HO4.out
            have hbw : Below w.heap.size w w4 := HB.out.trans (OwnG.grown_below HSS.out.1 HG4.out (by omega) HB.out.size)
            refine ⟨a + 1, by omega, by go_num, ⟨A4, c4, rk ++ [RR], HX4.out.set 0 _, OwnSS.setBoxed hsn HX4.out (by decide) (by decide) 0 _, ?_⟩, (OwnG.grown_box HSS.out.1 HG4.out HH.out (by decide)).other (by simp <;> omega) _, (OwnG.grown_box HSS.out.1 HG4.out HM.out (by decide)).other (by simp <;> omega) _, (OwnG.grown_box HSS.out.1 HG4.out HR.out (by decide)).other (by simp <;> omega) _, hbw.setCell (by simp <;> omega) _⟩
            rw [dnK_succ, ← HLL.out, ← HRl.out]
            simp [LLof]
          case measure => simp [intOf]; omega
    · obtain rfl : a = 3 := by omega
      go_wp2
      refine bodyPost_ret (v := .agg #[.slice AA 3 cc]) (by simp [results, Tryd.results27, go_sem, r0]) rfl ⟨AA, cc, rk, rfl, ?_, HLL.out, HB.out.setCell (by simp; omega) _⟩
      exact (OwnSS.setBoxed HSS.out HR.out (by decide) (by decide) 0 _).mono (by omega)

end Go.Proofs.YtpiglaolofddfaaDoor
