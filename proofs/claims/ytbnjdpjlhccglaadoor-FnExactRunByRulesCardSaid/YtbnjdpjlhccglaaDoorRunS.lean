/- Contracts: the states of a run, by the specification. -/
import Derived.Test.YtbnjdpjlhccglaaDoorRunW
import Derived.StillTailTactics
namespace Go.Proofs.YtbnjdpjlhccglaaDoor
open Go.RowKit Go.Shelf
set_option linter.unusedVariables false

/-- A list of states and a code are the answer, each state with all of its list's capacity. -/
def RetStC (w : World) (QL : List (Int × List Int)) (E : Int) (e : Ending) (w' : World) : Prop :=
  ∃ A n c rs, e = .returned (.tuple #[.slice A n c, .int .i64 E]) ∧ OwnSt w.heap.size w' A n c rs ∧ QLof rs = QL ∧ (∀ s ∈ rs, s.c = s.d) ∧ Below w.heap.size w w'
theorem RetStC.st {w w' : World} {QL : List (Int × List Int)} {E : Int} {e : Ending} (h : RetStC w QL E e w') : RetSt w QL E e w' := by
  obtain ⟨A, n, c, rs, h1, h2, h3, _, h5⟩ := h
  exact ⟨A, n, c, rs, h1, h2, h3, h5⟩
theorem retStC_zero {w w' : World} {e : Ending} {E : Int} (he : e = .returned (.tuple #[.slice none 0 0, .int .i64 E])) (hb : Below w.heap.size w w') : RetStC w [] E e w' :=
  ⟨none, 0, 0, [], he, OwnSt.nilS _ _, rfl, fun s hs => by simp at hs, hb⟩
theorem cd_snoc {rs : List Sw} {r : Sw} (h : ∀ s ∈ rs, s.c = s.d) (hr : r.c = r.d) : ∀ s ∈ rs ++ [r], s.c = s.d := by
  intro s hs
  rcases List.mem_append.1 hs with hs | hs
  · exact h s hs
  · rw [List.mem_singleton] at hs; rw [hs]; exact hr
theorem OwnSt.one {B g : Nat} {w : World} {r : Sw} (hb : Box w g 30 #[.int .i64 r.q, .slice r.A r.n r.c]) (hB : B ≤ g) (hO : Own B w r.A r.n r.d r.L) : OwnSt B w (some ⟨g, 0, none⟩) 1 1 [r] := by
  refine ⟨⟨by simp [stCells, Sw.vs], .inr ⟨g, 1, #[.int .i64 r.q, .slice r.A r.n r.c], rfl, hB, hb, Nat.le_refl _, by unfold maxLen; omega, by simp, by simp [stCells, Sw.vs]⟩⟩, fun s hs => ?_, List.pairwise_singleton _ _⟩
  rw [List.mem_singleton] at hs
  rw [hs]
  exact hO

set_option maxRecDepth 100000 in
set_option maxHeartbeats 4000000 in
theorem l01Run_retC (A : Option Addr) (n c : Nat) (p : Int) (L : List Int) (AM : Option Addr) (m cM : Nat) (M : List Mv) (w : World) (hL : L.length = n) (hn : n ≤ 1048576) (hA : A = none → c = 0) (hI : Ints w A L) (hM : M.length = m) (hm : m ≤ 1048576) (hMv : Mvs w AM M) :
    Calls Tryd.prog 19 #[.agg #[.int .i64 p, .slice A n c], .slice AM m cM] w (RetStC w (rsV p L M) (rsC p L M)) := by
  have HL := Lib.hid hL
  have HM := Lib.hid hM
  have hb0 : Below w.heap.size w (w.alloc (.cells #[.int .i64 p, .slice A n c] 30)) := (Below.refl _ _).alloc (Nat.le_refl _) _
  have HB0 := Lib.hid hb0
  have HI0 := Lib.hid (hI.below hb0)
  have HV0 := Lib.hid (hMv.below hb0)
  have X0 := Lib.hid (Box.new w 30 #[.int .i64 p, .slice A n c])
  have HA := Lib.hid hA
  clear hL hM hb0 hI hMv hA
  by_cases hs : stateB p L = true
  · obtain ⟨i0, hi, hz0, hz1, hz2⟩ := info_parts Tryd.infoSt
    have HSt := Lib.hid hs
    have hn8 : n ≤ 8 := by have := (state_facts hs rfl).2.2.1; have := HL.out; omega
    by_cases hmx : m ≤ 6561
    · go_enter Tryd.func19, Tryd.ntmps19
      go_wp2_with fail
      refine (l01Is_calls A n c p L _ HL.out hn HI0.out).mono ?_
      rintro e w1 ⟨rfl, hb⟩
      have HB1 := Lib.hid (HB0.out.trans (hb.mono HB0.out.size))
      have HI1 := Lib.hid (HI0.out.below hb)
      have HV1 := Lib.hid (HV0.out.below hb)
      have X1 := Lib.hid (X0.out.below hb X0.out.lt)
      rw [show stateB p L = true from HSt.out]
      obtain ⟨x0, x1, _, _⟩ := X1.out.two
      have hx1 := X1.out.lt
      have hw1 := HB1.out.size
      clear hb X0 HB0 HI0 HV0 hs
      go_wp2_with fail
      go_region_held3 (fun w' => w'.cell? ⟨w.heap.size, 0, none⟩ = some (.int .i64 p) ∧ w'.cell? ⟨w.heap.size, 1, none⟩ = some (.slice A n c))
        (first | exact ⟨x0, x1⟩ | exact ⟨e0, e1⟩ | exact ⟨f0, f1⟩ | go_keep)
        ((go_at_call 31; refine (l01Own_calls A n c L _ HL.out hn HA.out ?_).mono ?_; (exact (show Ints w1.drew A L from HI1.out)); rintro e w2 ⟨A2, c2, rfl, hO2, hb2⟩; have e0 := (hb2.cell (p := ⟨w.heap.size, 0, none⟩) (by exact hx1)).trans x0; have e1 := (hb2.cell (p := ⟨w.heap.size, 1, none⟩) (by exact hx1)).trans x1; have hx2 : w.heap.size < w2.heap.size := Nat.lt_of_lt_of_le hx1 (by have := hb2.size; exact this); have f0 : (w2.alloc (.cells #[.int .i64 p, .slice A2 n c2] 30)).cell? ⟨w.heap.size, 0, none⟩ = some (.int .i64 p) := (World.cell?_alloc_lt w2 _ ⟨w.heap.size, 0, none⟩ hx2).trans e0; have f1 : (w2.alloc (.cells #[.int .i64 p, .slice A2 n c2] 30)).cell? ⟨w.heap.size, 1, none⟩ = some (.slice A n c) := (World.cell?_alloc_lt w2 _ ⟨w.heap.size, 1, none⟩ hx2).trans e1))
      have HB2 := Lib.hid (undrew hb2)
      have HO2 := Lib.hid hO2
      have hw2 := HB2.out.size
      have hw1d : (World.drew w1).heap.size = w1.heap.size := rfl
      have HB3 := Lib.hid (HB2.out.alloc hw2 (.cells #[.int .i64 p, .slice A2 n c2] 30))
      have OS3 : Hid (OwnSt w1.heap.size (w2.alloc (.cells #[.int .i64 p, .slice A2 n c2] 30)) (some ⟨w2.heap.size, 0, none⟩) 1 1 [⟨p, A2, n, c2, c2, L⟩]) :=
        OwnSt.one (r := ⟨p, A2, n, c2, c2, L⟩) (Box.new w2 _ _) hw2 (OwnG.alloc HO2.out _)
      clear hb2 hO2 e0 e1 f0 f1 x0 x1 hx2
      generalize w2.alloc (.cells #[.int .i64 p, .slice A2 n c2] 30) = w3 at *
      go_wp2
      go_loopw [6, 7] (fun v i wr => ∃ k : Nat, k ≤ m ∧ i = .int .i64 k ∧ Hid (okA p L M k = true) ∧ (∃ AA cc rs, v = .slice AA ((k + 1 : Nat) : Int).toNat cc ∧ OwnSt w1.heap.size wr AA (k + 1) cc rs ∧ QLof rs = runL p L M k ∧ ∀ s ∈ rs, s.c = s.d) ∧ Below w1.heap.size w1 wr) (fun _ i _ => m - (intOf i).toNat)
      case atStart => exact ⟨0, Nat.zero_le _, rfl, rfl, ⟨_, _, _, rfl, OS3.out, rfl, fun s hs => by rw [List.mem_singleton] at hs; rw [hs]⟩, HB3.out⟩
      case round =>
        obtain ⟨k, hk, rfl, hok, ⟨AA, cc, rs, rfl, hSt, hQL, hcd⟩, hbl⟩ := hrel
        have HCD := Lib.hid hcd
        clear hcd
        rw [Int.toNat_natCast]
        have HS := Lib.hid hSt
        have HQ := Lib.hid hQL
        have HBl := Lib.hid hbl
        have hsz := hbl.size
        have hold := Lib.hid hSt.rows_lt
        by_cases hlt : k < m
        · obtain ⟨gM, rfl, hgM, m0, m1, m2⟩ := (HV1.out.below hbl) k (by rw [HM.out]; exact hlt)
          obtain ⟨r, hr⟩ := getT_of_lt (rs := rs) (k := k) (by rw [hSt.len]; omega)
          have hq := QL_at hr
          rw [hQL, runL_at p L M (Nat.le_refl k)] at hq
          injection hq with hq
          injection hq with hq1 hq2
          obtain ⟨gL, rfl, hgL, l0, l1, hlen, hIr⟩ := hSt.ints k r hr
          obtain ⟨rq, rA, rn, rc, rd, rL⟩ := r
          dsimp only at hq1 hq2 l0 l1 hlen hIr
          subst hq1
          have hsl := stA_len L M k
          rw [HL.out, hq2, hlen] at hsl
          subst hsl
          have HLr := Lib.hid hlen
          have HIr := Lib.hid hIr
          have HSr : Hid (stateB p rL = true) := by unfold Hid; rw [← hq2]; exact stA_state HSt.out k hok.out
          have HR := Lib.hid hr
          have HQ2 := Lib.hid hq2
          generalize hmv : M[k]?.getD (0, 0, 0) = mv at m0 m1 m2
          obtain ⟨md, mf, mt⟩ := mv
          have HMV : Hid (mvAt M k = (md, mf, mt)) := hmv
          dsimp only at m0 m1 m2
          clear hSt hQL hbl hr hq2 hlen hIr hmv
          have hlt1 : k < k + 1 := Nat.lt_succ_self k
          have hlt2 : (k : Int) < (k : Int) + 1 := by omega
          go_wp2_with fail
          go_still_tail 8, (by kernel_rfl)
          change wpList _ _ _ _ _ wr.drew
          go_wp2_with fail
          refine (l01Legal_calls rA rn rc p rL md mf mt _ HLr.out (show Ints wr.drew rA rL from HIr.out) HSr.out).mono ?_
          rintro e w4 ⟨rfl, hb4⟩
          have HW4 := Lib.hid (undrew hb4)
          have hz4 := HW4.out.size
          have HS4 := Lib.hid (HS.out.below HW4.out)
          have HB4 := Lib.hid (HBl.out.trans (HW4.out.mono hsz))
          have HI4 := Lib.hid (HIr.out.below HW4.out)
          have n0 := (HW4.out.cell (p := ⟨gM, k * 3, none⟩) hgM).trans m0
          have n1 := (HW4.out.cell (p := ⟨gM, k * 3 + 1, none⟩) hgM).trans m1
          have n2 := (HW4.out.cell (p := ⟨gM, k * 3 + 2, none⟩) hgM).trans m2
          have o0 := (HW4.out.cell (p := ⟨gL, k * 2, none⟩) hgL).trans l0
          have o1 := (HW4.out.cell (p := ⟨gL, k * 2 + 1, none⟩) hgL).trans l1
          clear hb4 m0 m1 m2 l0 l1
          by_cases hl : legalB p rL md mf mt = true
          · have HLG := Lib.hid hl
            have hld := legal_d hl
            rw [HLr.out] at hld
            obtain ⟨j, rfl⟩ := Int.eq_ofNat_of_zero_le hld.1
            have hjn : j < rn := by omega
            go_wp2_with fail
            go_region_law (first
              | (refine step_append_lies _ (by rfl) _ _ _ (by rfl) w1.heap.size 30 i0 (.agg #[.int .i64 0, .slice none 0 0]) 2 32 Tryd.underlying46 hi hz0 hz1 hz2 rfl (by decide) (.slice (some ⟨gL, 0, none⟩) (k + 1) cc) (k + 1) (stCells rs) (by rfl) (HS5.out.1.alloc _) ⟨w5.heap.size, 0, none⟩ 1 1 [.int .i64 p, .slice A5 rn c5] (by rfl) (by rfl) (World.news_of_block (cs := #[.int .i64 p, .slice A5 rn c5]) (t := 30) (fr := (0, 0)) (heap_alloc_new w5 _)) (by simp [Value.oneCell']) (by omega) (by unfold maxLen; omega) (by omega) (by simp; omega) (w5.heap.size + 1) (by simp) ?_; intro gg cap w6 hown' hgrow hat hlt6; have HOW := Lib.hid hown'; have HGR := Lib.hid hgrow; have HB6 := Lib.hid (HB5.out.trans (OwnG.grown_below HS5.out.1 hgrow (Nat.le_refl _) HB5.out.size)); clear hown' hgrow hat)
              | (go_simp; go_at_call 33; refine (l01Done_calls rA rn rc p rL j mf mt _ HLr.out hn hjn ?_).mono ?_; (exact (show Ints w4.drew rA rL from HI4.out)); rintro e w5 ⟨A5, c5, rfl, hO5, hb5⟩; have HW5 := Lib.hid (undrew hb5); have HO5 : Hid (Own w4.heap.size w5 A5 rn c5 (rL.set j mt)) := hO5; have HS5 := Lib.hid (HS4.out.below HW5.out); have hz5 := HW5.out.size; have HB5 := Lib.hid (HB4.out.trans (HW5.out.mono HB4.out.size)); clear hb5 hO5))
            all_goals
              clear n0 n1 n2 o0 o1
              go_wp2
              go_roundw
              case rel =>
                have hok2 : okA p L M (k + 1) = true := by
                  show (okA p L M k && legalB p (stA L M k) (mvAt M k).1 (mvAt M k).2.1 (mvAt M k).2.2) = true
                  rw [hok.out, HMV.out, HQ2.out]
                  exact HLG.out
                refine ⟨k + 1, by omega, by go_num, hok2, ⟨some ⟨gg, 0, none⟩, cap, rs ++ [⟨p, A5, rn, c5, c5, rL.set j mt⟩], by rw [Int.toNat_natCast], OwnSt.snoc (r := ⟨p, A5, rn, c5, c5, rL.set j mt⟩) HS5.out (HO5.out.mono HB4.out.size) (b := w4.heap.size) (fun g (hA : A5 = some ⟨g, 0, none⟩) => by have h1 := HO5.out; rw [hA] at h1; exact (ownG_lt h1).1) (fun s hs g hA => Nat.lt_of_lt_of_le (hold.out s hs g hA) hz4) HOW.out HGR.out, ?_, cd_snoc HCD.out rfl⟩, HB6.out⟩
                rw [runL_succ, ← HQ.out]
                show _ = _ ++ [(p, (stA L M k).set (mvAt M k).1.toNat (mvAt M k).2.2)]
                rw [HMV.out, HQ2.out]
                unfold QLof
                rw [List.map_append]
                rfl
              case measure => simp [intOf]; omega
          · have hl' : legalB p rL md mf mt = false := by simpa using hl
            have HLG := Lib.hid hl'
            clear hl
            have hno : Hid (okA p L M M.length = false) := okA_le (k := k + 1) (by
              show (okA p L M k && legalB p (stA L M k) (mvAt M k).1 (mvAt M k).2.1 (mvAt M k).2.2) = false
              rw [hok.out, HMV.out, HQ2.out]
              exact HLG.out) _ (by rw [HM.out]; omega)
            go_wp2
            go_ret2
            obtain ⟨q1, q2⟩ := rs_no5 (p := p) (L := L) (M := M) HSt.out (by rw [HM.out]; exact hmx) hno.out
            rw [q1, q2]
            exact retStC_zero rfl (HB1.out.trans (HB4.out.mono hw1))
        · obtain rfl : k = m := by omega
          go_wp2
          go_ret2
          obtain ⟨q1, q2⟩ := rs_yes (p := p) (L := L) (M := M) HSt.out (by rw [HM.out]; exact hmx) (by rw [HM.out]; exact hok.out)
          rw [q1, q2]
          exact ⟨AA, _, cc, rs, rfl, HS.out.mono hw1, by rw [HQ.out, HM.out], HCD.out, HB1.out.trans (HBl.out.mono hw1)⟩
    · have hmx' : (6561 : Int) < (m : Int) := by omega
      go_enter Tryd.func19, Tryd.ntmps19
      go_wp2_with fail
      refine (l01Is_calls A n c p L _ HL.out hn HI0.out).mono ?_
      rintro e w1 ⟨rfl, hb⟩
      have HB1 := Lib.hid (HB0.out.trans (hb.mono HB0.out.size))
      clear hb
      go_wp2
      go_ret2
      obtain ⟨q1, q2⟩ := rs_no2 (p := p) (L := L) (M := M) HSt.out (by rw [HM.out]; exact hmx)
      rw [q1, q2]
      exact retStC_zero rfl HB1.out
  · have hs' : stateB p L = false := by simpa using hs
    have H := Lib.hid (rs_no1 (M := M) hs')
    clear hs
    go_enter Tryd.func19, Tryd.ntmps19
    go_wp2_with fail
    refine (l01Is_calls A n c p L _ HL.out hn HI0.out).mono ?_
    rintro e w1 ⟨rfl, hb⟩
    have HB := Lib.hid (HB0.out.trans (hb.mono HB0.out.size))
    clear hb
    go_wp2
    go_ret2
    obtain ⟨q1, q2⟩ := H.out
    rw [q1, q2]
    exact retStC_zero rfl HB.out

theorem l01Run_ret (A : Option Addr) (n c : Nat) (p : Int) (L : List Int) (AM : Option Addr) (m cM : Nat) (M : List Mv) (w : World) (hL : L.length = n) (hn : n ≤ 1048576) (hA : A = none → c = 0) (hI : Ints w A L) (hM : M.length = m) (hm : m ≤ 1048576) (hMv : Mvs w AM M) :
    Calls Tryd.prog 19 #[.agg #[.int .i64 p, .slice A n c], .slice AM m cM] w (RetSt w (rsV p L M) (rsC p L M)) :=
  (l01Run_retC A n c p L AM m cM M w hL hn hA hI hM hm hMv).mono fun _ _ h => h.st

end Go.Proofs.YtbnjdpjlhccglaaDoor
