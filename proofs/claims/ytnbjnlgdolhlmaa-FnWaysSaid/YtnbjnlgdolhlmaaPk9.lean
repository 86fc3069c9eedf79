/- Contracts: the states of a run, by the specification. · Contracts: the states of a run, by the program; both sides of StatesOfRun. · Contracts: the last state of a run, both sides. · Ways to pegs: contracts, with what their answers have to do with each other. · Contracts: the states that a law draws from its code. · Contracts: the states that a law draws: one that seldom is none. -/
import Derived.Test.YtnbjnlgdolhlmaaPk3
import Derived.StillTailTactics
import Derived.Laws.Rows
import Derived.Test.YtnbjnlgdolhlmaaPk5
import Derived.Test.YtnbjnlgdolhlmaaPk6
import Derived.Test.YtnbjnlgdolhlmaaPk8
import Derived.Test.YtnbjnlgdolhlmaaPk7
import Derived.Test.YtnbjnlgdolhlmaaPk1
import Derived.Test.YtnbjnlgdolhlmaaPk2
import Derived.Deep.AppendLies
import Derived.Deep.RegionLaw
namespace Go.Proofs.Ytnbjnlgdolhlmaa
open Go.RowKit Go.Shelf
set_option linter.unusedVariables false

/-- A list of states and a code are the answer, each state with all of its list's capacity. -/
def RetStC (w : World) (QL : List (Int × List Int)) (E : Int) (e : Ending) (w' : World) : Prop :=
  ∃ A n c rs, e = .returned (.tuple #[.slice A n c, .int .i64 E]) ∧ OwnSt w.heap.size w' A n c rs ∧ QLof rs = QL ∧ (∀ s ∈ rs, s.c = s.d) ∧ Below w.heap.size w w'
theorem RetStC.st {w w' : World} {QL : List (Int × List Int)} {E : Int} {e : Ending} (h : RetStC w QL E e w') : RetSt w QL E e w' := by
  obtain ⟨A, n, c, rs, h1, h2, h3, _, h5⟩ := h
  exact ⟨A, n, c, rs, h1, h2, h3, h5⟩
theorem retStC_zero {w w' : World} {e : Ending} {E : Int} (he : e = .returned (.tuple #[.slice none 0 0, .int .i64 E])) (hb : Below w.heap.size w w') : RetStC w [] E e w' :=
  ⟨none, 0, 0, [], he, OwnSt.nilS _ _, rfl, fun s hs => by simp at hs, hb⟩
theorem cd_snoc {rs : List Sw} {r : Sw} (h : ∀ s ∈ rs, s.c = s.d) (hr : r.c = r.d) : ∀ s ∈ rs ++ [r], s.c = s.d := by
  intro s hs
  rcases List.mem_append.1 hs with hs | hs
  · exact h s hs
  · rw [List.mem_singleton] at hs; rw [hs]; exact hr
theorem OwnSt.one {B g : Nat} {w : World} {r : Sw} (hb : Box w g 26 #[.int .i64 r.q, .slice r.A r.n r.c]) (hB : B ≤ g) (hO : Own B w r.A r.n r.d r.L) : OwnSt B w (some ⟨g, 0, none⟩) 1 1 [r] := by
  refine ⟨⟨by simp [stCells, Sw.vs], .inr ⟨g, 1, #[.int .i64 r.q, .slice r.A r.n r.c], rfl, hB, hb, Nat.le_refl _, by unfold maxLen; omega, by simp, by simp [stCells, Sw.vs]⟩⟩, fun s hs => ?_, List.pairwise_singleton _ _⟩
  rw [List.mem_singleton] at hs
  rw [hs]
  exact hO

end Go.Proofs.Ytnbjnlgdolhlmaa

namespace Go.Proofs.Ytnbjnlgdolhlmaa
open Go.RowKit Go.Shelf
set_option linter.unusedVariables false

set_option maxRecDepth 100000 in
set_option maxHeartbeats 4000000 in
theorem implStatesOfRun_retC (A : Option Addr) (n c : Nat) (p : Int) (L : List Int) (AM : Option Addr) (m cM : Nat) (M : List Mv) (w : World) (hL : L.length = n) (hn : n ≤ 1048576) (hI : Ints w A L) (hM : M.length = m) (hm : m ≤ 1048576) (hMv : Mvs w AM M) :
    Calls Try.prog 46 #[.agg #[.int .i64 p, .slice A n c], .slice AM m cM] w (RetStC w (rsV p L M) (rsC p L M)) := by
  have HL := Lib.hid hL
  have HM := Lib.hid hM
  have hb0 : Below w.heap.size w (w.alloc (.cells #[.int .i64 p, .slice A n c] 26)) := (Below.refl _ _).alloc (Nat.le_refl _) _
  have HB0 := Lib.hid hb0
  have HI0 := Lib.hid (hI.below hb0)
  have HV0 := Lib.hid (hMv.below hb0)
  have X0 := Lib.hid (Box.new w 26 #[.int .i64 p, .slice A n c])
  clear hL hM hb0 hI hMv
  by_cases hs : stateB p L = true
  · obtain ⟨i0, hi, hz0, hz1, hz2⟩ := info_parts Try.infoSt
    have HSt := Lib.hid hs
    by_cases hmx : m ≤ 6561
    · go_enter Try.func46, Try.ntmps46
      go_wp2_with fail
      refine (implIsState_calls A n c p L _ HL.out hn HI0.out).mono ?_
      rintro e w1 ⟨rfl, hb⟩
      have HB1 := Lib.hid (HB0.out.trans (hb.mono HB0.out.size))
      have HI1 := Lib.hid (HI0.out.below hb)
      have HV1 := Lib.hid (HV0.out.below hb)
      have X1 := Lib.hid (X0.out.below hb X0.out.lt)
      rw [show stateB p L = true from HSt.out]
      obtain ⟨x0, x1, _, _⟩ := X1.out.two
      have hw1 := HB1.out.size
      clear hb X0 HB0 HI0 HV0 hs
      go_wp2_with fail
      refine (copyOfState_calls A n c p L _ HL.out hn HI1.out).mono ?_
      rintro e w2 ⟨A2, c2, rfl, hc2, hc2', hO2, hb2⟩
      have HO2 := Lib.hid hO2
      have HB2 := Lib.hid hb2
      have hw2 := hb2.size
      have BL : Hid (Box ((w2.alloc (.cells #[.int .i64 p, .slice A2 n c2] 26)).alloc (.cells #[.int .i64 p, .slice A2 n c2] 26)) w2.heap.size 26 #[.int .i64 p, .slice A2 n c2]) := (Box.new w2 _ _).alloc _
      have OS3 : Hid (OwnSt w1.heap.size ((w2.alloc (.cells #[.int .i64 p, .slice A2 n c2] 26)).alloc (.cells #[.int .i64 p, .slice A2 n c2] 26)) (some ⟨w2.heap.size + 1, 0, none⟩) 1 1 [⟨p, A2, n, c2, c2, L⟩]) := by
        have := Box.new (w2.alloc (.cells #[.int .i64 p, .slice A2 n c2] 26)) 26 #[.int .i64 p, .slice A2 n c2]
        rw [World.size_alloc] at this
        exact OwnSt.one (r := ⟨p, A2, n, c2, c2, L⟩) this (by omega) (OwnG.alloc (OwnG.alloc HO2.out _) _)
      have HB3 := Lib.hid ((HB2.out.alloc hw2 (.cells #[.int .i64 p, .slice A2 n c2] 26)).alloc (by simp; omega) (.cells #[.int .i64 p, .slice A2 n c2] 26))
      clear hO2 hb2 x0 x1 X1
      go_wp2
      generalize (w2.alloc (.cells #[.int .i64 p, .slice A2 n c2] 26)).alloc (.cells #[.int .i64 p, .slice A2 n c2] 26) = w3 at *
      generalize w2.heap.size = lb at *
      go_loopw [7, 22] (fun v i wr => ∃ k : Nat, k ≤ m ∧ i = .int .i64 k ∧ Hid (okA p L M k = true) ∧ (∃ AA cc rs r, v = .slice AA ((k + 1 : Nat) : Int).toNat cc ∧ OwnSt w1.heap.size wr AA (k + 1) cc rs ∧ QLof rs = runL p L M k ∧ rs[k]? = some r ∧ Box wr lb 26 #[.int .i64 p, .slice r.A r.n r.c] ∧ (n ≤ r.c ∧ r.c ≤ 9223372036854775807) ∧ (∀ g, AA = some ⟨g, 0, none⟩ → lb < g) ∧ ∀ s ∈ rs, s.c = s.d) ∧ Below w1.heap.size w1 wr) (fun _ i _ => m - (intOf i).toNat)
      case atStart => exact ⟨0, Nat.zero_le _, rfl, rfl, ⟨_, _, _, ⟨p, A2, n, c2, c2, L⟩, rfl, OS3.out, rfl, rfl, BL.out, ⟨hc2, by dsimp only; omega⟩, fun g e => by injection e with e; injection e with e; omega, fun s hs => by rw [List.mem_singleton] at hs; rw [hs]⟩, HB3.out⟩
      case round =>
        obtain ⟨k, hk, rfl, hok, ⟨AA, cc, rs, r, rfl, hSt, hQL, hr, hbx, hrc, hAl, hcd⟩, hbl⟩ := hrel
        have HCD := Lib.hid hcd
        clear hcd
        rw [Int.toNat_natCast]
        have HS := Lib.hid hSt
        have HQ := Lib.hid hQL
        have HBl := Lib.hid hbl
        have HAl := Lib.hid hAl
        have hsz := hbl.size
        have hold := Lib.hid hSt.rows_lt
        by_cases hlt : k < m
        · obtain ⟨gM, rfl, hgM, m0, m1, m2⟩ := (HV1.out.below hbl) k (by rw [HM.out]; exact hlt)
          have hq := QL_at hr
          rw [hQL, runL_at p L M (Nat.le_refl k)] at hq
          injection hq with hq
          injection hq with hq1 hq2
          have hOr := hSt.2.1 r (List.mem_of_getElem? hr)
          have hlen := hOr.len
          have hIr := hOr.ints
          obtain ⟨rq, rA, rn, rc, rd, rL⟩ := r
          dsimp only at hq1 hq2 hlen hIr hbx hrc
          subst hq1
          have hsl := stA_len L M k
          rw [HL.out, hq2, hlen] at hsl
          subst hsl
          have HLr := Lib.hid hlen
          have HIr := Lib.hid hIr
          have HSr : Hid (stateB p rL = true) := by unfold Hid; rw [← hq2]; exact stA_state HSt.out k hok.out
          have HQ2 := Lib.hid hq2
          generalize hmv : M[k]?.getD (0, 0, 0) = mv at m0 m1 m2
          obtain ⟨md, mf, mt⟩ := mv
          have HMV : Hid (mvAt M k = (md, mf, mt)) := hmv
          dsimp only at m0 m1 m2
          have BX := Lib.hid hbx
          obtain ⟨b0, b1, _, _⟩ := hbx.two
          have hlb := hbx.lt
          clear hSt hQL hbl hr hq2 hlen hIr hmv hOr hAl hbx
          go_wp2_with fail
          refine (isLegalMove_calls rA rn rc p rL md mf mt _ HLr.out hrc.1 hrc.2 (HIr.out.below ((Below.refl wr.heap.size wr).alloc (Nat.le_refl _) _)) HSr.out).mono ?_
          rintro e w4 ⟨rfl, hb4⟩
          have HW4 := Lib.hid (((Below.refl wr.heap.size wr).alloc (Nat.le_refl _) (.cells #[.int .i64 md, .int .i64 mf, .int .i64 mt] 39)).trans (hb4.mono (by simp)))
          have BM4 := Lib.hid ((Box.new wr 39 #[.int .i64 md, .int .i64 mf, .int .i64 mt]).below hb4 (by simp))
          have BX4 := Lib.hid (BX.out.below HW4.out BX.out.lt)
          have hz4 := HW4.out.size
          have HS4 := Lib.hid (HS.out.below HW4.out)
          have HB4 := Lib.hid (HBl.out.trans (HW4.out.mono hsz))
          have HI4 := Lib.hid (HIr.out.below HW4.out)
          obtain ⟨n0, n1, n2⟩ := BM4.out.three
          clear b0 b1 BX
          obtain ⟨b0, b1, _, _⟩ := BX4.out.two
          have hlb4 := BX4.out.lt
          have hlm4 := BM4.out.lt
          clear hb4 m0 m1 m2
          by_cases hl : legalB p rL md mf mt = true
          · have HLG := Lib.hid hl
            have hld := legal_d hl
            rw [HLr.out] at hld
            obtain ⟨j, rfl⟩ := Int.eq_ofNat_of_zero_le hld.1
            have hjn : j < rn := by omega
            go_wp2_with fail
            refine (afterMove_calls rA rn rc p rL j mf mt _ HLr.out hn hjn HI4.out).mono ?_
            rintro e w5 ⟨A5, c5, rfl, hO5, hb5⟩
            have HW5 := Lib.hid hb5
            have HO5 := Lib.hid hO5
            have HS5 := Lib.hid (HS4.out.below hb5)
            have hz5 := hb5.size
            have BX5 := Lib.hid (BX4.out.below hb5 BX4.out.lt)
            have HB5 := Lib.hid (HB4.out.trans (hb5.mono HB4.out.size))
            clear hb5 hO5 n0 n1 n2 b0 b1 BM4
            obtain ⟨b0, b1, f0, f1⟩ := BX5.out.two
            have hlb5 := BX5.out.lt
            have hlw1 : w1.heap.size ≤ lb := by omega
            have HS6 : Hid (OwnSt w1.heap.size ((w5.setCell ⟨lb, 0, none⟩ (.int .i64 p)).setCell ⟨lb, 1, none⟩ (.slice A5 rn c5)) AA (k + 1) cc rs) := by
              have h1 : OwnSt w1.heap.size (w5.setCell ⟨lb, 0, none⟩ (.int .i64 p)) AA (k + 1) cc rs := ⟨HS5.out.1.setBox (fun g hA => by have := HAl.out g hA; simp; omega) _, fun s hs => OwnG.setBoxed (HS5.out.2.1 s hs) BX5.out (by decide) 0 _, HS5.out.2.2⟩
              have h2 := BX5.out.set 0 (.int .i64 p)
              exact ⟨h1.1.setBox (fun g hA => by have := HAl.out g hA; simp; omega) _, fun s hs => OwnG.setBoxed (h1.2.1 s hs) h2 (by decide) 1 _, h1.2.2⟩
            have HO6 : Hid (Own w4.heap.size ((w5.setCell ⟨lb, 0, none⟩ (.int .i64 p)).setCell ⟨lb, 1, none⟩ (.slice A5 rn c5)) A5 rn c5 (rL.set j mt)) := by
              have h1 := OwnG.setBoxed HO5.out BX5.out (by decide) 0 (.int .i64 p)
              exact OwnG.setBoxed h1 (BX5.out.set 0 (.int .i64 p)) (by decide) 1 _
            have BX6 : Hid (Box ((w5.setCell ⟨lb, 0, none⟩ (.int .i64 p)).setCell ⟨lb, 1, none⟩ (.slice A5 rn c5)) lb 26 #[.int .i64 p, .slice A5 rn c5]) := (BX5.out.set 0 (.int .i64 p)).set 1 (.slice A5 rn c5)
            have HB6 := Lib.hid ((HB5.out.setCell (p := ⟨lb, 0, none⟩) hlw1 (.int .i64 p)).setCell (p := ⟨lb, 1, none⟩) hlw1 (.slice A5 rn c5))
            have hsz6 : ((w5.setCell ⟨lb, 0, none⟩ (.int .i64 p)).setCell ⟨lb, 1, none⟩ (.slice A5 rn c5)).heap.size = w5.heap.size := by simp
            generalize hW6 : (w5.setCell ⟨lb, 0, none⟩ (.int .i64 p)).setCell ⟨lb, 1, none⟩ (.slice A5 rn c5) = w6 at HS6 HO6 BX6 HB6 hsz6
            have hg6 : w1.heap.size ≤ w6.heap.size := HB6.out.size
            obtain ⟨s0, s1, _, _⟩ := BX6.out.two
            have hlb6 := BX6.out.lt
            clear hsz6
            go_wp2_with (at_builtin; refine wpList_append_lies _ rfl _ _ 74 rfl w1.heap.size 26 i0 (.agg #[.int .i64 0, .slice none 0 0]) 2 32 Try.underlying74 hi hz0 hz1 hz2 rfl (by decide) _ _ _ rfl (HS6.out.1.alloc _) ⟨w6.heap.size, 0, none⟩ 1 1 [.int .i64 p, .slice A5 rn c5] rfl rfl (World.news_of_block (cs := #[.int .i64 p, .slice A5 rn c5]) (t := 26) (fr := (0, 0)) (heap_alloc_new w6 _)) (by simp [Value.oneCell']) (by omega) (by unfold maxLen; omega) (by omega) (by simp; omega) (w6.heap.size + 1) (by simp) ?_; intro gg c6 w7 hown' hgrow hat hlt7; have HOW := Lib.hid hown'; have HGR := Lib.hid hgrow; have HAT := Lib.hid hat; clear hown' hgrow hat)
            go_roundw
            case rel =>
              have hok2 : okA p L M (k + 1) = true := by
                show (okA p L M k && legalB p (stA L M k) (mvAt M k).1 (mvAt M k).2.1 (mvAt M k).2.2) = true
                rw [hok.out, HMV.out, HQ2.out]
                exact HLG.out
              have hcap := OwnG.cap HO6.out
              have hsn := OwnSt.snoc (r := ⟨p, A5, rn, c5, c5, rL.set j mt⟩) HS6.out (HO6.out.mono HB4.out.size) (b := w4.heap.size) (fun g (hA : A5 = some ⟨g, 0, none⟩) => by have h1 := HO6.out; rw [hA] at h1; exact (ownG_lt h1).1) (fun s hs g hA => Nat.lt_of_lt_of_le (hold.out s hs g hA) hz4) HOW.out HGR.out
              have hb7 := OwnG.grown_below HS6.out.1 HGR.out (Nat.le_refl _) hg6
              have hlk := HS.out.len
              refine ⟨k + 1, by omega, by go_num, hok2, ⟨some ⟨gg, 0, none⟩, c6, rs ++ [⟨p, A5, rn, c5, c5, rL.set j mt⟩], ⟨p, A5, rn, c5, c5, rL.set j mt⟩, by rw [Int.toNat_natCast], hsn, ?_, by rw [List.getElem?_append_right (by omega), hlk, Nat.sub_self]; rfl, ?_, ⟨hcap.1, by have := hcap.2; unfold maxLen at this; dsimp only; omega⟩, ?_, cd_snoc HCD.out rfl⟩, HB6.out.trans hb7⟩
              · rw [runL_succ, ← HQ.out]
                show _ = _ ++ [(p, (stA L M k).set (mvAt M k).1.toNat (mvAt M k).2.2)]
                rw [HMV.out, HQ2.out]
                unfold QLof
                rw [List.map_append]
                rfl
              · refine (BX6.out.alloc (.cells #[.int .i64 p, .slice A5 rn c5] 26)).grown HGR.out (fun e => ?_)
                rcases HS6.out.1.form with ⟨rfl, h2, _⟩ | ⟨g, rfl, _, _⟩
                · omega
                · have h1 := HAl.out g rfl
                  have e' : some lb = some g := e
                  injection e' with e'
                  omega
              · intro g hA
                injection hA with hA
                injection hA with hA
                subst hA
                rcases HAT.out with h1 | h1
                · rcases HS6.out.1.form with ⟨rfl, _, _⟩ | ⟨g', rfl, _, _⟩
                  · cases h1
                  · have h1' : some g' = some gg := h1
                    injection h1' with h1'
                    have := HAl.out g' rfl
                    omega
                · omega
            case measure => simp [intOf]; omega
          · have hl' : legalB p rL md mf mt = false := by simpa using hl
            have HLG := Lib.hid hl'
            clear hl
            have hno : Hid (okA p L M M.length = false) := okA_le (k := k + 1) (by
              show (okA p L M k && legalB p (stA L M k) (mvAt M k).1 (mvAt M k).2.1 (mvAt M k).2.2) = false
              rw [hok.out, HMV.out, HQ2.out]
              exact HLG.out) _ (by rw [HM.out]; omega)
            go_wp2
            go_ret2
            obtain ⟨q1, q2⟩ := rs_no5 (p := p) (L := L) (M := M) HSt.out (by rw [HM.out]; exact hmx) hno.out
            rw [q1, q2]
            exact retStC_zero rfl (HB1.out.trans (HB4.out.mono hw1))
        · obtain rfl : k = m := by omega
          go_wp2
          go_ret2
          obtain ⟨q1, q2⟩ := rs_yes (p := p) (L := L) (M := M) HSt.out (by rw [HM.out]; exact hmx) (by rw [HM.out]; exact hok.out)
          rw [q1, q2]
          exact ⟨AA, _, cc, rs, rfl, HS.out.mono hw1, by rw [HQ.out, HM.out], HCD.out, HB1.out.trans (HBl.out.mono hw1)⟩
    · have hmx' : (6561 : Int) < (m : Int) := by omega
      go_enter Try.func46, Try.ntmps46
      go_wp2_with fail
      refine (implIsState_calls A n c p L _ HL.out hn HI0.out).mono ?_
      rintro e w1 ⟨rfl, hb⟩
      have HB1 := Lib.hid (HB0.out.trans (hb.mono HB0.out.size))
      clear hb
      go_wp2
      go_ret2
      obtain ⟨q1, q2⟩ := rs_no2 (p := p) (L := L) (M := M) HSt.out (by rw [HM.out]; exact hmx)
      rw [q1, q2]
      exact retStC_zero rfl HB1.out
  · have hs' : stateB p L = false := by simpa using hs
    have H := Lib.hid (rs_no1 (M := M) hs')
    clear hs
    go_enter Try.func46, Try.ntmps46
    go_wp2_with fail
    refine (implIsState_calls A n c p L _ HL.out hn HI0.out).mono ?_
    rintro e w1 ⟨rfl, hb⟩
    have HB := Lib.hid (HB0.out.trans (hb.mono HB0.out.size))
    clear hb
    go_wp2
    go_ret2
    obtain ⟨q1, q2⟩ := H.out
    rw [q1, q2]
    exact retStC_zero rfl HB.out

theorem implStatesOfRun_ret (A : Option Addr) (n c : Nat) (p : Int) (L : List Int) (AM : Option Addr) (m cM : Nat) (M : List Mv) (w : World) (hL : L.length = n) (hn : n ≤ 1048576) (hI : Ints w A L) (hM : M.length = m) (hm : m ≤ 1048576) (hMv : Mvs w AM M) :
    Calls Try.prog 46 #[.agg #[.int .i64 p, .slice A n c], .slice AM m cM] w (RetSt w (rsV p L M) (rsC p L M)) :=
  (implStatesOfRun_retC A n c p L AM m cM M w hL hn hI hM hm hMv).mono fun _ _ h => h.st

end Go.Proofs.Ytnbjnlgdolhlmaa

namespace Go.Proofs.Ytnbjnlgdolhlmaa
open Go.RowKit Go.Shelf
set_option linter.unusedVariables false

def rmP (p : Int) (L : List Int) (M : List Mv) : Int := if rsB p L M = true then p else 0
def rmL (p : Int) (L : List Int) (M : List Mv) : List Int := if rsB p L M = true then stA L M M.length else []
theorem rm_yes {p : Int} {L : List Int} {M : List Mv} (h : rsB p L M = true) : rmP p L M = p ∧ rmL p L M = stA L M M.length ∧ rsC p L M = 0 ∧ rsV p L M = runL p L M M.length := by
  refine ⟨by unfold rmP; rw [if_pos h], by unfold rmL; rw [if_pos h], ?_, by unfold rsV; rw [if_pos h]⟩
  unfold rsB at h
  simp only [Bool.and_eq_true, decide_eq_true_iff] at h
  unfold rsC
  rw [if_pos h.1, if_pos h.2.1, if_pos h.2.2]
theorem rm_no {p : Int} {L : List Int} {M : List Mv} (h : rsB p L M = false) : rmP p L M = 0 ∧ rmL p L M = [] ∧ (rsC p L M != 0) = true := by
  refine ⟨by unfold rmP; rw [h]; rfl, by unfold rmL; rw [h]; rfl, ?_⟩
  unfold rsB at h
  unfold rsC
  by_cases h1 : stateB p L = true
  · rw [if_pos h1]
    by_cases h2 : M.length ≤ 6561
    · rw [if_pos h2]
      by_cases h3 : okA p L M M.length = true
      · simp [h1, h2, h3] at h
      · rw [if_neg h3]; rfl
    · rw [if_neg h2]; rfl
  · rw [if_neg h1]; rfl
theorem rmL_len (p : Int) (L : List Int) (M : List Mv) (hL : L.length ≤ 1048576) : (rmL p L M).length ≤ 1048576 := by
  unfold rmL
  split
  · rw [stA_len]; exact hL
  · simp
theorem results_row_tmp2 {P : Program} {fn : Func} {p q : Tmp} {ty : TypeId} (h : fn.results = #[.cell p ty, .tmp q]) (tmps : Array Value) (w : World) (g : Nat) (t : TypeId) (cs : Array Value) (fr : Nat × Nat) (d : TypeDesc)
    (hp : tmps.getD p undef = .pointer (some ⟨g, 0, none⟩)) (hg : w.heap[g]? = some (.cells cs t fr))
    (hu : P.underlying ty = some d) (hd : (match d with | .struct _ | .array _ _ => true | _ => false) = true) (hi : (P.info? ty).map (·.size) = some cs.size) :
    (results fn tmps).run P w = .ok (.tuple #[.agg cs, tmps.getD q undef]) w := by
  have hp' : tmps[p]?.getD undef = .pointer (some ⟨g, 0, none⟩) := by simpa using hp
  simp [results, h, hp', asAddr, run_loadVar_row w g t ty cs fr d hg hu hd hi]

set_option maxRecDepth 100000 in
set_option maxHeartbeats 2000000 in
theorem implRunMoves_ret (A : Option Addr) (n c : Nat) (p : Int) (L : List Int) (AM : Option Addr) (m cM : Nat) (M : List Mv) (w : World) (hL : L.length = n) (hn : n ≤ 1048576) (hI : Ints w A L) (hM : M.length = m) (hm : m ≤ 1048576) (hMv : Mvs w AM M) :
    Calls Try.prog 23 #[.agg #[.int .i64 p, .slice A n c], .slice AM m cM] w (RetState w (rmP p L M) (rmL p L M).length (rmL p L M) (rsC p L M)) := by
  have HB0 := Lib.hid (((Below.refl w.heap.size w).alloc (Nat.le_refl _) (.cells #[.int .i64 p, .slice A n c] 26)).alloc (by simp) (.cells #[.int .i64 0, .slice none 0 0] 26))
  have HI0 := Lib.hid (hI.below HB0.out)
  have HV0 := Lib.hid (hMv.below HB0.out)
  have R0 : Hid (Box ((w.alloc (.cells #[.int .i64 p, .slice A n c] 26)).alloc (.cells #[.int .i64 0, .slice none 0 0] 26)) (w.heap.size + 1) 26 #[.int .i64 0, .slice none 0 0]) := by
    have := Box.new (w.alloc (.cells #[.int .i64 p, .slice A n c] 26)) 26 #[.int .i64 0, .slice none 0 0]
    rw [World.size_alloc] at this
    exact this
  have HL := Lib.hid hL
  have HM := Lib.hid hM
  skip
  clear hI hMv hL hM 
  go_enter Try.func23, Try.ntmps23
  go_wp2_with fail
  refine (implStatesOfRun_retC A n c p L AM m cM M _ HL.out hn HI0.out HM.out hm HV0.out).mono ?_
  rintro e w1 ⟨A1, n1, c1, rs, rfl, hO, hQ, hcd, hb⟩
  have HO := Lib.hid hO
  have HCD := Lib.hid hcd
  have HB1 := Lib.hid (HB0.out.trans (hb.mono HB0.out.size))
  have R1 := Lib.hid (R0.out.below hb R0.out.lt)
  have hs0 := HB0.out.size
  have hw1 := HB1.out.size
  clear hb hcd R0
  by_cases hB : rsB p L M = true
  · have HRM := Lib.hid (rm_yes hB)
    obtain ⟨q1, q2, q3, q4⟩ := rm_yes hB
    rw [q1, q2, q3]
    rw [q4] at hQ
    have hlen := QL_len rs
    rw [hQ] at hlen
    have hl1 : (runL p L M M.length).length = M.length + 1 := by unfold runL; simp
    have hn1 : n1 = m + 1 := by have := hO.len; have := HM.out; omega
    subst hn1
    obtain ⟨r, hr⟩ := getT_of_lt (rs := rs) (k := m) (by rw [hO.len]; omega)
    have hq := QL_at hr
    rw [hQ, ← HM.out, runL_at p L M (Nat.le_refl _)] at hq
    injection hq with hq
    injection hq with hq1 hq2
    obtain ⟨g, rfl, hg, l0, l1, hlr, hIr⟩ := hO.ints m r hr
    have hcr := HCD.out r (List.mem_of_getElem? hr)
    have hOr := hO.2.1 r (List.mem_of_getElem? hr)
    obtain ⟨rq, rA, rn, rc, rd, rL⟩ := r
    dsimp only at hq1 hq2 hcr hOr l0 l1 hlr
    subst hq1 hcr
    have HQ2 := Lib.hid hq2
    have HLr := Lib.hid hlr
    have HOr := Lib.hid hOr
    have hlt1 : m < m + 1 := Nat.lt_succ_self m
    have hne : g ≠ w.heap.size + 1 := by
      rcases HO.out.1.form with ⟨h1, _⟩ | ⟨g', h1, h2, _⟩
      · cases h1
      · injection h1 with h1; injection h1 with h1; have : w.heap.size + 2 ≤ g' := by simpa using h2
        omega
    obtain ⟨r0, r1, f0, f1⟩ := R1.out.two
    clear hQ hr hq2 hlr hOr hIr hO hlen hl1 q1 q2 q3 q4 hB
    go_wp2
    have hbx : Hid (Box ((w1.setCell ⟨w.heap.size + 1, 0, none⟩ (.int .i64 p)).setCell ⟨w.heap.size + 1, 1, none⟩ (.slice rA rn rc)) (w.heap.size + 1) 26 #[.int .i64 p, .slice rA rn rc]) := (R1.out.set 0 (.int .i64 p)).set 1 (.slice rA rn rc)
    have hb9 := Lib.hid ((HB1.out.setCell (p := ⟨w.heap.size + 1, 0, none⟩) (by simp) (.int .i64 p)).setCell (p := ⟨w.heap.size + 1, 1, none⟩) (by simp) (.slice rA rn rc))
    have ho9 : Hid (Own w.heap.size ((w1.setCell ⟨w.heap.size + 1, 0, none⟩ (.int .i64 p)).setCell ⟨w.heap.size + 1, 1, none⟩ (.slice rA rn rc)) rA rn rc rL) := by
      have h1 := OwnG.setBoxed HOr.out R1.out (by decide) 0 (.int .i64 p)
      have h2 := OwnG.setBoxed h1 (R1.out.set 0 (.int .i64 p)) (by decide) 1 (.slice rA rn rc)
      exact OwnG.mono h2 hs0
    generalize (w1.setCell ⟨w.heap.size + 1, 0, none⟩ (.int .i64 p)).setCell ⟨w.heap.size + 1, 1, none⟩ (.slice rA rn rc) = w9 at *
    refine bodyPost_ret (results_row_tmp2 rfl _ _ (w.heap.size + 1) 26 #[.int .i64 p, .slice rA rn rc] (0, 0) _ rfl hbx.out Try.underlying26 rfl (by kernel_rfl)) rfl ?_
    obtain ⟨q1, q2, q3, _⟩ := HRM.out
    rw [q1, q2, q3, HQ2.out, HLr.out]
    exact ⟨rA, rc, rfl, ho9.out, hb9.out⟩
  · have hB' : rsB p L M = false := by simpa using hB
    have HRM := Lib.hid (rm_no hB')
    obtain ⟨q1, q2, q3⟩ := rm_no hB'
    rw [q1, q2]
    have hE := q3
    generalize hrc : rsC p L M = E at hE ⊢
    have HE := Lib.hid hrc
    obtain ⟨r0, r1, f0, f1⟩ := R1.out.two
    clear hQ hO hB hB' q1 q2 q3 hrc
    go_wp2
    have hbx : Hid (Box ((w1.setCell ⟨w.heap.size + 1, 0, none⟩ (.int .i64 0)).setCell ⟨w.heap.size + 1, 1, none⟩ (.slice none 0 0)) (w.heap.size + 1) 26 #[.int .i64 0, .slice none 0 0]) := (R1.out.set 0 (.int .i64 0)).set 1 (.slice none 0 0)
    have hb9 := Lib.hid ((HB1.out.setCell (p := ⟨w.heap.size + 1, 0, none⟩) (by simp) (.int .i64 0)).setCell (p := ⟨w.heap.size + 1, 1, none⟩) (by simp) (.slice none 0 0))
    generalize (w1.setCell ⟨w.heap.size + 1, 0, none⟩ (.int .i64 0)).setCell ⟨w.heap.size + 1, 1, none⟩ (.slice none 0 0) = w9 at *
    refine bodyPost_ret (results_row_tmp2 rfl _ _ (w.heap.size + 1) 26 #[.int .i64 0, .slice none 0 0] (0, 0) _ rfl hbx.out Try.underlying26 rfl (by kernel_rfl)) rfl ?_
    obtain ⟨q1, q2, _⟩ := HRM.out
    rw [q1, q2, HE.out]
    exact ⟨none, 0, rfl, Own.nilS _ _, hb9.out⟩

end Go.Proofs.Ytnbjnlgdolhlmaa

namespace Go.Proofs.Ytnbjnlgdolhlmaa
open Go.RowKit
set_option linter.unusedVariables false
set_option maxRecDepth 100000

theorem own_none {B : Nat} {w : World} {A : Option Addr} {n c : Nat} {L : List Int} (h : Own B w A n c L) : A = none → c = 0 := fun e => by
  rcases OwnG.form h with ⟨_, _, h3⟩ | ⟨_, h, _⟩
  · exact h3
  · rw [e] at h; cases h
theorem own_capI {B : Nat} {w : World} {A : Option Addr} {n c : Nat} {L : List Int} (h : Own B w A n c L) : n ≤ c ∧ c ≤ 9223372036854775807 := by
  have h := OwnG.cap h
  unfold maxLen at h
  omega
theorem wa_all (p : Int) (L : List Int) (m : Nat) (a : Int) (hL : L.length = m) (hm : m ≤ 10) : ∃ (M : List Mv) (k : Nat) (E : Int), (M.length = k ∧ k ≤ 255) ∧ (∀ (A : Option Addr) (c : Nat) (W : World), Ints W A L → (A = none → c = 0) → Calls Try.prog 6 #[.agg #[.int .i64 p, .slice A m c], .int .i64 a] W (RetMvs W k M E)) ∧ (∀ (A : Option Addr) (c : Nat) (W : World), Ints W A L → (A = none → c = 0) → Calls Try.prog 7 #[.agg #[.int .i64 p, .slice A m c], .int .i64 a] W (RetMvs W k M E)) ∧ ((E ≠ 0 ∧ k = 0) ∨ (E = 0 ∧ ∃ R : List Int, R.length = m ∧ (∀ (A : Option Addr) (c : Nat) (W : World), Ints W A L → Calls Try.prog 10 #[.agg #[.int .i64 p, .slice A m c], .int .i64 a] W (fun e w' => e = .returned (.tuple #[.int .i64 (k : Int), .int .i64 0]) ∧ Below W.heap.size W w')) ∧ (∀ (A : Option Addr) (c : Nat) (D : Option Addr) (d : Nat) (W : World), Ints W A L → Mvs W D M → Calls Try.prog 23 #[.agg #[.int .i64 p, .slice A m c], .slice D k d] W (RetState W 3 m R 0)) ∧ (∀ W, Calls Try.prog 24 #[.int .i64 3, .int .i64 (m : Int), .int .i64 a] W (RetState W 3 m R 0)))) := by
  subst hL
  refine ⟨wtL p L a, (wtL p L a).length, codeW p L a, ⟨rfl, wtL_len p L a⟩, fun A c W hI hA => implWayToPeg_ret A _ c p L a W rfl (by omega) hA hI, fun A c W hI hA => specWayToPeg_ret A _ c p L a W rfl (by omega) hA hI, ?_⟩
  by_cases h : codeW p L a = 0
  · right
    obtain ⟨hp, hs, h1, h2, h3, h4, h5, h6⟩ := fw_way h
    have e : wtL p L a = wayL L a := by unfold wtL; rw [if_pos h]
    have hlen := wtL_len p L a
    rw [e] at hlen ⊢
    refine ⟨h, List.replicate L.length a, by simp, fun A c W hI => ?_, fun A c D d W hI hJ => ?_, fun W => ?_⟩
    · have k := implDistTo_calls A _ c p L a W rfl (by omega) hI
      rw [h, ← h1] at k
      exact k
    · have k := implRunMoves_ret A _ c p L D _ d (wayL L a) W rfl (by omega) hI rfl (by omega) hJ
      subst hp
      have hB : rsB 3 L (wayL L a) = true := by unfold rsB; rw [hs, h2]; simp; omega
      have hC : rsC 3 L (wayL L a) = 0 := by unfold rsC; rw [if_pos hs, if_pos (by omega), if_pos h2]
      have hR : rmL 3 L (wayL L a) = List.replicate L.length a := by unfold rmL; rw [if_pos hB, h3]
      have hP : rmP 3 L (wayL L a) = 3 := by unfold rmP; rw [if_pos hB]
      rw [hC, hR, hP, List.length_replicate] at k
      exact k
    · have k := implPerfectState_ret 3 L.length a W
      rw [h4, h5, h6, List.length_replicate] at k
      exact k
  · left
    exact ⟨h, by unfold wtL; rw [if_neg h]; rfl⟩
theorem dpw_all (p : Int) (L : List Int) (m : Nat) (a : Int) (hL : L.length = m) (hm : m ≤ 10) : ∃ (D E : Int) (R : List Int) (q : Nat), (R.length = q ∧ q ≤ 1048576) ∧ (∀ (A : Option Addr) (c : Nat) (W : World), Ints W A L → Calls Try.prog 10 #[.agg #[.int .i64 p, .slice A m c], .int .i64 a] W (fun e w' => e = .returned (.tuple #[.int .i64 D, .int .i64 E]) ∧ Below W.heap.size W w')) ∧ (∀ (A : Option Addr) (c : Nat) (W : World), Ints W A L → Calls Try.prog 11 #[.agg #[.int .i64 p, .slice A m c], .int .i64 a] W (fun e w' => e = .returned (.tuple #[.int .i64 D, .int .i64 E]) ∧ Below W.heap.size W w')) ∧ (∀ (A : Option Addr) (c : Nat) (W : World), Ints W A L → Calls Try.prog 12 #[.agg #[.int .i64 p, .slice A m c], .int .i64 a] W (RetInts W q R E)) ∧ (∀ (A : Option Addr) (c : Nat) (W : World), Ints W A L → Calls Try.prog 13 #[.agg #[.int .i64 p, .slice A m c], .int .i64 a] W (RetInts W q R E)) := by
  subst hL
  refine ⟨dpV p L a, codeW p L a, goL p L a, _, ⟨rfl, ?_⟩, fun A c W hI => implDistTo_calls A _ c p L a W rfl (by omega) hI, fun A c W hI => specDistTo_calls A _ c p L a W rfl (by omega) hI, fun A c W hI => implGoalsOf_ret A _ c p L a W rfl (by omega) hI, fun A c W hI => specGoalsOf_ret A _ c p L a W rfl (by omega) hI⟩
  unfold goL
  split
  · rw [goalsL_len]; omega
  · simp
theorem fmw_all (p : Int) (L : List Int) (m : Nat) (a : Int) (hL : L.length = m) (hm : m ≤ 10) : ∃ (y1 y2 y3 E : Int), (∀ (A : Option Addr) (c : Nat) (W : World), Ints W A L → (A = none → c = 0) → Calls Try.prog 16 #[.agg #[.int .i64 p, .slice A m c], .int .i64 a] W (fun e w' => e = .returned (.tuple #[.agg #[.int .i64 y1, .int .i64 y2, .int .i64 y3], .int .i64 E]) ∧ Below W.heap.size W w')) ∧ (∀ (A : Option Addr) (c : Nat) (W : World), Ints W A L → (A = none → c = 0) → Calls Try.prog 17 #[.agg #[.int .i64 p, .slice A m c], .int .i64 a] W (fun e w' => e = .returned (.tuple #[.agg #[.int .i64 y1, .int .i64 y2, .int .i64 y3], .int .i64 E]) ∧ Below W.heap.size W w')) ∧ (E ≠ 0 ∨ (E = 0 ∧ ∃ (D : Int) (R : List Int), R.length = m ∧ (0 ≤ D ∧ D ≤ 255) ∧ (∀ (A : Option Addr) (c : Nat) (W : World), Ints W A L → Calls Try.prog 10 #[.agg #[.int .i64 p, .slice A m c], .int .i64 a] W (fun e w' => e = .returned (.tuple #[.int .i64 D, .int .i64 0]) ∧ Below W.heap.size W w')) ∧ (∀ (A : Option Addr) (c : Nat) (W : World), Ints W A L → m ≤ c → c ≤ 9223372036854775807 → Calls Try.prog 22 #[.agg #[.int .i64 p, .slice A m c], .agg #[.int .i64 y1, .int .i64 y2, .int .i64 y3]] W (RetState W 3 m R 0)) ∧ (∀ (A : Option Addr) (c : Nat) (W : World), Ints W A R → Calls Try.prog 10 #[.agg #[.int .i64 3, .slice A m c], .int .i64 a] W (fun e w' => e = .returned (.tuple #[.int .i64 (D - 1), .int .i64 0]) ∧ Below W.heap.size W w')))) := by
  subst hL
  refine ⟨(fmM p L a).1, (fmM p L a).2.1, (fmM p L a).2.2, fmE p L a, fun A c W hI hA => implFirstMove_ret A _ c p L a W rfl (by omega) hA hI, fun A c W hI hA => specFirstMove_ret A _ c p L a W rfl (by omega) hA hI, ?_⟩
  by_cases h : fmE p L a = 0
  · right
    have hc : codeW p L a = 0 := by
      by_cases hc : codeW p L a = 0
      · exact hc
      · unfold fmE at h; rw [if_neg hc] at h; exact absurd h hc
    have hf : fdW L a < L.length := by
      by_cases hf : fdW L a < L.length
      · exact hf
      · unfold fmE at h; rw [if_pos hc, if_neg hf] at h; cases h
    obtain ⟨hs, rfl, ha⟩ := codeW_zero hc
    have hp := state_pegsOk hs
    have h8 := (state_facts hs rfl).2.2.1
    have em : fmM 3 L a = mvW L a := by unfold fmM; rw [if_pos ⟨hc, hf⟩]
    have hlg := mvW_legal hp ha hf
    have hst := apM_step L a
    unfold apM at hst
    have hs2 : stateB 3 (stepW L a) = true := by rw [← hst]; exact state_set hs hlg
    have hd := (stepW_dist L a hp ha ((fdW_lt_iff L a).1 hf)).1
    have hc2 : codeW 3 (stepW L a) a = 0 := by
      have ha' : inB a 0 2 = true := by unfold inB; simp; omega
      unfold codeW code1; rw [if_pos hs2, if_pos rfl, if_pos rfl, if_pos ha']
    refine ⟨h, distP L a, stepW L a, stepW_len L a, distP_bd L a h8, fun A c W hI => ?_, fun A c W hI h1 h2 => ?_, fun A c W hI => ?_⟩
    · have k := implDistTo_calls A _ c 3 L a W rfl (by omega) hI
      rw [hc, dp_is hc] at k
      exact k
    · rw [em]
      have k := implAfterMove_ret A _ c 3 L (mvW L a).1 (mvW L a).2.1 (mvW L a).2.2 W rfl (by omega) hI h1 h2
      have hB : aftB 3 L (mvW L a).1 (mvW L a).2.1 (mvW L a).2.2 = true := by unfold aftB; rw [hs, hlg]; rfl
      have e1 : aftP 3 L (mvW L a).1 (mvW L a).2.1 (mvW L a).2.2 = 3 := by unfold aftP; rw [if_pos hB]
      have e2 : aftL 3 L (mvW L a).1 (mvW L a).2.1 (mvW L a).2.2 = stepW L a := by unfold aftL; rw [if_pos hB]; exact hst
      have e3 : aftE 3 L (mvW L a).1 (mvW L a).2.1 (mvW L a).2.2 = 0 := by unfold aftE; rw [if_pos hs, if_pos hlg]
      rw [e1, e2, e3, stepW_len] at k
      exact k
    · have k := implDistTo_calls A L.length c 3 (stepW L a) a W (stepW_len L a) (by omega) hI
      rw [hc2, dp_is hc2, hd] at k
      exact k
  · exact .inl h
theorem onw_all (p : Int) (L : List Int) (m : Nat) (a q : Int) (M : List Int) (k : Nat) (hL : L.length = m) (hm : m ≤ 10) (hM : M.length = k) (hk : k ≤ 10) : ∃ (b : Bool) (E : Int), (∀ (A : Option Addr) (c : Nat) (B : Option Addr) (d : Nat) (W : World), Ints W A L → Ints W B M → m ≤ c → c ≤ 9223372036854775807 → (A = none → c = 0) → k ≤ d → d ≤ 9223372036854775807 → (B = none → d = 0) → Calls Try.prog 19 #[.agg #[.int .i64 p, .slice A m c], .int .i64 a, .agg #[.int .i64 q, .slice B k d]] W (fun e w' => e = .returned (.tuple #[.bool b, .int .i64 E]) ∧ Below W.heap.size W w')) ∧ (∀ (A : Option Addr) (c : Nat) (B : Option Addr) (d : Nat) (W : World), Ints W A L → Ints W B M → m ≤ c → c ≤ 9223372036854775807 → (A = none → c = 0) → k ≤ d → d ≤ 9223372036854775807 → (B = none → d = 0) → Calls Try.prog 20 #[.agg #[.int .i64 p, .slice A m c], .int .i64 a, .agg #[.int .i64 q, .slice B k d]] W (fun e w' => e = .returned (.tuple #[.bool b, .int .i64 E]) ∧ Below W.heap.size W w')) ∧ (E ≠ 0 ∨ (E = 0 ∧ ∃ D1 D2 D3 : Int, (0 ≤ D3 ∧ D3 ≤ 1000 ∧ 0 ≤ D2 ∧ D2 ≤ 1000) ∧ decide (D3 + D2 = D1) = b ∧ (∀ (A : Option Addr) (c : Nat) (W : World), Ints W A L → Calls Try.prog 10 #[.agg #[.int .i64 p, .slice A m c], .int .i64 a] W (fun e w' => e = .returned (.tuple #[.int .i64 D1, .int .i64 0]) ∧ Below W.heap.size W w')) ∧ (∀ (A : Option Addr) (c : Nat) (W : World), Ints W A M → Calls Try.prog 10 #[.agg #[.int .i64 q, .slice A k c], .int .i64 a] W (fun e w' => e = .returned (.tuple #[.int .i64 D2, .int .i64 0]) ∧ Below W.heap.size W w')) ∧ (∀ (A : Option Addr) (c : Nat) (B : Option Addr) (d : Nat) (W : World), Ints W A L → Ints W B M → m ≤ c → c ≤ 9223372036854775807 → (A = none → c = 0) → k ≤ d → d ≤ 9223372036854775807 → (B = none → d = 0) → Calls Try.prog 21 #[.agg #[.int .i64 p, .slice A m c], .agg #[.int .i64 q, .slice B k d]] W (fun e w' => e = .returned (.tuple #[.int .i64 D3, .int .i64 0]) ∧ Below W.heap.size W w')))) := by
  subst hL hM
  refine ⟨owV p L a q M, owE p L a q M, fun A c B d W hI hJ _ _ hA _ _ hB => implIsOnWay_ret A _ c p L a B _ d q M W rfl (by omega) hA hI rfl (by omega) hB hJ, fun A c B d W hI hJ _ _ hA _ _ hB => specIsOnWay_ret A _ c p L a B _ d q M W rfl (by omega) hA hI rfl (by omega) hB hJ, ?_⟩
  by_cases h : owE p L a q M = 0
  · right
    obtain ⟨h1, h2, h3, h4⟩ := fw_on h
    obtain ⟨hs, ht, rfl, rfl, hl⟩ := code2_zero h1
    have h8 := (state_facts hs rfl).2.2.1
    have hb3 : 0 ≤ nwV 0 min 3 L 3 M ∧ nwV 0 min 3 L 3 M ≤ 1000 := by
      unfold nwV
      rw [if_pos h1]
      split
      · omega
      · have k1 := distP_bd (L.take (grt L M L.length).toNat) (3 - L[(grt L M L.length).toNat]?.getD 0 - M[(grt L M L.length).toNat]?.getD 0) (by simp; omega)
        have k2 := distP_bd (M.take (grt L M L.length).toNat) (3 - L[(grt L M L.length).toNat]?.getD 0 - M[(grt L M L.length).toNat]?.getD 0) (by simp; omega)
        have k3 := distP_nonneg (L.take (grt L M L.length).toNat) (M[(grt L M L.length).toNat]?.getD 0)
        have k4 := distP_nonneg (M.take (grt L M L.length).toNat) (L[(grt L M L.length).toNat]?.getD 0)
        have k5 := pow2_one (grt L M L.length).toNat
        unfold oneN twoN
        omega
    have hb2 : 0 ≤ dpV 3 M a ∧ dpV 3 M a ≤ 1000 := by
      rw [dp_is h3]
      have := distP_bd M a (by omega)
      omega
    have hn : nbC 0 3 L 3 M = 0 := by
      unfold nbC
      rw [if_pos h1]
      split <;> rfl
    refine ⟨h, dpV 3 L a, dpV 3 M a, nwV 0 min 3 L 3 M, ⟨hb3.1, hb3.2, hb2.1, hb2.2⟩, ?_, fun A c W hI => ?_, fun A c W hI => ?_, fun A c B d W hI hJ h5 h6 _ h7 h8 _ => ?_⟩
    · cases hv : owV 3 L a 3 M with
      | true => rw [decide_eq_true_iff]; exact h4.1 hv
      | false => rw [decide_eq_false_iff_not]; intro hh; rw [h4.2 hh] at hv; cases hv
    · have k := implDistTo_calls A _ c 3 L a W rfl (by omega) hI
      rw [h2] at k
      exact k
    · have k := implDistTo_calls A _ c 3 M a W rfl (by omega) hI
      rw [h3] at k
      exact k
    · have k := implDistanceByRule_calls A _ c 3 L B _ d 3 M W rfl (by omega) hI h5 h6 rfl (by omega) hJ h7 h8
      rw [hn] at k
      exact k
  · exact .inl h

end Go.Proofs.Ytnbjnlgdolhlmaa

namespace Go.Proofs.Ytnbjnlgdolhlmaa
open Go.RowKit
set_option linter.unusedVariables false

theorem grown_then {w w1 w2 : World} {row row2 : Option Nat} (h : w.grownBy w1 row) (h2 : w1.grownBy w2 row2) (hr : ∀ k, row2 = some k → w.heap.size ≤ k) : w.grownBy w2 row :=
  ⟨h2.os.trans h.os, h2.tape.trans h.tape, h2.output.trans h.output, Nat.le_trans h.size h2.size, fun k hk hne => (h2.block k (Nat.lt_of_lt_of_le hk h.size) (fun e => by have := hr k e.symm; omega)).trans (h.block k hk hne)⟩
theorem grown_setNew {w w1 : World} {row : Option Nat} (h : w.grownBy w1 row) {b i : Nat} (hb : w.heap.size ≤ b) (u : Value) : w.grownBy (w1.setCell ⟨b, i, none⟩ u) row :=
  grown_then h (grown_set w1 b i u) (fun k hk => by injection hk with hk; omega)
theorem grown_alloc {w w1 : World} {row : Option Nat} (h : w.grownBy w1 row) (o : Obj) : w.grownBy (w1.alloc o) row := h.trans (World.grownBy_alloc _ _ _)
theorem own_src {B g n c m d : Nat} {w : World} {A A' : Option Addr} {L : List Int} (h : Own B w A' m d L) (hs : Src w g A n c) : ∀ g', A' = some ⟨g', 0, none⟩ → some g ≠ some g' := by
  obtain ⟨k, x, hk, hx, hB, hA, hl⟩ := hs
  rintro g' rfl he
  injection he with he
  exact h.ne_box hB (by decide) he.symm
theorem Src.grownRow {g n c B : Nat} {w w1 : World} {A A' : Option Addr} {m d : Nat} {L : List Int} {o : Obj} (hs : Src w g A n c) (h : Own B w A' m d L) (hB : g < B) (hg : (w.alloc o).grownBy w1 (Value.slice A' m d).ownBlock) : Src w1 g A n c := by
  obtain ⟨k, x, hk, hx, hX, hA, hl⟩ := hs
  refine ⟨k, x, hk, hx, OwnG.grown_box (show OwnG 2 1 B w A' m d (L.map (Value.int .i64)) from h) hg hX (by decide), ?_, hl⟩
  have hA2 := hA.below ((Below.refl w.heap.size w).alloc (Nat.le_refl _) o)
  intro j hj
  obtain ⟨ad, rfl, hlt, b, hb8, hc⟩ := hA2 j hj
  refine ⟨ad, rfl, Nat.lt_of_lt_of_le hlt hg.size, b, hb8, hg.cell hc ?_⟩
  rw [add_block]
  intro e
  have := own_bk h _ e.symm
  have := hl _ rfl (by omega)
  omega
theorem Src.setNew {g n c b i : Nat} {w : World} {A : Option Addr} (hs : Src w g A n c) (hb : b ≠ g) (hlt : g < b) (u : Value) : Src (w.setCell ⟨b, i, none⟩ u) g A n c := by
  obtain ⟨k, x, hk, hx, hX, hA, hl⟩ := hs
  exact ⟨k, x, hk, hx, hX.other (fun e => hb e.symm) u, hA.grown (grown_set w b i u) (fun ad e h0 => by have := hl ad e h0; omega), hl⟩

set_option maxHeartbeats 400000 in
theorem l01DrawSize_calls (g : Nat) (A : Option Addr) (n c : Nat) (w : World) (hn : n ≤ 4096) (h : Src w g A n c) :
    Calls Try.prog 67 #[.pointer (some ⟨g, 0, none⟩)] w fun e w' => ∃ k m : Int, e = .returned (.tuple #[.int .i64 k, .int .i64 m]) ∧ (3 ≤ k ∧ k ≤ 5) ∧ (0 ≤ m ∧ m ≤ 8) ∧ Src w' g A n c ∧ w.grownBy w' (some g) := by
  have HS0 := Lib.hid h
  clear h
  go_enter Try.func67, Try.ntmps67
  go_wp2_with fail
  have hlt := HS0.out.lt
  refine (l01Pick_calls g A n c _ 6 _ [3, 3, 3, 4, 4, 5] _ hn (by omega) (by omega) rfl (ints_new w 2 _) (fun ad e => by injection e with e; subst e; simp only; omega) (HS0.out.alloc _)).mono ?_
  rintro e w1 ⟨k, rfl, hx, hS, hG⟩
  have HS1 := Lib.hid hS
  have HG1 := Lib.hid ((World.grownBy_alloc w (.cells (([3, 3, 3, 4, 4, 5] : List Int).map (Value.int .i64)).toArray 2) _).trans hG)
  have hk : 3 ≤ k ∧ k ≤ 5 := by simp only [List.mem_cons, List.not_mem_nil, or_false] at hx; omega
  clear hx hS hG hlt HS0
  go_wp2_with fail
  have hlt := HS1.out.lt
  refine (l01Pick_calls g A n c _ 3 _ [4, 5, 5] _ hn (by omega) (by omega) rfl (ints_new w1 2 _) (fun ad e => by injection e with e; subst e; simp only; omega) (HS1.out.alloc _)).mono ?_
  rintro e w2 ⟨v, rfl, hx, hS, hG⟩
  have HS2 := Lib.hid hS
  have HG2 := Lib.hid ((grown_alloc HG1.out _).trans hG)
  have hv : 4 ≤ v ∧ v ≤ 8 := by simp only [List.mem_cons, List.not_mem_nil, or_false] at hx; omega
  clear hx hS hG hlt HS1 HG1
  by_cases h3 : k = 3
  · subst h3
    go_wp2_with fail
    have hlt := HS2.out.lt
    refine (l01Pick_calls g A n c _ 3 _ [4, 6, 8] _ hn (by omega) (by omega) rfl (ints_new w2 2 _) (fun ad e => by injection e with e; subst e; simp only; omega) (HS2.out.alloc _)).mono ?_
    rintro e w3 ⟨v2, rfl, hx, hS, hG⟩
    have HS3 := Lib.hid hS
    have HG3 := Lib.hid ((grown_alloc HG2.out _).trans hG)
    have hv2 : 4 ≤ v2 ∧ v2 ≤ 8 := by simp only [List.mem_cons, List.not_mem_nil, or_false] at hx; omega
    clear hx hS hG hlt HS2 HG2 hv
    go_wp2_with fail
    refine (l01Next_calls g A n c (v2 + 1) _ hn HS3.out).mono ?_
    rintro e w4 ⟨x, rfl, hx, hS, hG⟩
    have HS4 := Lib.hid hS
    have HG4 := Lib.hid (HG3.out.trans hG)
    clear hS hG
    go_wp2
    go_ret2
    exact ⟨_, _, rfl, by omega, by omega, HS4.out, HG4.out⟩
  · have hd : (k == 3) = false := by simpa using h3
    go_wp2_with fail
    refine (l01Next_calls g A n c (v + 1) _ hn HS2.out).mono ?_
    rintro e w4 ⟨x, rfl, hx, hS, hG⟩
    have HS4 := Lib.hid hS
    have HG4 := Lib.hid (HG2.out.trans hG)
    clear hS hG
    go_wp2
    go_ret2
    exact ⟨_, _, rfl, by omega, by omega, HS4.out, HG4.out⟩

set_option maxHeartbeats 4000000 in
theorem l01DrawOf_calls (g : Nat) (A : Option Addr) (n c : Nat) (k : Int) (m : Nat) (w : World) (hn : n ≤ 4096) (h : Src w g A n c) (hk : 1 ≤ k ∧ k ≤ 5) (hm : m ≤ 9) :
    Calls Try.prog 39 #[.pointer (some ⟨g, 0, none⟩), .int .i64 k, .int .i64 m] w fun e w' => ∃ A' c' L, e = .returned (.agg #[.int .i64 k, .slice A' m c']) ∧ Own w.heap.size w' A' m c' L ∧ (∀ x ∈ L, 0 ≤ x ∧ x ≤ k - 1) ∧ Src w' g A n c ∧ w.grownBy w' (some g) := by
  obtain ⟨i0, hi, hz0, hz1q, hz2⟩ := info_parts Try.infoI
  have hgw := h.lt
  have HS0 := Lib.hid ((h.alloc (.cells #[.int .i64 0, .slice none 0 0] 26)).alloc (.cells #[] 2))
  have X0 := Lib.hid ((Box.new w 26 #[.int .i64 0, .slice none 0 0]).alloc (.cells #[] 2))
  have Y0 : Hid (Box ((w.alloc (.cells #[.int .i64 0, .slice none 0 0] 26)).alloc (.cells #[] 2)) (w.heap.size + 1) 2 #[]) := by
    have := Box.new (w.alloc (.cells #[.int .i64 0, .slice none 0 0] 26)) 2 #[]
    rw [World.size_alloc] at this
    exact this
  have HG0 := Lib.hid (grown_alloc (grown_alloc (World.grownBy.refl w (some g)) (.cells #[.int .i64 0, .slice none 0 0] 26)) (.cells #[] 2))
  have hs0 : ((w.alloc (.cells #[.int .i64 0, .slice none 0 0] 26)).alloc (.cells #[] 2)).heap.size = w.heap.size + 2 := by simp
  clear h
  go_enter Try.func39, Try.ntmps39
  go_wp2_with fail
  generalize (w.alloc (.cells #[.int .i64 0, .slice none 0 0] 26)).alloc (.cells #[] 2) = W0 at *
  refine (l01Next_calls g A n c k _ hn HS0.out).mono ?_
  rintro e w1 ⟨v, rfl, hv, hS, hG⟩
  have hv1 : 0 ≤ v ∧ v ≤ k - 1 := by omega
  have BX := Lib.hid (Box.new w1 26 #[.int .i64 k, .slice (some ⟨w.heap.size + 1, 0, none⟩) 0 0])
  have X1 := Lib.hid ((X0.out.grown hG (by intro e; injection e with e; omega)).alloc (.cells #[.int .i64 k, .slice (some ⟨w.heap.size + 1, 0, none⟩) 0 0] 26))
  have Y1 := Lib.hid ((Y0.out.grown hG (by intro e; injection e with e; omega)).alloc (.cells #[.int .i64 k, .slice (some ⟨w.heap.size + 1, 0, none⟩) 0 0] 26))
  have HS1 := Lib.hid (hS.alloc (.cells #[.int .i64 k, .slice (some ⟨w.heap.size + 1, 0, none⟩) 0 0] 26))
  have HG1 := Lib.hid (grown_alloc (HG0.out.trans hG) (.cells #[.int .i64 k, .slice (some ⟨w.heap.size + 1, 0, none⟩) 0 0] 26))
  have hs1 : w.heap.size + 2 ≤ w1.heap.size := by have := hG.size; omega
  clear hv hS hG X0 Y0 HS0 HG0
  go_wp2_with fail
  generalize hW1 : w1.alloc (.cells #[.int .i64 k, .slice (some ⟨w.heap.size + 1, 0, none⟩) 0 0] 26) = W1 at *
  have hz1 : W1.heap.size = w1.heap.size + 1 := by rw [← hW1, World.size_alloc]
  clear hW1
  generalize w1.heap.size = bx at *
  have hlt := HS1.out.lt
  refine (l01Pick_calls g A n c _ 4 _ [1, 1, 2, 5] _ hn (by omega) (by omega) rfl (by have := ints_new W1 2 [1, 1, 2, 5]; rw [hz1] at this; exact this) (fun ad e => by injection e with e; subst e; simp only; omega) (HS1.out.alloc _)).mono ?_
  rintro e w2 ⟨st, rfl, hx, hS, hG⟩
  have HS2 := Lib.hid hS
  have BX2 := Lib.hid ((BX.out.alloc _).grown hG (by intro e; injection e with e; omega))
  have X2 := Lib.hid ((X1.out.alloc _).grown hG (by intro e; injection e with e; omega))
  have Y2 := Lib.hid ((Y1.out.alloc _).grown hG (by intro e; injection e with e; omega))
  have HG2 := Lib.hid ((grown_alloc HG1.out _).trans hG)
  clear hx hS hG hlt X1 Y1 BX HS1 HG1
  go_wp2
  go_loopw [2, 8] (fun q v wr => ∃ (j : Nat) (u : Int), j ≤ m ∧ q = .int .i64 ((m : Int) - j) ∧ v = .int .i64 u ∧ (0 ≤ u ∧ u ≤ k - 1) ∧ (∃ A' c' L, Box wr bx 26 #[.int .i64 k, .slice A' j c'] ∧ Own (w.heap.size + 1) wr A' j c' L ∧ ∀ x ∈ L, 0 ≤ x ∧ x ≤ k - 1) ∧ Box wr w.heap.size 26 #[.int .i64 0, .slice none 0 0] ∧ Src wr g A n c ∧ w.grownBy wr (some g)) (fun q _ _ => (intOf q).toNat)
  case atStart => exact ⟨0, v, Nat.zero_le _, by simp, rfl, hv1, ⟨_, _, [], BX2.out, Own.emptyAt Y2.out (Nat.le_refl _), fun x hx => absurd hx (by simp)⟩, X2.out, HS2.out, HG2.out⟩
  case round =>
    obtain ⟨j, u, hj, rfl, rfl, hu, ⟨A', c', L, hb, ho, hl⟩, hx, hs, hg⟩ := hrel
    have BX := Lib.hid hb
    have O := Lib.hid ho
    have HLM := Lib.hid hl
    have X := Lib.hid hx
    have HS := Lib.hid hs
    have HG := Lib.hid hg
    have hsz := hg.size
    clear hb ho hl hx hs hg BX2 X2 Y2 HS2 HG2
    by_cases hlt : j < m
    · have hlt2 : (0 : Int) < (m : Int) - j := by omega
      go_wp2_with fail
      refine (l01Next_calls g A n c st _ hn HS.out).mono ?_
      rintro e w3 ⟨x, rfl, hx, hS, hG⟩
      have hne : ∀ b, g < b → some b ≠ some g := fun b hb e => by injection e with e; omega
      have HS3 := Lib.hid hS
      have BX3 := Lib.hid (BX.out.grown hG (hne _ (by omega)))
      have X3 := Lib.hid (X.out.grown hG (hne _ hgw))
      have O3 := Lib.hid (O.out.kept hG (own_src O.out HS.out))
      have HG3 := Lib.hid (HG.out.trans hG)
      have hsz3 := HG3.out.size
      clear hx hS hG BX X O HS HG
      by_cases hx0 : x = 0
      · have ht : (x == 0) = true := by simpa using hx0
        clear hx0
        go_wp2_with fail
        refine (l01Next_calls g A n c k _ hn HS3.out).mono ?_
        rintro e w4 ⟨u2, rfl, hx, hS, hG⟩
        have hu2 : 0 ≤ u2 ∧ u2 ≤ k - 1 := by omega
        have HS4 := Lib.hid hS
        have BX4 := Lib.hid (BX3.out.grown hG (hne _ (by omega)))
        have X4 := Lib.hid (X3.out.grown hG (hne _ hgw))
        have O4 := Lib.hid (O3.out.kept hG (own_src O3.out HS3.out))
        have HG4 := Lib.hid (HG3.out.trans hG)
        have hsz4 := HG4.out.size
        clear hx hS hG BX3 X3 O3 HS3 HG3 ht
        obtain ⟨b0, b1, bf0, bf1⟩ := BX4.out.two
        go_wp2_with (at_builtin; refine wpList_append_own _ rfl _ _ 24 rfl (w.heap.size + 1) 2 i0 (.int .i64 0) 1 8 Try.underlying24 hi hz0 hz1q hz2 rfl (by decide) _ _ _ rfl (OwnG.alloc (show OwnG 2 1 (w.heap.size + 1) w4 A' j c' (L.map (Value.int .i64)) from O4.out) _) ⟨w4.heap.size, 0, none⟩ 1 1 [.int .i64 u2] rfl rfl (cell_one_new _ _ _) (by simp [Value.oneCell']) (by unfold maxLen; omega) (by omega) (by simp; omega) ?_; intro v' w6 hown' hgrow _; obtain ⟨A6, c6, rfl⟩ := ownG_shape hown'; have HP := Lib.hid (Own.pushed O4.out hgrow hown'); have HS6 := Lib.hid (HS4.out.grownRow O4.out (by omega) hgrow); have HGR := Lib.hid hgrow; have HBc := (HP.out.2.1 _ _ _ BX4.out (by decide)).two; clear hown' hgrow)
        obtain ⟨d0, d1, df0, df1⟩ := HBc
        go_wp2
        go_roundw
        case rel =>
          refine ⟨j + 1, u2, by omega, by go_num, rfl, hu2, ⟨A6, c6, L ++ [u2], (HP.out.2.1 _ _ _ BX4.out (by decide)).set 1 _, HP.out.1.setBoxed (HP.out.2.1 _ _ _ BX4.out (by decide)) (by decide) _ _, ?_⟩, (HP.out.2.1 _ _ _ X4.out (by decide)).other (by show w.heap.size ≠ bx; omega) _, HS6.out.setNew (by omega) (by omega) _, ?_⟩
          · intro x hx
            rcases List.mem_append.1 hx with h | h
            · exact HLM.out x h
            · simp only [List.mem_singleton] at h
              rw [h]
              exact hu2
          · exact grown_setNew (grown_then (grown_alloc HG4.out _) HGR.out (fun k hk => by have := own_bk O4.out k hk; omega)) (by omega) _
        case measure => simp [intOf]; omega
      · have ht : (x == 0) = false := by simpa using hx0
        clear hx0
        obtain ⟨b0, b1, bf0, bf1⟩ := BX3.out.two
        go_wp2_with (at_builtin; refine wpList_append_own _ rfl _ _ 24 rfl (w.heap.size + 1) 2 i0 (.int .i64 0) 1 8 Try.underlying24 hi hz0 hz1q hz2 rfl (by decide) _ _ _ rfl (OwnG.alloc (show OwnG 2 1 (w.heap.size + 1) w3 A' j c' (L.map (Value.int .i64)) from O3.out) _) ⟨w3.heap.size, 0, none⟩ 1 1 [.int .i64 u] rfl rfl (cell_one_new _ _ _) (by simp [Value.oneCell']) (by unfold maxLen; omega) (by omega) (by simp; omega) ?_; intro v' w6 hown' hgrow _; obtain ⟨A6, c6, rfl⟩ := ownG_shape hown'; have HP := Lib.hid (Own.pushed O3.out hgrow hown'); have HS6 := Lib.hid (HS3.out.grownRow O3.out (by omega) hgrow); have HGR := Lib.hid hgrow; have HBc := (HP.out.2.1 _ _ _ BX3.out (by decide)).two; clear hown' hgrow)
        obtain ⟨d0, d1, df0, df1⟩ := HBc
        go_wp2
        go_roundw
        case rel =>
          refine ⟨j + 1, u, by omega, by go_num, rfl, hu, ⟨A6, c6, L ++ [u], (HP.out.2.1 _ _ _ BX3.out (by decide)).set 1 _, HP.out.1.setBoxed (HP.out.2.1 _ _ _ BX3.out (by decide)) (by decide) _ _, ?_⟩, (HP.out.2.1 _ _ _ X3.out (by decide)).other (by show w.heap.size ≠ bx; omega) _, HS6.out.setNew (by omega) (by omega) _, ?_⟩
          · intro x hx
            rcases List.mem_append.1 hx with h | h
            · exact HLM.out x h
            · simp only [List.mem_singleton] at h
              rw [h]
              exact hu
          · exact grown_setNew (grown_then (grown_alloc HG3.out _) HGR.out (fun k hk => by have := own_bk O3.out k hk; omega)) (by omega) _
        case measure => simp [intOf]; omega
    · obtain rfl : j = m := by omega
      have hlt2 : ¬ (0 : Int) < (j : Int) - j := by omega
      obtain ⟨b0, b1, _, _⟩ := BX.out.two
      obtain ⟨r0, r1, rf0, rf1⟩ := X.out.two
      go_wp2
      refine bodyPost_ret (v := .agg #[.int .i64 k, .slice A' j c']) (by simp [results, Try.results39, go_sem, r0, r1]) rfl ⟨A', c', rfl, L, ?_, HLM.out, ?_, ?_⟩
      · exact ((O.out.setBoxed X.out (by decide) _ _).setBoxed (X.out.set _ _) (by decide) _ _).mono (by omega)
      · exact (HS.out.setNew (by omega) hgw _).setNew (by omega) hgw _
      · exact grown_setNew (grown_setNew HG.out (Nat.le_refl _) _) (Nat.le_refl _) _

/-- A state that has been drawn into memory of the call's own. -/
def RetDr (w : World) (g : Nat) (A : Option Addr) (n c : Nat) (Q : Int → List Int → Prop) (e : Ending) (w' : World) : Prop :=
  ∃ (p : Int) (A' : Option Addr) (m c' : Nat) (L : List Int), e = .returned (.agg #[.int .i64 p, .slice A' m c']) ∧ Own w.heap.size w' A' m c' L ∧ m ≤ 10 ∧ Q p L ∧ Src w' g A n c ∧ w.grownBy w' (some g)
def okDr (p : Int) (L : List Int) : Prop := (3 ≤ p ∧ p ≤ 5) ∧ (∀ x ∈ L, 0 ≤ x ∧ x ≤ p - 1) ∧ L.length ≤ 8

set_option maxHeartbeats 1000000 in
theorem l01Draw_ret (g : Nat) (A : Option Addr) (n c : Nat) (w : World) (hn : n ≤ 4096) (h : Src w g A n c) :
    Calls Try.prog 65 #[.pointer (some ⟨g, 0, none⟩)] w (RetDr w g A n c okDr) := by
  have hgw := h.lt
  have HS0 := Lib.hid (h.alloc (.cells #[.int .i64 0, .slice none 0 0] 26))
  have X0 := Lib.hid (Box.new w 26 #[.int .i64 0, .slice none 0 0])
  have HG0 := Lib.hid (grown_alloc (World.grownBy.refl w (some g)) (.cells #[.int .i64 0, .slice none 0 0] 26))
  have hne : some w.heap.size ≠ some g := fun e => by injection e with e; omega
  clear h
  go_enter Try.func65, Try.ntmps65
  go_wp2_with fail
  refine (l01DrawSize_calls g A n c _ hn HS0.out).mono ?_
  rintro e w1 ⟨k, m, rfl, hk, hm, hS, hG⟩
  have HS1 := Lib.hid hS
  have X1 := Lib.hid (X0.out.grown hG hne)
  have HG1 := Lib.hid (HG0.out.trans hG)
  have hs1 := HG1.out.size
  clear hS hG HS0 X0 HG0
  obtain ⟨j, rfl⟩ := Int.eq_ofNat_of_zero_le hm.1
  go_wp2_with fail
  refine (l01DrawOf_calls g A n c k j _ hn HS1.out (by omega) (by omega)).mono ?_
  rintro e w2 ⟨A', c', L, rfl, hO, hl, hS, hG⟩
  have HS2 := Lib.hid hS
  have X2 := Lib.hid (X1.out.grown hG hne)
  have HG2 := Lib.hid (HG1.out.trans hG)
  have O2 := Lib.hid (hO.mono hs1)
  have HLM := Lib.hid hl
  have HLn := Lib.hid (Own.len hO)
  clear hS hG hO hl HS1 X1 HG1
  obtain ⟨r0, r1, rf0, rf1⟩ := X2.out.two
  go_wp2
  refine bodyPost_ret (v := .agg #[.int .i64 k, .slice A' j c']) (by simp [results, Try.results65, go_sem, r0, r1]) rfl ⟨k, A', j, c', L, rfl, ?_, by omega, ⟨hk, HLM.out, by have := HLn.out; omega⟩, ?_, ?_⟩
  · exact (O2.out.setBoxed X2.out (by decide) _ _).setBoxed (X2.out.set _ _) (by decide) _ _
  · exact (HS2.out.setNew (by omega) hgw _).setNew (by omega) hgw _
  · exact grown_setNew (grown_setNew HG2.out (Nat.le_refl _) _) (Nat.le_refl _) _

end Go.Proofs.Ytnbjnlgdolhlmaa

namespace Go.Proofs.Ytnbjnlgdolhlmaa
open Go.RowKit
set_option linter.unusedVariables false

def RetBd (B0 : Nat) (w : World) (g : Nat) (A : Option Addr) (n c : Nat) (e : Ending) (w' : World) : Prop :=
  ∃ (p' : Int) (A' : Option Addr) (m' c' : Nat) (L' : List Int), e = .returned (.agg #[.int .i64 p', .slice A' m' c']) ∧ Own B0 w' A' m' c' L' ∧ m' ≤ 10 ∧ True ∧ Src w' g A n c ∧ w.grownBy w' (some g)
def lenVB : Value → Nat
  | .slice _ n _ => n
  | _ => 0

set_option maxHeartbeats 8000000 in
theorem l01Bad_ret (g : Nat) (A : Option Addr) (n c : Nat) (p : Int) (Ax : Option Addr) (m cx B0 : Nat) (L : List Int) (w : World) (hn : n ≤ 4096) (h : Src w g A n c) (hO : Own B0 w Ax m cx L) (hm : m ≤ 9) (hB0 : B0 ≤ w.heap.size) (hgB : g < B0) :
    Calls Try.prog 64 #[.pointer (some ⟨g, 0, none⟩), .agg #[.int .i64 p, .slice Ax m cx]] w (RetBd B0 w g A n c) := by
  obtain ⟨i0, hi, hz0, hz1q, hz2⟩ := info_parts Try.infoI
  have hgw := h.lt
  have HLn := Lib.hid (Own.len hO)
  have hAx : Ax = none → cx = 0 := fun e => by
    rcases hO.form with ⟨_, _, h3⟩ | ⟨_, h, _⟩
    · exact h3
    · rw [e] at h; cases h
  have hal : Below w.heap.size w ((w.alloc (.cells #[.int .i64 p, .slice Ax m cx] 26)).alloc (.cells #[.int .i64 0, .slice none 0 0] 26)) := ((Below.refl _ _).alloc (Nat.le_refl _) _).alloc (by simp) _
  have X0 := Lib.hid ((Box.new w 26 #[.int .i64 p, .slice Ax m cx]).alloc (.cells #[.int .i64 0, .slice none 0 0] 26))
  have Z0 : Hid (Box ((w.alloc (.cells #[.int .i64 p, .slice Ax m cx] 26)).alloc (.cells #[.int .i64 0, .slice none 0 0] 26)) (w.heap.size + 1) 26 #[.int .i64 0, .slice none 0 0]) := by
    have := Box.new (w.alloc (.cells #[.int .i64 p, .slice Ax m cx] 26)) 26 #[.int .i64 0, .slice none 0 0]
    rw [World.size_alloc] at this
    exact this
  have HS0 := Lib.hid ((h.alloc (.cells #[.int .i64 p, .slice Ax m cx] 26)).alloc (.cells #[.int .i64 0, .slice none 0 0] 26))
  have O0 := Lib.hid (hO.below hal)
  have HG0 := Lib.hid (grown_alloc (grown_alloc (World.grownBy.refl w (some g)) (.cells #[.int .i64 p, .slice Ax m cx] 26)) (.cells #[.int .i64 0, .slice none 0 0] 26))
  have hs0 : ((w.alloc (.cells #[.int .i64 p, .slice Ax m cx] 26)).alloc (.cells #[.int .i64 0, .slice none 0 0] 26)).heap.size = w.heap.size + 2 := by simp
  have hne : ∀ b, g < b → some b ≠ some g := fun b hb e => by injection e with e; omega
  clear h hO hal
  go_enter Try.func64, Try.ntmps64
  go_wp2_with fail
  generalize (w.alloc (.cells #[.int .i64 p, .slice Ax m cx] 26)).alloc (.cells #[.int .i64 0, .slice none 0 0] 26) = W0 at *
  refine (l01Own_calls Ax m cx L _ HLn.out (by omega) hAx O0.out.ints).mono ?_
  rintro e w1 ⟨Ad, cd, rfl, hO, hb⟩
  have X1 := Lib.hid (X0.out.below hb X0.out.lt)
  have Z1 := Lib.hid (Z0.out.below hb Z0.out.lt)
  have HS1 := Lib.hid (HS0.out.below hb)
  have O1 := Lib.hid (O0.out.below hb)
  have D1 := Lib.hid hO
  have HG1 := Lib.hid (grown_then HG0.out (row2 := none) ⟨hb.os, hb.tape, hb.output, hb.size, fun k hk _ => hb.block k hk⟩ (fun k hk => by cases hk))
  have hs1 := hb.size
  clear hO hb X0 Z0 HS0 O0 HG0
  go_wp2_with fail
  refine (l01Next_calls g A n c 50 _ hn HS1.out).mono ?_
  rintro e w2 ⟨x, rfl, hx, hS, hG⟩
  have HS2 := Lib.hid hS
  have X2 := Lib.hid (X1.out.grown hG (hne _ (by omega)))
  have Z2 := Lib.hid (Z1.out.grown hG (hne _ (by omega)))
  have O2 := Lib.hid (O1.out.kept hG (own_src O1.out HS1.out))
  have D2 := Lib.hid (D1.out.kept hG (own_src D1.out HS1.out))
  have HG2 := Lib.hid (HG1.out.trans hG)
  have hs2 := hG.size
  clear hS hG X1 Z1 HS1 O1 D1 HG1
  by_cases h0 : x = 0
  · subst h0
    go_wp2_with fail
    have hlt := HS2.out.lt
    refine (l01Pick_calls g A n c _ 4 _ [0, 2, 6, 1099511627776] _ hn (by omega) (by omega) rfl (ints_new w2 2 _) (fun ad e => by injection e with e; subst e; simp only; omega) (HS2.out.alloc _)).mono ?_
    rintro e w3 ⟨pp, rfl, hx3, hS, hG⟩
    have HS3 := Lib.hid hS
    have X3 := Lib.hid ((X2.out.alloc _).grown hG (hne _ (by omega)))
    have Z3 := Lib.hid ((Z2.out.alloc _).grown hG (hne _ (by omega)))
    have D3a := D2.out.below ((Below.refl _ _).alloc (Nat.le_refl _) (.cells (([0, 2, 6, 1099511627776] : List Int).map (Value.int .i64)).toArray 2))
    have D3 := Lib.hid (D3a.kept hG (own_src D3a (HS2.out.alloc _)))
    have HG3 := Lib.hid ((grown_alloc HG2.out _).trans hG)
    clear hx3 hS hG X2 Z2 HS2 O2 D2 HG2 D3a
    obtain ⟨x0, x1, _, _⟩ := X3.out.two
    obtain ⟨r0, r1, rf0, rf1⟩ := Z3.out.two
    go_wp2
    have hZ2 := Lib.hid ((Z3.out.set 0 (.int .i64 pp)).set 1 (.slice Ad m cd))
    obtain ⟨q0, q1, _, _⟩ := Box.two (show Box _ (w.heap.size + 1) 26 #[.int .i64 pp, .slice Ad m cd] from hZ2.out)
    refine bodyPost_ret (v := .agg #[.int .i64 pp, .slice Ad m cd]) (by simp [results, Try.results64, go_sem, q0, q1]) rfl ⟨pp, Ad, _, cd, L, rfl, ?_, by omega, trivial, ?_, ?_⟩
    · exact ((D3.out.mono (by omega)).setBoxed Z3.out (by decide) _ _).setBoxed (Z3.out.set _ _) (by decide) _ _
    · exact (HS3.out.setNew (by omega) (by omega) _).setNew (by omega) (by omega) _
    · exact grown_setNew (grown_setNew HG3.out (by omega) _) (by omega) _
  · have e0 : (x == 0) = false := by simpa using h0
    by_cases h1 : x = 1
    · subst h1
      obtain ⟨x0, x1, _, _⟩ := X2.out.two
      go_wp2_with (at_builtin; refine wpList_append_own _ rfl _ _ 24 rfl W0.heap.size 2 i0 (.int .i64 0) 1 8 Try.underlying24 hi hz0 hz1q hz2 rfl (by decide) _ _ _ rfl (OwnG.alloc (show OwnG 2 1 W0.heap.size w2 Ad m cd (L.map (Value.int .i64)) from D2.out) _) ⟨w2.heap.size, 0, none⟩ 1 1 [.int .i64 p] rfl rfl (cell_one_new _ _ _) (by simp [Value.oneCell']) (by unfold maxLen; omega) (by omega) (by simp; omega) ?_; intro v' w6 hown' hgrow _; obtain ⟨A6, c6, rfl⟩ := ownG_shape hown'; have HP := Lib.hid (Own.pushed D2.out hgrow hown'); have HS6 := Lib.hid (HS2.out.grownRow D2.out (by omega) hgrow); have X6 := Lib.hid (HP.out.2.1 _ _ _ X2.out (by decide)); have Z6 := Lib.hid (HP.out.2.1 _ _ _ Z2.out (by decide)); have HG6 := Lib.hid (grown_then (grown_alloc HG2.out _) hgrow (fun k hk => by have := own_bk D2.out k hk; omega)); have X6c := X6.out.two; have Z6c := Z6.out.two; clear hown' hgrow)
      obtain ⟨x0, x1, _, _⟩ := X6c
      obtain ⟨r0, r1, rf0, rf1⟩ := Z6c
      go_wp2
      have hZ2 := Lib.hid ((Z6.out.set 0 (.int .i64 p)).set 1 (.slice A6 (m + 1) c6))
      obtain ⟨q0, q1, _, _⟩ := Box.two (show Box _ (w.heap.size + 1) 26 #[.int .i64 p, .slice A6 (m + 1) c6] from hZ2.out)
      refine bodyPost_ret (v := .agg #[.int .i64 p, .slice A6 (m + 1) c6]) (by simp [results, Try.results64, go_sem, q0, q1]) rfl ⟨p, A6, _, c6, (L ++ [p]), rfl, ?_, by omega, trivial, ?_, ?_⟩
      · exact ((HP.out.1.mono (by omega)).setBoxed Z6.out (by decide) _ _).setBoxed (Z6.out.set _ _) (by decide) _ _
      · exact (HS6.out.setNew (by omega) (by omega) _).setNew (by omega) (by omega) _
      · exact grown_setNew (grown_setNew HG6.out (by omega) _) (by omega) _
    · have e1 : (x == 1) = false := by simpa using h1
      by_cases h2 : x = 2
      · subst h2
        go_wp2
        go_loopw [5] (fun v wr => ∃ (A' : Option Addr) (q c' : Nat) (L' : List Int), v = .slice A' q c' ∧ q ≤ 9 ∧ Own W0.heap.size wr A' q c' L' ∧ Box wr w.heap.size 26 #[.int .i64 p, .slice Ax m cx] ∧ Box wr (w.heap.size + 1) 26 #[.int .i64 0, .slice none 0 0] ∧ Src wr g A n c ∧ w.grownBy wr (some g) ∧ W0.heap.size ≤ wr.heap.size) (fun v _ => 9 - lenVB v)
        case atStart => exact ⟨Ad, m, cd, L, rfl, hm, D2.out, X2.out, Z2.out, HS2.out, HG2.out, by omega⟩
        case round =>
          obtain ⟨A', q, c', L', rfl, hq, hD, hX, hZ, hS, hG, hs7⟩ := hrel
          have D7 := Lib.hid hD
          have X7 := Lib.hid hX
          have Z7 := Lib.hid hZ
          have HS7 := Lib.hid hS
          have HG7 := Lib.hid hG
          clear hD hX hZ hS hG
          by_cases hlt : q < 9
          · have hlt2 : (q : Int) < 9 := by omega
            go_wp2_with (at_builtin; refine wpList_append_own _ rfl _ _ 24 rfl W0.heap.size 2 i0 (.int .i64 0) 1 8 Try.underlying24 hi hz0 hz1q hz2 rfl (by decide) _ _ _ rfl (OwnG.alloc (show OwnG 2 1 W0.heap.size wr A' q c' (L'.map (Value.int .i64)) from D7.out) _) ⟨wr.heap.size, 0, none⟩ 1 1 [.int .i64 0] rfl rfl (cell_one_new _ _ _) (by simp [Value.oneCell']) (by unfold maxLen; omega) (by omega) (by simp; omega) ?_; intro v' w6 hown' hgrow _; obtain ⟨A6, c6, rfl⟩ := ownG_shape hown'; have HP := Lib.hid (Own.pushed D7.out hgrow hown'); have HS6 := Lib.hid (HS7.out.grownRow D7.out (by omega) hgrow); have X6 := Lib.hid (HP.out.2.1 _ _ _ X7.out (by decide)); have Z6 := Lib.hid (HP.out.2.1 _ _ _ Z7.out (by decide)); have HG6 := Lib.hid (grown_then (grown_alloc HG7.out _) hgrow (fun k hk => by have := own_bk D7.out k hk; omega)); have hs6 := hgrow.size; rw [World.size_alloc] at hs6; clear hown' hgrow)
            go_roundw
            case rel => exact ⟨A6, q + 1, c6, L' ++ [0], rfl, by omega, HP.out.1, X6.out, Z6.out, HS6.out, HG6.out, by omega⟩
            case measure => simp [lenVB]; omega
          · have hlt2 : ¬ (q : Int) < 9 := by omega
            obtain ⟨x0, x1, _, _⟩ := X7.out.two
            obtain ⟨r0, r1, rf0, rf1⟩ := Z7.out.two
            go_wp2
            have hZ2 := Lib.hid ((Z7.out.set 0 (.int .i64 p)).set 1 (.slice A' q c'))
            obtain ⟨q0, q1, _, _⟩ := Box.two (show Box _ (w.heap.size + 1) 26 #[.int .i64 p, .slice A' q c'] from hZ2.out)
            refine bodyPost_ret (v := .agg #[.int .i64 p, .slice A' q c']) (by simp [results, Try.results64, go_sem, q0, q1]) rfl ⟨p, A', _, c', L', rfl, ?_, by omega, trivial, ?_, ?_⟩
            · exact ((D7.out.mono (by omega)).setBoxed Z7.out (by decide) _ _).setBoxed (Z7.out.set _ _) (by decide) _ _
            · exact (HS7.out.setNew (by omega) (by omega) _).setNew (by omega) (by omega) _
            · exact grown_setNew (grown_setNew HG7.out (by omega) _) (by omega) _
      · have e2 : (x == 2) = false := by simpa using h2
        by_cases h3 : x = 3
        · subst h3
          by_cases hm0 : 0 < m
          · have hm1 : (0 : Int) < (m : Int) := by omega
            obtain ⟨gd, rfl⟩ : ∃ gd, Ad = some ⟨gd, 0, none⟩ := by
              rcases D2.out.form with ⟨_, hh, _⟩ | ⟨gd, hh, _⟩
              · omega
              · exact ⟨gd, hh⟩
            have hgd : W0.heap.size ≤ gd := by
              rcases D2.out.form with ⟨hh, _⟩ | ⟨g', hh, hb, _⟩
              · cases hh
              · cases hh; exact hb
            obtain ⟨x0, _, _, _⟩ := X2.out.two
            go_wp2_with fail
            go_region_held3 (fun w' => w'.cell? ⟨w.heap.size, 0, none⟩ = some (.int .i64 p))
              (first | exact x0 | exact (X2.out.alloc _).two.1 | exact X3.out.two.1 | exact (X3.out.alloc _).two.1 | exact X4.out.two.1 | exact (X4.out.other (show w.heap.size ≠ gd by omega) _).two.1 | go_keep | fail)
              (first
              | (go_at_call 37; (with_reducible refine (l01Next_calls g A n c (m : Int) _ hn ?_).mono ?_); (exact (show Src w2.drew g A n c from HS2.out)); rintro e w3 ⟨y, rfl, hy, hS3, hG3⟩; obtain ⟨yn, rfl⟩ := Int.eq_ofNat_of_zero_le hy.1; have hy0 : (0 : Int) ≤ (yn : Int) := (by omega); have hy1 : (yn : Int) < (m : Int) := (by omega); have hy2 : yn < m := (by omega); have X3 := Lib.hid ((show Box w2.drew _ _ _ from X2.out).grown hG3 (hne _ (by omega))); have Z3 := Lib.hid ((show Box w2.drew _ _ _ from Z2.out).grown hG3 (hne _ (by omega))); have D3 := Lib.hid ((show Own _ w2.drew _ _ _ _ from D2.out).kept hG3 (own_src (show Own _ w2.drew _ _ _ _ from D2.out) (show Src w2.drew g A n c from HS2.out))); have HS3 := Lib.hid hS3; have HG3 := Lib.hid ((show w.grownBy w2.drew (some g) from grown_drew HG2.out).trans hG3); have hz3 := hG3.size; clear hS3)
              | (go_at_call 37; (with_reducible refine (l01Next_calls g A n c (m : Int) _ hn ?_).mono ?_); (exact (show Src (w2.drew.alloc (.cells (([-1, p] : List Int).map (Value.int .i64)).toArray 2)) g A n c from HS2.out.alloc _)); rintro e w3 ⟨y, rfl, hy, hS3, hG3⟩; obtain ⟨yn, rfl⟩ := Int.eq_ofNat_of_zero_le hy.1; have hy0 : (0 : Int) ≤ (yn : Int) := (by omega); have hy1 : (yn : Int) < (m : Int) := (by omega); have hy2 : yn < m := (by omega); have X3 := Lib.hid ((show Box (w2.drew.alloc (.cells (([-1, p] : List Int).map (Value.int .i64)).toArray 2)) _ _ _ from X2.out.alloc _).grown hG3 (hne _ (by omega))); have Z3 := Lib.hid ((show Box (w2.drew.alloc (.cells (([-1, p] : List Int).map (Value.int .i64)).toArray 2)) _ _ _ from Z2.out.alloc _).grown hG3 (hne _ (by omega))); have D3 := Lib.hid ((show Own _ (w2.drew.alloc (.cells (([-1, p] : List Int).map (Value.int .i64)).toArray 2)) _ _ _ _ from OwnG.alloc (show OwnG 2 1 W0.heap.size w2.drew (some ⟨gd, 0, none⟩) m cd (L.map (Value.int .i64)) from D2.out) _).kept hG3 (own_src (show Own _ (w2.drew.alloc (.cells (([-1, p] : List Int).map (Value.int .i64)).toArray 2)) _ _ _ _ from OwnG.alloc (show OwnG 2 1 W0.heap.size w2.drew (some ⟨gd, 0, none⟩) m cd (L.map (Value.int .i64)) from D2.out) _) (show Src (w2.drew.alloc (.cells (([-1, p] : List Int).map (Value.int .i64)).toArray 2)) g A n c from HS2.out.alloc _))); have HS3 := Lib.hid hS3; have HG3 := Lib.hid ((show w.grownBy (w2.drew.alloc (.cells (([-1, p] : List Int).map (Value.int .i64)).toArray 2)) (some g) from grown_alloc (grown_drew HG2.out) _).trans hG3); have hz3 := hG3.size; clear hS3)
              | (go_at_call 57; (with_reducible refine (l01Pick_calls g A n c _ 2 _ [-1, p] _ hn (by omega) (by omega) rfl ?_ ?_ ?_).mono ?_); (exact ints_new w3 2 [-1, p]); (intro ad e; injection e with e; subst e; simp only; have hw2d : w2.drew.heap.size = w2.heap.size := rfl; omega); (exact (show Src (w3.alloc (.cells (([-1, p] : List Int).map (Value.int .i64)).toArray 2)) g A n c from HS3.out.alloc _)); rintro e w4 ⟨v, rfl, hv, hS4, hG4⟩; have X4 := Lib.hid ((show Box (w3.alloc (.cells (([-1, p] : List Int).map (Value.int .i64)).toArray 2)) _ _ _ from X3.out.alloc _).grown hG4 (hne _ (by omega))); have Z4 := Lib.hid ((show Box (w3.alloc (.cells (([-1, p] : List Int).map (Value.int .i64)).toArray 2)) _ _ _ from Z3.out.alloc _).grown hG4 (hne _ (by omega))); have D4 := Lib.hid ((show Own _ (w3.alloc (.cells (([-1, p] : List Int).map (Value.int .i64)).toArray 2)) _ _ _ _ from OwnG.alloc (show OwnG 2 1 W0.heap.size w3 (some ⟨gd, 0, none⟩) m cd (L.map (Value.int .i64)) from D3.out) _).kept hG4 (own_src (show Own _ (w3.alloc (.cells (([-1, p] : List Int).map (Value.int .i64)).toArray 2)) _ _ _ _ from OwnG.alloc (show OwnG 2 1 W0.heap.size w3 (some ⟨gd, 0, none⟩) m cd (L.map (Value.int .i64)) from D3.out) _) (show Src (w3.alloc (.cells (([-1, p] : List Int).map (Value.int .i64)).toArray 2)) g A n c from HS3.out.alloc _))); have HS4 := Lib.hid hS4; have HG4 := Lib.hid ((show w.grownBy (w3.alloc (.cells (([-1, p] : List Int).map (Value.int .i64)).toArray 2)) (some g) from grown_alloc HG3.out _).trans hG4); have hold := World.ownsRow.cellAt D4.out yn (by omega); have hfz := World.ownsRow.frozenAt D4.out yn; rw [List.getElem?_map, List.getElem?_eq_getElem (by rw [HLn.out]; omega)] at hold; clear hS4 hv)
              | (go_at_call 57; (with_reducible refine (l01Pick_calls g A n c _ 2 _ [-1, p] _ hn (by omega) (by omega) rfl ?_ ?_ ?_).mono ?_); (exact Ints.grown (ints_new w2.drew 2 [-1, p]) hG3 (fun ad e => by injection e with e; subst e; simp only; have : w2.drew.heap.size = w2.heap.size := rfl; omega)); (intro ad e; injection e with e; subst e; simp only; have hw2d : w2.drew.heap.size = w2.heap.size := rfl; omega); (exact (show Src w3 g A n c from HS3.out)); rintro e w4 ⟨v, rfl, hv, hS4, hG4⟩; have X4 := Lib.hid ((show Box w3 _ _ _ from X3.out).grown hG4 (hne _ (by omega))); have Z4 := Lib.hid ((show Box w3 _ _ _ from Z3.out).grown hG4 (hne _ (by omega))); have D4 := Lib.hid ((show Own _ w3 _ _ _ _ from D3.out).kept hG4 (own_src (show Own _ w3 _ _ _ _ from D3.out) (show Src w3 g A n c from HS3.out))); have HS4 := Lib.hid hS4; have HG4 := Lib.hid ((show w.grownBy w3 (some g) from HG3.out).trans hG4); have hold := World.ownsRow.cellAt D4.out yn (by omega); have hfz := World.ownsRow.frozenAt D4.out yn; rw [List.getElem?_map, List.getElem?_eq_getElem (by rw [HLn.out]; omega)] at hold; clear hS4 hv)
              | fail)
            all_goals
              have D5 : Hid (Own W0.heap.size (w4.setCell ⟨gd, yn, none⟩ (.int .i64 v)) (some ⟨gd, 0, none⟩) m cd (L.set yn v)) := by
                have st := (World.ownsRow.stored D4.out yn (.int .i64 v)).1
                rw [← List.map_set] at st
                exact st
              have X5 := Lib.hid (X4.out.other (a := ⟨gd, yn, none⟩) (show w.heap.size ≠ gd by omega) (.int .i64 v))
              have Z5 := Lib.hid (Z4.out.other (a := ⟨gd, yn, none⟩) (show w.heap.size + 1 ≠ gd by omega) (.int .i64 v))
              have HS5 := Lib.hid (HS4.out.setNew (b := gd) (i := yn) (by omega) (by omega) (.int .i64 v))
              have HG5 := Lib.hid (grown_setNew HG4.out (b := gd) (i := yn) (by omega) (.int .i64 v))
              clear hold hfz X4 Z4 D4 HS4 HG4 X3 Z3 D3 HS3 HG3 x0
              obtain ⟨x0, x1, _, _⟩ := X5.out.two
              obtain ⟨r0, r1, rf0, rf1⟩ := Z5.out.two
              go_wp2
              have hZ2 := Lib.hid ((Z5.out.set 0 (.int .i64 p)).set 1 (.slice (some ⟨gd, 0, none⟩) m cd))
              obtain ⟨q0, q1, _, _⟩ := Box.two (show Box _ (w.heap.size + 1) 26 #[.int .i64 p, .slice (some ⟨gd, 0, none⟩) m cd] from hZ2.out)
              refine bodyPost_ret (v := .agg #[.int .i64 p, .slice (some ⟨gd, 0, none⟩) m cd]) (by simp [results, Try.results64, go_sem, q0, q1]) rfl ⟨p, (some ⟨gd, 0, none⟩), _, cd, (L.set yn v), rfl, ?_, by omega, trivial, ?_, ?_⟩
              · exact ((D5.out.mono (by omega)).setBoxed Z5.out (by decide) _ _).setBoxed (Z5.out.set _ _) (by decide) _ _
              · exact (HS5.out.setNew (by omega) (by omega) _).setNew (by omega) (by omega) _
              · exact grown_setNew (grown_setNew HG5.out (by omega) _) (by omega) _
          · obtain rfl : m = 0 := by omega
            have hm1 : ¬ (0 : Int) < ((0 : Nat) : Int) := by omega
            obtain ⟨x0, x1, _, _⟩ := X2.out.two
            obtain ⟨r0, r1, rf0, rf1⟩ := Z2.out.two
            go_wp2
            have hZ2 := Lib.hid ((Z2.out.set 0 (.int .i64 p)).set 1 (.slice Ad 0 cd))
            obtain ⟨q0, q1, _, _⟩ := Box.two (show Box _ (w.heap.size + 1) 26 #[.int .i64 p, .slice Ad 0 cd] from hZ2.out)
            refine bodyPost_ret (v := .agg #[.int .i64 p, .slice Ad 0 cd]) (by simp [results, Try.results64, go_sem, q0, q1]) rfl ⟨p, Ad, _, cd, L, rfl, ?_, by omega, trivial, ?_, ?_⟩
            · exact ((D2.out.mono (by omega)).setBoxed Z2.out (by decide) _ _).setBoxed (Z2.out.set _ _) (by decide) _ _
            · exact (HS2.out.setNew (by omega) (by omega) _).setNew (by omega) (by omega) _
            · exact grown_setNew (grown_setNew HG2.out (by omega) _) (by omega) _
        · have e3 : (x == 3) = false := by simpa using h3
          clear h0 h1 h2 h3
          obtain ⟨x0, x1, _, _⟩ := X2.out.two
          obtain ⟨r0, r1, rf0, rf1⟩ := Z2.out.two
          go_wp2
          have hZ2 := Lib.hid ((Z2.out.set 0 (.int .i64 p)).set 1 (.slice Ax m cx))
          obtain ⟨q0, q1, _, _⟩ := Box.two (show Box _ (w.heap.size + 1) 26 #[.int .i64 p, .slice Ax m cx] from hZ2.out)
          refine bodyPost_ret (v := .agg #[.int .i64 p, .slice Ax m cx]) (by simp [results, Try.results64, go_sem, q0, q1]) rfl ⟨p, Ax, _, cx, L, rfl, ?_, by omega, trivial, ?_, ?_⟩
          · exact ((O2.out).setBoxed Z2.out (by decide) _ _).setBoxed (Z2.out.set _ _) (by decide) _ _
          · exact (HS2.out.setNew (by omega) (by omega) _).setNew (by omega) (by omega) _
          · exact grown_setNew (grown_setNew HG2.out (by omega) _) (by omega) _

set_option maxHeartbeats 1000000 in
theorem l01Spoil_ret (g : Nat) (A : Option Addr) (n c : Nat) (w : World) (hn : n ≤ 4096) (h : Src w g A n c) :
    Calls Try.prog 62 #[.pointer (some ⟨g, 0, none⟩)] w (RetBd w.heap.size w g A n c) := by
  have hgw := h.lt
  have HS0 := Lib.hid (h.alloc (.cells #[.int .i64 0, .slice none 0 0] 26))
  have X0 := Lib.hid (Box.new w 26 #[.int .i64 0, .slice none 0 0])
  have HG0 := Lib.hid (grown_alloc (World.grownBy.refl w (some g)) (.cells #[.int .i64 0, .slice none 0 0] 26))
  have hne : some w.heap.size ≠ some g := fun e => by injection e with e; omega
  clear h
  go_enter Try.func62, Try.ntmps62
  go_wp2_with fail
  refine (l01Draw_ret g A n c _ hn HS0.out).mono ?_
  rintro e w1 ⟨p, A', m, c', L, rfl, hO, hm, hQ, hS, hG⟩
  have HS1 := Lib.hid hS
  have X1 := Lib.hid (X0.out.grown hG hne)
  have HG1 := Lib.hid (HG0.out.trans hG)
  have O1 := Lib.hid (hO.mono (show w.heap.size ≤ (w.alloc (.cells #[.int .i64 0, .slice none 0 0] 26)).heap.size by simp))
  have hs1 := HG1.out.size
  have hm8 : m ≤ 9 := by
    have := Own.len hO
    have := hQ.2.2
    omega
  clear hS hG hO hQ HS0 X0 HG0 hm
  go_wp2_with fail
  refine (l01Bad_ret g A n c p A' m c' w.heap.size L _ hn HS1.out O1.out hm8 hs1 hgw).mono ?_
  rintro e w2 ⟨p2, A2, m2, c2, L2, rfl, hO, hm, _, hS, hG⟩
  have HS2 := Lib.hid hS
  have X2 := Lib.hid (X1.out.grown hG hne)
  have HG2 := Lib.hid (HG1.out.trans hG)
  have O2 := Lib.hid hO
  clear hS hG hO HS1 X1 HG1 O1
  obtain ⟨r0, r1, rf0, rf1⟩ := X2.out.two
  go_wp2
  refine bodyPost_ret (v := .agg #[.int .i64 p2, .slice A2 m2 c2]) (by simp [results, Try.results62, go_sem, r0, r1]) rfl ⟨p2, A2, m2, c2, L2, rfl, ?_, hm, trivial, ?_, ?_⟩
  · exact (O2.out.setBoxed X2.out (by decide) _ _).setBoxed (X2.out.set _ _) (by decide) _ _
  · exact (HS2.out.setNew (by omega) hgw _).setNew (by omega) hgw _
  · exact grown_setNew (grown_setNew HG2.out (Nat.le_refl _) _) (Nat.le_refl _) _

end Go.Proofs.Ytnbjnlgdolhlmaa
