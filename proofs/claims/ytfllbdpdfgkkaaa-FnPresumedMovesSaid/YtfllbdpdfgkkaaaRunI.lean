/- Contracts: the states of a run, by the program; both sides of StatesOfRun. -/
import Derived.Test.YtfllbdpdfgkkaaaRunS
namespace Go.Proofs.Ytfllbdpdfgkkaaa
open Go.RowKit Go.Shelf
set_option linter.unusedVariables false

set_option maxRecDepth 100000 in
set_option maxHeartbeats 4000000 in
theorem implStatesOfRun_retC (A : Option Addr) (n c : Nat) (p : Int) (L : List Int) (AM : Option Addr) (m cM : Nat) (M : List Mv) (w : World) (hL : L.length = n) (hn : n ≤ 1048576) (hI : Ints w A L) (hM : M.length = m) (hm : m ≤ 1048576) (hMv : Mvs w AM M) :
    Calls Try.prog 26 #[.agg #[.int .i64 p, .slice A n c], .slice AM m cM] w (RetStC w (rsV p L M) (rsC p L M)) := by
  have HL := Lib.hid hL
  have HM := Lib.hid hM
  have hb0 : Below w.heap.size w (w.alloc (.cells #[.int .i64 p, .slice A n c] 33)) := (Below.refl _ _).alloc (Nat.le_refl _) _
  have HB0 := Lib.hid hb0
  have HI0 := Lib.hid (hI.below hb0)
  have HV0 := Lib.hid (hMv.below hb0)
  have X0 := Lib.hid (Box.new w 33 #[.int .i64 p, .slice A n c])
  clear hL hM hb0 hI hMv
  by_cases hs : stateB p L = true
  · obtain ⟨i0, hi, hz0, hz1, hz2⟩ := info_parts Try.infoSt
    have HSt := Lib.hid hs
    by_cases hmx : m ≤ 6561
    · go_enter Try.func26, Try.ntmps26
      go_wp2_with fail
      refine (implIsState_calls A n c p L _ HL.out hn HI0.out).mono ?_
      rintro e w1 ⟨rfl, hb⟩
      have HB1 := Lib.hid (HB0.out.trans (hb.mono HB0.out.size))
      have HI1 := Lib.hid (HI0.out.below hb)
      have HV1 := Lib.hid (HV0.out.below hb)
      have X1 := Lib.hid (X0.out.below hb X0.out.lt)
      rw [show stateB p L = true from HSt.out]
      obtain ⟨x0, x1, _, _⟩ := X1.out.two
      have hw1 := HB1.out.size
      clear hb X0 HB0 HI0 HV0 hs
      go_wp2_with fail
      refine (copyOfState_calls A n c p L _ HL.out hn HI1.out).mono ?_
      rintro e w2 ⟨A2, c2, rfl, hc2, hc2', hO2, hb2⟩
      have HO2 := Lib.hid hO2
      have HB2 := Lib.hid hb2
      have hw2 := hb2.size
      have BL : Hid (Box ((w2.alloc (.cells #[.int .i64 p, .slice A2 n c2] 33)).alloc (.cells #[.int .i64 p, .slice A2 n c2] 33)) w2.heap.size 33 #[.int .i64 p, .slice A2 n c2]) := (Box.new w2 _ _).alloc _
      have OS3 : Hid (OwnSt w1.heap.size ((w2.alloc (.cells #[.int .i64 p, .slice A2 n c2] 33)).alloc (.cells #[.int .i64 p, .slice A2 n c2] 33)) (some ⟨w2.heap.size + 1, 0, none⟩) 1 1 [⟨p, A2, n, c2, c2, L⟩]) := by
        have := Box.new (w2.alloc (.cells #[.int .i64 p, .slice A2 n c2] 33)) 33 #[.int .i64 p, .slice A2 n c2]
        rw [World.size_alloc] at this
        exact OwnSt.one (r := ⟨p, A2, n, c2, c2, L⟩) this (by omega) (OwnG.alloc (OwnG.alloc HO2.out _) _)
      have HB3 := Lib.hid ((HB2.out.alloc hw2 (.cells #[.int .i64 p, .slice A2 n c2] 33)).alloc (by simp; omega) (.cells #[.int .i64 p, .slice A2 n c2] 33))
      clear hO2 hb2 x0 x1 X1
      go_wp2
      generalize (w2.alloc (.cells #[.int .i64 p, .slice A2 n c2] 33)).alloc (.cells #[.int .i64 p, .slice A2 n c2] 33) = w3 at *
      generalize w2.heap.size = lb at *
      go_loopw [7, 22] (fun v i wr => ∃ k : Nat, k ≤ m ∧ i = .int .i64 k ∧ Hid (okA p L M k = true) ∧ (∃ AA cc rs r, v = .slice AA ((k + 1 : Nat) : Int).toNat cc ∧ OwnSt w1.heap.size wr AA (k + 1) cc rs ∧ QLof rs = runL p L M k ∧ rs[k]? = some r ∧ Box wr lb 33 #[.int .i64 p, .slice r.A r.n r.c] ∧ (n ≤ r.c ∧ r.c ≤ 9223372036854775807) ∧ (∀ g, AA = some ⟨g, 0, none⟩ → lb < g) ∧ ∀ s ∈ rs, s.c = s.d) ∧ Below w1.heap.size w1 wr) (fun _ i _ => m - (intOf i).toNat)
      case atStart => exact ⟨0, Nat.zero_le _, rfl, rfl, ⟨_, _, _, ⟨p, A2, n, c2, c2, L⟩, rfl, OS3.out, rfl, rfl, BL.out, ⟨hc2, by dsimp only; omega⟩, fun g e => by injection e with e; injection e with e; omega, fun s hs => by rw [List.mem_singleton] at hs; rw [hs]⟩, HB3.out⟩
      case round =>
        obtain ⟨k, hk, rfl, hok, ⟨AA, cc, rs, r, rfl, hSt, hQL, hr, hbx, hrc, hAl, hcd⟩, hbl⟩ := hrel
        have HCD := Lib.hid hcd
        clear hcd
        rw [Int.toNat_natCast]
        have HS := Lib.hid hSt
        have HQ := Lib.hid hQL
        have HBl := Lib.hid hbl
        have HAl := Lib.hid hAl
        have hsz := hbl.size
        have hold := Lib.hid hSt.rows_lt
        by_cases hlt : k < m
        · obtain ⟨gM, rfl, hgM, m0, m1, m2⟩ := (HV1.out.below hbl) k (by rw [HM.out]; exact hlt)
          have hq := QL_at hr
          rw [hQL, runL_at p L M (Nat.le_refl k)] at hq
          injection hq with hq
          injection hq with hq1 hq2
          have hOr := hSt.2.1 r (List.mem_of_getElem? hr)
          have hlen := hOr.len
          have hIr := hOr.ints
          obtain ⟨rq, rA, rn, rc, rd, rL⟩ := r
          dsimp only at hq1 hq2 hlen hIr hbx hrc
          subst hq1
          have hsl := stA_len L M k
          rw [HL.out, hq2, hlen] at hsl
          subst hsl
          have HLr := Lib.hid hlen
          have HIr := Lib.hid hIr
          have HSr : Hid (stateB p rL = true) := by unfold Hid; rw [← hq2]; exact stA_state HSt.out k hok.out
          have HQ2 := Lib.hid hq2
          generalize hmv : M[k]?.getD (0, 0, 0) = mv at m0 m1 m2
          obtain ⟨md, mf, mt⟩ := mv
          have HMV : Hid (mvAt M k = (md, mf, mt)) := hmv
          dsimp only at m0 m1 m2
          have BX := Lib.hid hbx
          obtain ⟨b0, b1, _, _⟩ := hbx.two
          have hlb := hbx.lt
          clear hSt hQL hbl hr hq2 hlen hIr hmv hOr hAl hbx
          go_wp2_with fail
          refine (isLegalMove_calls rA rn rc p rL md mf mt _ HLr.out hrc.1 hrc.2 (HIr.out.below ((Below.refl wr.heap.size wr).alloc (Nat.le_refl _) _)) HSr.out).mono ?_
          rintro e w4 ⟨rfl, hb4⟩
          have HW4 := Lib.hid (((Below.refl wr.heap.size wr).alloc (Nat.le_refl _) (.cells #[.int .i64 md, .int .i64 mf, .int .i64 mt] 53)).trans (hb4.mono (by simp)))
          have BM4 := Lib.hid ((Box.new wr 53 #[.int .i64 md, .int .i64 mf, .int .i64 mt]).below hb4 (by simp))
          have BX4 := Lib.hid (BX.out.below HW4.out BX.out.lt)
          have hz4 := HW4.out.size
          have HS4 := Lib.hid (HS.out.below HW4.out)
          have HB4 := Lib.hid (HBl.out.trans (HW4.out.mono hsz))
          have HI4 := Lib.hid (HIr.out.below HW4.out)
          obtain ⟨n0, n1, n2⟩ := BM4.out.three
          clear b0 b1 BX
          obtain ⟨b0, b1, _, _⟩ := BX4.out.two
          have hlb4 := BX4.out.lt
          have hlm4 := BM4.out.lt
          clear hb4 m0 m1 m2
          by_cases hl : legalB p rL md mf mt = true
          · have HLG := Lib.hid hl
            have hld := legal_d hl
            rw [HLr.out] at hld
            obtain ⟨j, rfl⟩ := Int.eq_ofNat_of_zero_le hld.1
            have hjn : j < rn := by omega
            go_wp2_with fail
            refine (afterMove_calls rA rn rc p rL j mf mt _ HLr.out hn hjn HI4.out).mono ?_
            rintro e w5 ⟨A5, c5, rfl, hO5, hb5⟩
            have HW5 := Lib.hid hb5
            have HO5 := Lib.hid hO5
            have HS5 := Lib.hid (HS4.out.below hb5)
            have hz5 := hb5.size
            have BX5 := Lib.hid (BX4.out.below hb5 BX4.out.lt)
            have HB5 := Lib.hid (HB4.out.trans (hb5.mono HB4.out.size))
            clear hb5 hO5 n0 n1 n2 b0 b1 BM4
            obtain ⟨b0, b1, f0, f1⟩ := BX5.out.two
            have hlb5 := BX5.out.lt
            have hlw1 : w1.heap.size ≤ lb := by omega
            have HS6 : Hid (OwnSt w1.heap.size ((w5.setCell ⟨lb, 0, none⟩ (.int .i64 p)).setCell ⟨lb, 1, none⟩ (.slice A5 rn c5)) AA (k + 1) cc rs) := by
              have h1 : OwnSt w1.heap.size (w5.setCell ⟨lb, 0, none⟩ (.int .i64 p)) AA (k + 1) cc rs := ⟨HS5.out.1.setBox (fun g hA => by have := HAl.out g hA; simp; omega) _, fun s hs => OwnG.setBoxed (HS5.out.2.1 s hs) BX5.out (by decide) 0 _, HS5.out.2.2⟩
              have h2 := BX5.out.set 0 (.int .i64 p)
              exact ⟨h1.1.setBox (fun g hA => by have := HAl.out g hA; simp; omega) _, fun s hs => OwnG.setBoxed (h1.2.1 s hs) h2 (by decide) 1 _, h1.2.2⟩
            have HO6 : Hid (Own w4.heap.size ((w5.setCell ⟨lb, 0, none⟩ (.int .i64 p)).setCell ⟨lb, 1, none⟩ (.slice A5 rn c5)) A5 rn c5 (rL.set j mt)) := by
              have h1 := OwnG.setBoxed HO5.out BX5.out (by decide) 0 (.int .i64 p)
              exact OwnG.setBoxed h1 (BX5.out.set 0 (.int .i64 p)) (by decide) 1 _
            have BX6 : Hid (Box ((w5.setCell ⟨lb, 0, none⟩ (.int .i64 p)).setCell ⟨lb, 1, none⟩ (.slice A5 rn c5)) lb 33 #[.int .i64 p, .slice A5 rn c5]) := (BX5.out.set 0 (.int .i64 p)).set 1 (.slice A5 rn c5)
            have HB6 := Lib.hid ((HB5.out.setCell (p := ⟨lb, 0, none⟩) hlw1 (.int .i64 p)).setCell (p := ⟨lb, 1, none⟩) hlw1 (.slice A5 rn c5))
            have hsz6 : ((w5.setCell ⟨lb, 0, none⟩ (.int .i64 p)).setCell ⟨lb, 1, none⟩ (.slice A5 rn c5)).heap.size = w5.heap.size := by simp
            generalize hW6 : (w5.setCell ⟨lb, 0, none⟩ (.int .i64 p)).setCell ⟨lb, 1, none⟩ (.slice A5 rn c5) = w6 at HS6 HO6 BX6 HB6 hsz6
            have hg6 : w1.heap.size ≤ w6.heap.size := HB6.out.size
            obtain ⟨s0, s1, _, _⟩ := BX6.out.two
            have hlb6 := BX6.out.lt
            clear hsz6
            go_wp2_with (at_builtin; refine wpList_append_lies _ rfl _ _ 59 rfl w1.heap.size 33 i0 (.agg #[.int .i64 0, .slice none 0 0]) 2 32 Try.underlying59 hi hz0 hz1 hz2 rfl (by decide) _ _ _ rfl (HS6.out.1.alloc _) ⟨w6.heap.size, 0, none⟩ 1 1 [.int .i64 p, .slice A5 rn c5] rfl rfl (World.news_of_block (cs := #[.int .i64 p, .slice A5 rn c5]) (t := 33) (fr := (0, 0)) (heap_alloc_new w6 _)) (by simp [Value.oneCell']) (by omega) (by unfold maxLen; omega) (by omega) (by simp; omega) (w6.heap.size + 1) (by simp) ?_; intro gg c6 w7 hown' hgrow hat hlt7; have HOW := Lib.hid hown'; have HGR := Lib.hid hgrow; have HAT := Lib.hid hat; clear hown' hgrow hat)
            go_roundw
            case rel =>
              have hok2 : okA p L M (k + 1) = true := by
                show (okA p L M k && legalB p (stA L M k) (mvAt M k).1 (mvAt M k).2.1 (mvAt M k).2.2) = true
                rw [hok.out, HMV.out, HQ2.out]
                exact HLG.out
              have hcap := OwnG.cap HO6.out
              have hsn := OwnSt.snoc (r := ⟨p, A5, rn, c5, c5, rL.set j mt⟩) HS6.out (HO6.out.mono HB4.out.size) (b := w4.heap.size) (fun g (hA : A5 = some ⟨g, 0, none⟩) => by have h1 := HO6.out; rw [hA] at h1; exact (ownG_lt h1).1) (fun s hs g hA => Nat.lt_of_lt_of_le (hold.out s hs g hA) hz4) HOW.out HGR.out
              have hb7 := OwnG.grown_below HS6.out.1 HGR.out (Nat.le_refl _) hg6
              have hlk := HS.out.len
              refine ⟨k + 1, by omega, by go_num, hok2, ⟨some ⟨gg, 0, none⟩, c6, rs ++ [⟨p, A5, rn, c5, c5, rL.set j mt⟩], ⟨p, A5, rn, c5, c5, rL.set j mt⟩, by rw [Int.toNat_natCast], hsn, ?_, by rw [List.getElem?_append_right (by omega), hlk, Nat.sub_self]; rfl, ?_, ⟨hcap.1, by have := hcap.2; unfold maxLen at this; dsimp only; omega⟩, ?_, cd_snoc HCD.out rfl⟩, HB6.out.trans hb7⟩
              · rw [runL_succ, ← HQ.out]
                show _ = _ ++ [(p, (stA L M k).set (mvAt M k).1.toNat (mvAt M k).2.2)]
                rw [HMV.out, HQ2.out]
                unfold QLof
                rw [List.map_append]
                rfl
              · refine (BX6.out.alloc (.cells #[.int .i64 p, .slice A5 rn c5] 33)).grown HGR.out (fun e => ?_)
                rcases HS6.out.1.form with ⟨rfl, h2, _⟩ | ⟨g, rfl, _, _⟩
                · omega
                · have h1 := HAl.out g rfl
                  have e' : some lb = some g := e
                  injection e' with e'
                  omega
              · intro g hA
                injection hA with hA
                injection hA with hA
                subst hA
                rcases HAT.out with h1 | h1
                · rcases HS6.out.1.form with ⟨rfl, _, _⟩ | ⟨g', rfl, _, _⟩
                  · cases h1
                  · have h1' : some g' = some gg := h1
                    injection h1' with h1'
                    have := HAl.out g' rfl
                    omega
                · omega
            case measure => simp [intOf]; omega
          · have hl' : legalB p rL md mf mt = false := by simpa using hl
            have HLG := Lib.hid hl'
            clear hl
            have hno : Hid (okA p L M M.length = false) := okA_le (k := k + 1) (by
              show (okA p L M k && legalB p (stA L M k) (mvAt M k).1 (mvAt M k).2.1 (mvAt M k).2.2) = false
              rw [hok.out, HMV.out, HQ2.out]
              exact HLG.out) _ (by rw [HM.out]; omega)
            go_wp2
            go_ret2
            obtain ⟨q1, q2⟩ := rs_no5 (p := p) (L := L) (M := M) HSt.out (by rw [HM.out]; exact hmx) hno.out
            rw [q1, q2]
            exact retStC_zero rfl (HB1.out.trans (HB4.out.mono hw1))
        · obtain rfl : k = m := by omega
          go_wp2
          go_ret2
          obtain ⟨q1, q2⟩ := rs_yes (p := p) (L := L) (M := M) HSt.out (by rw [HM.out]; exact hmx) (by rw [HM.out]; exact hok.out)
          rw [q1, q2]
          exact ⟨AA, _, cc, rs, rfl, HS.out.mono hw1, by rw [HQ.out, HM.out], HCD.out, HB1.out.trans (HBl.out.mono hw1)⟩
    · have hmx' : (6561 : Int) < (m : Int) := by omega
      go_enter Try.func26, Try.ntmps26
      go_wp2_with fail
      refine (implIsState_calls A n c p L _ HL.out hn HI0.out).mono ?_
      rintro e w1 ⟨rfl, hb⟩
      have HB1 := Lib.hid (HB0.out.trans (hb.mono HB0.out.size))
      clear hb
      go_wp2
      go_ret2
      obtain ⟨q1, q2⟩ := rs_no2 (p := p) (L := L) (M := M) HSt.out (by rw [HM.out]; exact hmx)
      rw [q1, q2]
      exact retStC_zero rfl HB1.out
  · have hs' : stateB p L = false := by simpa using hs
    have H := Lib.hid (rs_no1 (M := M) hs')
    clear hs
    go_enter Try.func26, Try.ntmps26
    go_wp2_with fail
    refine (implIsState_calls A n c p L _ HL.out hn HI0.out).mono ?_
    rintro e w1 ⟨rfl, hb⟩
    have HB := Lib.hid (HB0.out.trans (hb.mono HB0.out.size))
    clear hb
    go_wp2
    go_ret2
    obtain ⟨q1, q2⟩ := H.out
    rw [q1, q2]
    exact retStC_zero rfl HB.out

theorem implStatesOfRun_ret (A : Option Addr) (n c : Nat) (p : Int) (L : List Int) (AM : Option Addr) (m cM : Nat) (M : List Mv) (w : World) (hL : L.length = n) (hn : n ≤ 1048576) (hI : Ints w A L) (hM : M.length = m) (hm : m ≤ 1048576) (hMv : Mvs w AM M) :
    Calls Try.prog 26 #[.agg #[.int .i64 p, .slice A n c], .slice AM m cM] w (RetSt w (rsV p L M) (rsC p L M)) :=
  (implStatesOfRun_retC A n c p L AM m cM M w hL hn hI hM hm hMv).mono fun _ _ h => h.st

end Go.Proofs.Ytfllbdpdfgkkaaa
