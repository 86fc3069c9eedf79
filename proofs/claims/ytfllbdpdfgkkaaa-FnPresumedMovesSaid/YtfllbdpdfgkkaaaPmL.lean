/- Contracts: the presumed lists by the program. -/
import Derived.Test.YtfllbdpdfgkkaaaPmI
import Derived.Test.YtfllbdpdfgkkaaaSlc
import Derived.Deep.RegionHeld3
namespace Go.Proofs.Ytfllbdpdfgkkaaa
open Go.RowKit
set_option linter.unusedVariables false

theorem Box.kp {w w' : World} {b t : Nat} {cs : Array Value} {X : Nat → Prop} (h : Box w b t cs) (hk : Kp X w w') (hx : ¬ X b) : Box w' b t cs := (hk.block b h.lt hx).trans h
/-- What a call finds again behind a deeper one: pegs, the others, two variables. -/
def StL (w : World) (Pg : Option Addr) (L : List Int) (Pr : Option Addr) (D : List Int) (bu bv : Nat) (u v : Int) (X : Nat → Prop) : Prop :=
  PegsIn w Pg L X ∧ PegsIn w Pr D X ∧ (Box w bu 2 #[.int .i64 u] ∧ ¬ X bu) ∧ (Box w bv 2 #[.int .i64 v] ∧ ¬ X bv)
theorem StL.next {w w' : World} {Pg Pr : Option Addr} {L D : List Int} {bu bv : Nat} {u v : Int} {X X' : Nat → Prop} (h : StL w Pg L Pr D bu bv u v X) (hk : Kp X w w') (hn : ∀ k, X' k → X k ∨ w.heap.size ≤ k) : StL w' Pg L Pr D bu bv u v X' := by
  obtain ⟨h1, h2, ⟨h3, h4⟩, ⟨h5, h6⟩⟩ := h
  refine ⟨h1.next hk hn, h2.next hk hn, ⟨h3.kp hk h4, fun hx => ?_⟩, ⟨h5.kp hk h6, fun hx => ?_⟩⟩
  · rcases hn _ hx with h | h
    · exact h4 h
    · have := h3.lt; omega
  · rcases hn _ hx with h | h
    · exact h6 h
    · have := h5.lt; omega
theorem xr_old {w : World} {R g N nn B q d : Nat} {A : Option Addr} {M : List Mv} (h : PRun w R g N nn B A q d M) : ∀ k, XR R A k → k < w.heap.size := by
  intro k hk
  rcases hk with rfl | hk
  · exact h.box.lt
  · rcases OwnG.form h.own with ⟨h4, _⟩ | ⟨g', h4, _, h5⟩
    · rw [h4] at hk; cases hk
    · rw [h4] at hk; cases hk; exact h5
theorem firstPart_at (mi : Int) (R g N nn B Q : Nat) (A : Option Addr) (q d : Nat) (M : List Mv) (p m : Nat) (w : World) (hmi : mi = m) (hL : PRun w R g N nn B A q d M) (hN : Hid (N = (Q + 1) * (nn + 1))) (hNb : N ≤ 1000) (hQ : Q ≤ 7) (hp : 3 ≤ p ∧ p ≤ Q + 3) (hm : 2 ≤ m ∧ m ≤ nn) (hnn : nn ≤ 60) :
    Calls Try.prog 29 #[.pointer (some ⟨R, 0, none⟩), .int .i64 p, .int .i64 mi] w fun e w' => e = .returned (.int .i64 (kPm p m : Nat)) ∧ Below w.heap.size w w' := by
  subst hmi
  exact firstPart_calls R g N nn B Q A q d M p m w hL hN hNb hQ hp hm hnn
theorem kPm_three (m : Nat) : kPm 3 m = m - 1 := by unfold kPm; rw [if_pos rfl]
theorem own_some {B n c : Nat} {w : World} {A : Option Addr} {L : List Int} (h : Own B w A n c L) (hn : 1 ≤ n) : ∃ g, A = some ⟨g, 0, none⟩ ∧ B ≤ g ∧ g < w.heap.size := by
  rcases h.form with ⟨_, h0, _⟩ | ⟨g, h1, h2, h3⟩
  · omega
  · exact ⟨g, h1, h2, h3⟩
/-- An own list as a row. -/
theorem own_row {B n c : Nat} {w : World} {g : Nat} {L : List Int} (h : Own B w (some ⟨g, 0, none⟩) n c L) : n ≤ c ∧ ∃ f : Nat → Value, w.rowIs g 2 c f ∧ ∀ j, j < n → f j = .int .i64 (L[j]?.getD 0) := by
  have hl := h.len
  rcases h.2 with ⟨hv, _⟩ | ⟨g', cap, cur, hv, _, hh, hnc, _, hs, hx⟩
  · cases hv
  · injection hv with h1 h2 h3
    injection h1 with h1
    injection h1 with h1
    subst h1 h3
    refine ⟨hnc, fun i => cur[i]?.getD undef, ⟨cur, hh, by simpa using hs, fun i hi => ?_⟩, fun j hj => ?_⟩
    · show cur[i]? = some (cur[i]?.getD undef)
      rw [Array.getElem?_eq_getElem (by omega)]
      rfl
    · have hj2 : (cur.toList.take (n * 1))[j]? = (L.map (Value.int .i64))[j]? := by rw [hx]
      rw [List.getElem?_take_of_lt (by omega), List.getElem?_map, List.getElem?_eq_getElem (show j < L.length by omega)] at hj2
      show cur[j]?.getD undef = _
      rw [← Array.getElem?_toList, hj2, List.getElem?_eq_getElem (show j < L.length by omega)]
      rfl

set_option maxRecDepth 100000 in
set_option maxHeartbeats 1000000 in
theorem plead_calls (R g N nn B Q : Nat) (hN : Hid (N = (Q + 1) * (nn + 1))) (hNb : N ≤ 1000) (hQ : Q ≤ 2) (hnn : nn ≤ 60) : ∀ f m, m ≤ f → m ≤ 8 → m ≤ nn → ∀ (a : Nat) (u v : Int) (L : List Int) (Pg : Option Addr) (pn pc : Nat), L.length = pn → okP L → a + m ≤ 50 → (pn ≤ Q + 3 ∧ (2 ≤ m → 3 ≤ pn)) → ∀ (w : World) (A : Option Addr) (q d : Nat) (M : List Mv), PRun w R g N nn B A q d M → q + (pmL f a m u v L).length ≤ 20000 → PegsIn w Pg L (XR R A) →
    Calls Try.prog 18 #[.pointer (some ⟨R, 0, none⟩), .int .i64 a, .int .i64 m, .int .i64 u, .int .i64 v, .slice Pg pn pc] w fun e w' => e = .returned (.tuple #[]) ∧ ∃ A' d', PRun w' R g N nn B A' (q + (pmL f a m u v L).length) d' (M ++ pmL f a m u v L) ∧ Kp (XR R A) w w' ∧ (∀ k, XR R A' k → XR R A k ∨ w.heap.size ≤ k) := by
  intro f
  induction f with
  | zero =>
    intro m hm _ _ a u v L Pg pn pc _ _ _ _ w A q d M hL _ _
    obtain rfl : m = 0 := by omega
    have hb0 := ((Below.refl w.heap.size w).alloc (Nat.le_refl _) (.cells #[.int .i64 u] 2)).alloc (by simp) (.cells #[.int .i64 v] 2)
    have HL := Lib.hid (hL.below hb0)
    have HB := Lib.hid hb0
    clear hL hb0
    go_enter Try.func18, Try.ntmps18
    go_wp2
    first | go_end0 | ((try simp only [Exit.inBlock, Exit.then]); refine bodyPost_ret (results_none rfl _ _ _) rfl ?_)
    exact ⟨rfl, A, d, by simpa [pmL] using HL.out, Kp.of_below HB.out, fun k h => .inl h⟩
  | succ f ih =>
    intro m hmf hm8 hmn a u v L Pg pn pc hPL hok ham hp5 w A q d M hL hlen hPG
    by_cases hm0 : m = 0
    · subst hm0
      have hb0 := ((Below.refl w.heap.size w).alloc (Nat.le_refl _) (.cells #[.int .i64 u] 2)).alloc (by simp) (.cells #[.int .i64 v] 2)
      have HL := Lib.hid (hL.below hb0)
      have HB := Lib.hid hb0
      have HV := Lib.hid (pmL_zero f a u v L)
      clear hL hb0 ih hPG hPL hok hlen
      go_enter Try.func18, Try.ntmps18
      go_wp2
      first | go_end0 | ((try simp only [Exit.inBlock, Exit.then]); refine bodyPost_ret (results_none rfl _ _ _) rfl ?_)
      exact ⟨rfl, A, d, by rw [HV.out, List.append_nil]; exact HL.out, Kp.of_below HB.out, fun k h => .inl h⟩
    · by_cases hm1 : m = 1
      · subst hm1
        have hq2 : q ≤ 20000 := by omega
        rw [pmL_one]
        exact plead_one R g N nn B A q d M a u v _ w hL hq2
      · have hm2 : 2 ≤ m := by omega
        obtain ⟨p, hp, hx0, hbef, hxu, hxv⟩ := okP_place hok (by rw [hPL]; exact hp5.2 hm2) u v
        have hmd := mdT_all hp hx0 hbef hxu hxv
        obtain ⟨hokr, hlr⟩ := okP_rest hok hp
        rw [hPL] at hp hlr
        obtain ⟨m1, rfl⟩ : ∃ m1, m = m1 + 1 := ⟨m - 1, by omega⟩
        have hkb := kPm_bd (q := pn) (m := m1 + 1) hm2
        have HV := Lib.hid (pmL_more (f := f) (a := a) (m := m1 + 1) (u := u) (v := v) (L := L) hm2)
        rw [hmd, hPL] at HV
        simp only at HV
        have hk3 : pn = 3 → kPm pn (m1 + 1) = m1 := fun h => by rw [h, kPm_three]; omega
        obtain ⟨k, ek⟩ : ∃ k, kPm pn (m1 + 1) = k := ⟨_, rfl⟩
        have EK := Lib.hid ek
        rw [ek] at hkb HV hk3
        obtain ⟨e2, he2⟩ : ∃ e2, m1 + 1 = k + e2 := ⟨m1 + 1 - k, by omega⟩
        rw [show m1 + 1 - k = e2 by omega] at HV
        have hde : 2 ≤ e2 → 4 ≤ pn := fun h => by have := hp5.2 hm2; have h3 := hk3; by_cases h4 : pn = 3 <;> omega
        obtain ⟨x, ex⟩ : ∃ x, L[p]?.getD 0 = x := ⟨_, rfl⟩
        obtain ⟨D, eD⟩ : ∃ D, L.take p ++ L.drop (p + 1) = D := ⟨_, rfl⟩
        have EX := Lib.hid ex
        have ED := Lib.hid eD
        rw [ex, eD] at HV
        rw [eD] at hokr hlr
        obtain ⟨U1, hU1⟩ : ∃ U, pmL f a k u x L = U := ⟨_, rfl⟩
        obtain ⟨U2, hU2⟩ : ∃ U, pmL f (a + k) e2 u v D = U := ⟨_, rfl⟩
        obtain ⟨U3, hU3⟩ : ∃ U, pmL f a k x v L = U := ⟨_, rfl⟩
        have EV4 := Lib.hid hU1
        have EV5 := Lib.hid hU2
        have EV6 := Lib.hid hU3
        rw [hU1, hU2, hU3] at HV
        have hql : q + (U1.length + U2.length + U3.length) ≤ 20000 := by rw [HV.out] at hlen; simp only [List.length_append] at hlen; omega
        have HIH := Lib.hid ih
        have HPL := Lib.hid hPL
        have HOK := Lib.hid hok
        have HOKR := Lib.hid hokr
        have HLR := Lib.hid hlr
        have HE2 := Lib.hid he2
        have HBF := Lib.hid hbef
        have HXU := Lib.hid (show ¬ L[p]?.getD 0 = u from hxu)
        have HXV := Lib.hid (show ¬ L[p]?.getD 0 = v from hxv)
        have hmk : (m1 : Int) + 1 - (k : Int) = (e2 : Int) := by omega
        have hkm : k ≤ m1 := by omega
        have he2m : e2 ≤ m1 := by omega
        have hake : a + k + e2 ≤ 50 := by omega
        have hm1b : 1 ≤ m1 := by omega
        have hmb0 : (((m1 : Int) + 1) == 0) = false := by rw [beq_eq_false_iff_ne]; omega
        have hmb1 : (((m1 : Int) + 1) == 1) = false := by rw [beq_eq_false_iff_ne]; omega
        have hold := xr_old hL
        have hb0 := ((Below.refl w.heap.size w).alloc (Nat.le_refl _) (.cells #[.int .i64 u] 2)).alloc (by simp) (.cells #[.int .i64 v] 2)
        have xv := Box.new (w.alloc (.cells #[.int .i64 u] 2)) 2 #[.int .i64 v]
        simp only [World.size_alloc] at xv
        have XU := Lib.hid ((Box.new w 2 #[.int .i64 u]).alloc (.cells #[.int .i64 v] 2))
        have XV := Lib.hid xv
        have HL := Lib.hid (hL.below hb0)
        have HB := Lib.hid hb0
        have HPG := Lib.hid (hPG.next (Kp.of_below hb0) (X' := XR R A) (fun k h => .inl h))
        have HOLD := Lib.hid hold
        have hmf' : Hid (∀ (fn : Fn) (first cap : Array Value) (w : World), (Instr.makeFunc fn first cap).run Try.prog w = .ok (.func fn first cap) w) := fun _ _ _ _ => rfl
        clear ih hPL hok hokr hlr hmd hx0 hbef hxu hxv ex eD hU1 hU2 hU3 hlen hL hPG xv hb0 hold ek he2 hk3 hkb hm2 hm0 hm1
        rw [show (((m1 + 1 : Nat)) : Int) = (m1 : Int) + 1 by omega]
        go_enter Try.func18, Try.ntmps18
        go_wp2_with fail
        generalize hW : (w.alloc (.cells #[.int .i64 u] 2)).alloc (.cells #[.int .i64 v] 2) = W at *
        have HW := Lib.hid hW
        clear hW
        refine (firstPart_at _ R g N nn B Q A q d M pn (m1 + 1) _ (by omega) HL.out hN hNb (by omega) ⟨hp5.2 (by omega), hp5.1⟩ ⟨by omega, hmn⟩ hnn).mono ?_
        rw [EK.out]
        rintro e w1 ⟨rfl, hb1⟩
        have RN1 := Lib.hid (HL.out.below hb1)
        have XU1 := Lib.hid (XU.out.below hb1 XU.out.lt)
        have XV1 := Lib.hid (XV.out.below hb1 XV.out.lt)
        have PG1 := Lib.hid (HPG.out.next (Kp.of_below hb1) (X' := XR R A) (fun k h => .inl h))
        have KB1 := Lib.hid (HB.out.trans (hb1.mono HB.out.size))
        clear hb1 HL XU XV HPG HB
        have hmf := hmf'.out
        go_wp2_with fail
        refine (indexFunc_calls w.heap.size (w.heap.size + 1) u v Pg pn pc p L _ HPL.out (by omega) PG1.out.1 XU1.out XV1.out hp HBF.out HXU.out HXV.out).mono ?_
        rintro e w' ⟨rfl, rfl⟩
        clear hmf
        obtain ⟨ad, hadP, had, hc⟩ := PG1.out.1 p (by rw [HPL.out]; exact hp)
        subst hadP
        rw [List.getD_eq_getElem?_getD, EX.out] at hc
        have hpn5 : pn ≤ 5 := by omega
        have hpn3 : 3 ≤ pn := hp5.2 (by omega)
        have hpp : (p : Int) < (pn : Int) := by omega
        have hwp : IntKind.i64.wrap ((p : Int) + 1) = (p : Int) + 1 := IntWalk.i64_in _ (by omega)
        go_wp2_with fail
        go_region_held3 (fun w' => w'.cell? (ad.add p) = some (.int .i64 x))
          (first | exact hc | exact C2 | exact C3 | go_keep)
          (first
          | (go_at_call 33; refine (clone_calls ad pn pc L _ HPL.out (by omega) ?_).mono ?_; (exact PG1.out.1); rintro e w2 ⟨AC, cC, rfl, hOC, hb2⟩; have hb2' : Below w1.heap.size w1 w2 := (by first | exact undrewN (undrew hb2) | exact undrew hb2 | exact undrewN hb2 | exact hb2); obtain ⟨gC, rfl, hgC1, hgC2⟩ := own_some hOC (by omega); have hgC1' : w1.heap.size ≤ gC := hgC1; obtain ⟨hnc, fC, hrowC, hfC⟩ := own_row hOC; have HRC := Lib.hid hrowC; have HFC := Lib.hid hfC; have C2 : w2.cell? (ad.add p) = some (.int .i64 x) := (hb2'.cell (p := ad.add p) (by rw [add_block]; exact had)).trans hc; clear hb2 hOC hrowC hfC hgC1)
          | (go_at_call 32; refine (delete_calls gC pn cC p L fC _ ?_ HFC.out HPL.out hp hpn5 hnc).mono ?_; (exact HRC.out); rintro e w3 ⟨rfl, hI3, hK3⟩; have hK3' : Kp (fun k => k = gC) w2 w3 := (by first | exact hK3 | exact ⟨hK3.os, hK3.tape, hK3.output, hK3.size, hK3.block⟩); have C3 : w3.cell? (ad.add p) = some (.int .i64 x) := (Below.cell (hK3'.below (B := w1.heap.size) (fun k h => by rw [h]; exact hgC1') hb2'.size) (p := ad.add p) (by rw [add_block]; exact had)).trans C2; clear hK3)
          | fail)
        have hb3 : Below w1.heap.size w1 w3 := hb2'.trans (hK3'.below (fun k h => by rw [h]; exact hgC1') hb2'.size)
        have hg3 : gC < w3.heap.size := Nat.lt_of_lt_of_le hgC2 hK3'.size
        have hw1 : w.heap.size ≤ w1.heap.size := KB1.out.size
        have hnR : ∀ b, w.heap.size ≤ b → ¬ XR R A b := fun b hb hx => by have := HOLD.out b hx; omega
        have RN4 := Lib.hid (RN1.out.below hb3)
        have KP4 := Lib.hid (Kp.of_below (X := XR R A) (KB1.out.trans (hb3.mono hw1)))
        have NW4 : Hid (∀ k, XR R A k → XR R A k ∨ w.heap.size ≤ k) := fun k h => .inl h
        have ST4 : Hid (StL w3 (some ad) L (some ⟨gC, 0, none⟩) D w.heap.size (w.heap.size + 1) u v (XR R A)) :=
          ⟨PG1.out.next (Kp.of_below hb3) (fun k h => .inl h), ⟨by rw [← ED.out]; exact hI3, fun ad2 h2 => by injection h2 with h2; subst h2; exact ⟨hg3, hnR _ (by show w.heap.size ≤ gC; omega)⟩⟩, ⟨XU1.out.below hb3 XU1.out.lt, hnR _ (Nat.le_refl _)⟩, ⟨XV1.out.below hb3 XV1.out.lt, hnR _ (Nat.le_succ _)⟩⟩
        clear hwp hb3 hK3' hI3 C2 C3 hb2' HRC HFC RN1 PG1 XU1 XV1 KB1 hc had hnR hg3 hgC1' hgC2 hw1
        obtain ⟨hbu, hbv⟩ := ST4.out.2.2
        obtain ⟨u0, _⟩ := hbu.1.one
        obtain ⟨v0, _⟩ := hbv.1.one
        go_wp2_with fail
        refine (HIH.out k (by omega) (by omega) (by omega) a u x L (some ad) pn pc HPL.out HOK.out (by omega) ⟨hp5.1, by omega⟩ _ _ _ _ _ RN4.out (by rw [EV4.out]; omega) ST4.out.1).mono ?_
        rw [EV4.out]
        rintro e w5 ⟨rfl, A5, d5, hO, hk, hn⟩
        have RN5 := Lib.hid hO
        have KP5 := Lib.hid (KP4.out.trans hk NW4.out)
        have NW5 : Hid (∀ k, XR R A5 k → XR R A k ∨ w.heap.size ≤ k) := fun k h => (hn k h).elim (NW4.out k) (fun h => Or.inr (Nat.le_trans KP4.out.size h))
        have ST5 := Lib.hid (ST4.out.next hk hn)
        clear hO hk hn RN4 KP4 NW4 ST4 hbu hbv u0 v0
        obtain ⟨hbu, hbv⟩ := ST5.out.2.2
        obtain ⟨u0, _⟩ := hbu.1.one
        obtain ⟨v0, _⟩ := hbv.1.one
        go_wp2_with fail
        rw [show (a : Int) + (k : Int) = ((a + k : Nat) : Int) by omega]
        refine (HIH.out e2 (by omega) (by omega) (by omega) (a + k) u v D (some ⟨gC, 0, none⟩) (pn - 1) cC HLR.out HOKR.out (by omega) ⟨by omega, by omega⟩ _ _ _ _ _ RN5.out (by rw [EV5.out]; omega) ST5.out.2.1).mono ?_
        rw [EV5.out]
        rintro e w6 ⟨rfl, A6, d6, hO, hk, hn⟩
        have RN6 := Lib.hid hO
        have KP6 := Lib.hid (KP5.out.trans hk NW5.out)
        have NW6 : Hid (∀ k, XR R A6 k → XR R A k ∨ w.heap.size ≤ k) := fun k h => (hn k h).elim (NW5.out k) (fun h => Or.inr (Nat.le_trans KP5.out.size h))
        have ST6 := Lib.hid (ST5.out.next hk hn)
        clear hO hk hn RN5 KP5 NW5 ST5 hbu hbv u0 v0
        obtain ⟨hbu, hbv⟩ := ST6.out.2.2
        obtain ⟨u0, _⟩ := hbu.1.one
        obtain ⟨v0, _⟩ := hbv.1.one
        go_wp2_with fail
        refine (HIH.out k (by omega) (by omega) (by omega) a x v L (some ad) pn pc HPL.out HOK.out (by omega) ⟨hp5.1, by omega⟩ _ _ _ _ _ RN6.out (by rw [EV6.out]; omega) ST6.out.1).mono ?_
        rw [EV6.out]
        rintro e w7 ⟨rfl, A7, d7, hO, hk, hn⟩
        have RN7 := Lib.hid hO
        have KP7 := Lib.hid (KP6.out.trans hk NW6.out)
        have NW7 : Hid (∀ k, XR R A7 k → XR R A k ∨ w.heap.size ≤ k) := fun k h => (hn k h).elim (NW6.out k) (fun h => Or.inr (Nat.le_trans KP6.out.size h))
        have ST7 := Lib.hid (ST6.out.next hk hn)
        clear hO hk hn RN6 KP6 NW6 ST6 hbu hbv u0 v0
        go_wp2
        first | go_end0 | ((try simp only [Exit.inBlock, Exit.then]); refine bodyPost_ret (results_none rfl _ _ _) rfl ?_)
        have hlen : q + U1.length + U2.length + U3.length = q + (pmL (f + 1) a (m1 + 1) u v L).length := by rw [HV.out]; simp only [List.length_append]; omega
        have happ : M ++ U1 ++ U2 ++ U3 = M ++ pmL (f + 1) a (m1 + 1) u v L := by rw [HV.out]; simp only [List.append_assoc]
        have hfin := RN7.out
        rw [hlen, happ] at hfin
        exact ⟨rfl, _, _, hfin, KP7.out, NW7.out⟩

end Go.Proofs.Ytfllbdpdfgkkaaa
