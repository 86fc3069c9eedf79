/- Contracts: ways of words of rings, by the program. -/
import Derived.Test.YtdgmlgdijdehjaaWay
namespace Go.Proofs.Ytdgmlgdijdehjaa
open Go.RowKit
set_option linter.unusedVariables false

set_option maxHeartbeats 400000 in
theorem equalR_calls (A A' : Option Addr) (n c n' c' : Nat) (L L' : List Int) (w : World) (hL : L.length = n) (hL' : L'.length = n') (hn : n ≤ 1048576) (hn' : n' ≤ 1048576) (hI : Ints w A L) (hI' : Ints w A' L') :
    Calls Try.prog 35 #[.slice A n c, .slice A' n' c'] w fun e w' => e = .returned (.bool (decide (L = L'))) ∧ ∃ m, w' = w.drewN m := by
  have HL : Hid (L.length = n) := hL
  have HL' : Hid (L'.length = n') := hL'
  clear hL hL'
  by_cases hne : n = n'
  · subst hne
    go_enter Try.func35, Try.ntmps35
    go_wp2
    go_loopw [5, 13] (fun _ i wr => ∃ k : Nat, k ≤ n ∧ i = .int .i64 k ∧ (∀ j, j < k → L.getD j 0 = L'.getD j 0) ∧ ∃ m, wr = w.drewN m) (fun _ i _ => n - (intOf i).toNat)
    case atStart => exact ⟨0, Nat.zero_le _, rfl, fun j hj => absurd hj (by omega), 0, rfl⟩
    case round =>
      obtain ⟨k, hk, rfl, hsame, m, rfl⟩ := hrel
      have HS := Lib.hid hsame
      clear hsame
      by_cases hlt : k < n
      · obtain ⟨ad, rfl, had, hc⟩ := hI k (by rw [HL.out]; exact hlt)
        obtain ⟨ad', rfl, had', hc'⟩ := hI' k (by rw [HL'.out]; exact hlt)
        go_wp2_with fail
        go_quiet (fail)
        go_wp2
        · have hd : (L[k]?.getD 0 != L'[k]?.getD 0) = true := by assumption
          go_ret
          exact ⟨ret_bool (by
            symm
            rw [decide_eq_false_iff_not]
            rintro rfl
            simp at hd), by first | exact ⟨_, rfl⟩ | exact ⟨_, World.drewN_drewN _ _ _⟩⟩
        · have hd : (L[k]?.getD 0 != L'[k]?.getD 0) = false := by assumption
          go_roundw
          case rel => exact ⟨k + 1, by omega, by go_num, fun j hj => by
            by_cases hjk : j = k
            · subst hjk; simpa using hd
            · exact HS.out j (by omega), by first | exact ⟨_, rfl⟩ | exact ⟨_, World.drewN_drewN _ _ _⟩⟩
          case measure => simp [intOf]; omega
      · obtain rfl : k = n := by omega
        go_wp2
        go_ret
        exact ⟨ret_bool (by
          symm
          rw [decide_eq_true_iff]
          exact list_ext HL.out HL'.out HS.out), _, rfl⟩
  · have hd : ((n : Int) != (n' : Int)) = true := by simp; omega
    go_enter Try.func35, Try.ntmps35
    go_wp2
    go_ret
    exact ⟨ret_bool (list_ne_len HL.out HL'.out hne).symm, 0, rfl⟩


theorem Ints.drawsR {w : World} {A : Option Addr} {L : List Int} (h : Ints w A L) (m : Nat) : Ints (w.drewN m) A L := h
theorem Box.drawsN {w : World} {b t : Nat} {cs : Array Value} (h : Box w b t cs) (m : Nat) : Box (w.drewN m) b t cs := h
theorem ret_intW {a b : Int} (h : a = b) : Ending.returned (.int .i64 a) = .returned (.int .i64 b) := by rw [h]
theorem firstChoice_calls (r s : Nat) (w : World) (hr : r ≤ 65536) (hs : s ≤ 65536) :
    Calls Try.prog 33 #[.int .i64 r, .int .i64 s] w fun e w' => e = .returned (.int .i64 (((if r < s then r else r + 1) % 2 : Nat) : Int)) ∧ w = w' := by
  by_cases h : r < s
  · go_enter Try.func33, Try.ntmps33
    go_wp2
    go_ret
    exact ⟨ret_intW (by omega), rfl⟩
  · go_enter Try.func33, Try.ntmps33
    go_wp2
    go_ret
    exact ⟨ret_intW (by omega), rfl⟩

/-- Both words lie in one row. -/
theorem both_ints {w : World} {B n c : Nat} {A A0 A1 : Option Addr} {N M : List Int} (h : OwnG 2 1 B w A (n + n) c ((N ++ M).map (Value.int .i64))) (hN : N.length = n) (hM : M.length = n) (hA : 0 < n → ∃ R, A = some ⟨R, 0, none⟩ ∧ A0 = some ⟨R, 0, none⟩ ∧ A1 = some ⟨R, n, none⟩) : Ints w A0 N ∧ Ints w A1 M := by
  have key : ∀ (R j : Nat), A = some ⟨R, 0, none⟩ → j < n + n → R < w.heap.size ∧ w.cell? ⟨R, j, none⟩ = some (.int .i64 ((N ++ M).getD j 0)) := by
    intro R j hR hj
    obtain ⟨g, hg, _, hlt, hc⟩ := h.cell j (by omega)
    rw [hR] at hg
    injection hg with hg
    injection hg with hg
    subst hg
    refine ⟨hlt, ?_⟩
    rw [hc, List.getElem?_map, List.getElem?_eq_getElem (by rw [List.length_append]; omega), List.getD_eq_getElem?_getD, List.getElem?_eq_getElem (by rw [List.length_append]; omega)]
    rfl
  constructor
  · intro k hk
    obtain ⟨R, hR, h0, h1⟩ := hA (by omega)
    obtain ⟨k1, k2⟩ := key R k hR (by omega)
    refine ⟨_, h0, k1, ?_⟩
    have e : (⟨R, 0, none⟩ : Addr).add k = ⟨R, k, none⟩ := by
      unfold Addr.add
      split
      · next h0 => rw [h0]
      · simp
    rw [e, k2, List.getD_eq_getElem?_getD, List.getElem?_append_left hk, ← List.getD_eq_getElem?_getD]
  · intro k hk
    obtain ⟨R, hR, h0, h1⟩ := hA (by omega)
    obtain ⟨k1, k2⟩ := key R (n + k) hR (by omega)
    refine ⟨_, h1, k1, ?_⟩
    have e : (⟨R, n, none⟩ : Addr).add k = ⟨R, n + k, none⟩ := by
      unfold Addr.add
      split
      · next h0 => subst h0; rfl
      · rfl
    rw [e, k2, List.getD_eq_getElem?_getD, List.getElem?_append_right (by omega), ← List.getD_eq_getElem?_getD, hN]
    congr 3
    omega

theorem row_turn {w : World} {B n c j R : Nat} {N M : List Int} (h : OwnG 2 1 B w (some ⟨R, 0, none⟩) (n + n) c ((N ++ M).map (Value.int .i64))) (hN : N.length = n) (hj : j < n) :
    OwnG 2 1 B (w.setCell ⟨R, 0 + j, none⟩ (.int .i64 (1 - N[j]?.getD 0))) (some ⟨R, 0, none⟩) (n + n) c ((turnL N j ++ M).map (Value.int .i64)) := by
  obtain ⟨s1, _⟩ := World.ownsRow.stored h j (.int .i64 (1 - N[j]?.getD 0))
  rw [Nat.zero_add]
  have e : ((N ++ M).map (Value.int .i64)).set j (.int .i64 (1 - N[j]?.getD 0)) = (turnL N j ++ M).map (Value.int .i64) := by
    rw [← List.map_set, List.set_append_left _ _ (by omega)]
    rfl
  rw [e] at s1
  exact s1
theorem size_setCell (w : World) (a : Addr) (v : Value) : (w.setCell a v).heap.size = w.heap.size := by simp [World.setCell]
/-- A row that is not the one appended to. -/
theorem OwnG.grown_apart {e e' size size' B B' : Nat} {w w1 : World} {o : Obj} {A A' : Option Addr} {n c n' c' : Nat} {xs xs' : List Value} (h : OwnG e size B w A n c xs) (h' : OwnG e' size' B' w A' n' c' xs') (hg : (w.alloc o).grownBy w1 (Value.slice A' n' c').ownBlock) (hne : ∀ g, A = some ⟨g, 0, none⟩ → g < B') : OwnG e size B w1 A n c xs := by
  refine (h.alloc o).kept hg ?_
  intro g hA hr
  rcases h'.form with ⟨rfl, rfl, rfl⟩ | ⟨g', rfl, hB, _⟩
  · simp [Value.ownBlock] at hr
  · simp only [Value.ownBlock, Option.some.injEq] at hr
    have := hne g hA
    omega

/-- A walk through the ranks: the rank, the choice and the list behind k steps, T steps in all. -/
structure Walkd (n s : Nat) (T : Nat) (f g cc : Nat → Nat) (P : Nat → List Int) : Prop where
  step : ∀ k, k < T → ∀ N : List Int, (∀ x ∈ N, 0 ≤ x ∧ x ≤ 1) → N.length = n → rkL N = (f k : Int) → cc k < n ∧ rkL (turnL N (cc k)) = (f (k + 1) : Int) ∧ (g k = 0 → cc k = 0) ∧ (g k = 1 → ixN 1 N + 1 = cc k)
  list : ∀ k, k < T → P (k + 1) = P k ++ [(cc k : Int)]
  len : ∀ k, (P k).length = k
  zero : P 0 = []
  bit : ∀ k, g k = 0 ∨ g k = 1
  next : ∀ k, k < T → g (k + 1) + g k = 1
  ne : ∀ k, k < T → f k ≠ s
  last : f T = s
  most : T ≤ 65536

set_option maxRecDepth 100000 in
set_option maxHeartbeats 4000000 in
theorem wayI_core (ad : Addr) (n c : Nat) (L : List Int) (bd : Addr) (d : Nat) (M : List Int) (w : World) (hL : L.length = n) (hI : Ints w (some ad) L) (hM : M.length = n) (hJ : Ints w (some bd) M) (hE : rdE L M = 0)
    (r s : Nat) (hr : rkL L = (r : Int)) (hs : rkL M = (s : Int)) (T : Nat) (f g cz : Nat → Nat) (P : Nat → List Int) (hW : Walkd n s T f g cz P) (hf : f 0 = r) (hg : 0 < T → (if r < s then r else r + 1) % 2 = g 0) :
    Calls Try.prog 16 #[.slice (some ad) n c, .slice (some bd) n d] w (RetInts w T (P T) 0) := by
  obtain ⟨i0, hi, hz0, hz1, hz2⟩ := info_parts Try.infoI
  obtain ⟨h1, h2, h3⟩ := rdE_inv hE
  have hn16 : n ≤ 16 := by have := rgB_len h1; omega
  have b1 := rk_bd0 h1
  have b2 := rk_bd0 h2
  rw [hr] at b1
  rw [hs] at b2
  have HL := Lib.hid hL
  have HM := Lib.hid hM
  have HE := Lib.hid hE
  have HR := Lib.hid hr
  have HS := Lib.hid hs
  have HW := Lib.hid hW
  have HF := Lib.hid hf
  have HG := Lib.hid hg
  have R1 := Lib.hid (rg_mem h1)
  have R2 := Lib.hid (rg_mem h2)
  have HX0 := Lib.hid (Box.new w 22 #[.slice (some ad) n c, .slice (some bd) n d])
  have HB0 := Lib.hid ((Below.refl w.heap.size w).alloc (Nat.le_refl _) (.cells #[.slice (some ad) n c, .slice (some bd) n d] 22))
  have HI0 := Lib.hid (hI.below HB0.out)
  have HJ0 := Lib.hid (hJ.below HB0.out)
  have H1 := Lib.hid h1
  have H2 := Lib.hid h2
  clear hL hM hE hr hs hW hf hg h1 h2 h3
  go_enter Try.func16, Try.ntmps16
  go_wp2_with fail
  generalize w.alloc (.cells #[.slice (some ad) n c, .slice (some bd) n d] 22) = W0 at *
  refine (codeOfRings_two w.heap.size (some ad) n c L (some bd) n d M _ HX0.out HL.out (by omega) HI0.out HM.out (by omega) HJ0.out).mono ?_
  rintro e w1 ⟨rfl, hb⟩
  rw [HE.out]
  have HB1 := Lib.hid (HB0.out.trans (hb.mono HB0.out.size))
  have HI1 := Lib.hid (HI0.out.below hb)
  have HJ1 := Lib.hid (HJ0.out.below hb)
  clear hb HX0 HB0 HI0 HJ0
  have HB2 := Lib.hid (HB1.out.alloc HB1.out.size (.cells #[.slice (some ad) n c, .slice (some bd) n d] 22))
  have HWD : Hid (WdsAt (w1.alloc (.cells #[.slice (some ad) n c, .slice (some bd) n d] 22)) w1.heap.size [⟨ad, n, c, L⟩, ⟨bd, n, d, M⟩]) := by
    refine ⟨Box.new w1 _ _, fun x hx => ?_⟩
    have hal : Below w1.heap.size w1 (w1.alloc (.cells #[.slice (some ad) n c, .slice (some bd) n d] 22)) := (Below.refl _ _).alloc (Nat.le_refl _) _
    rcases List.mem_cons.1 hx with rfl | hx
    · exact ⟨HL.out, hn16, HI1.out.below hal⟩
    · rw [List.mem_singleton] at hx
      subst hx
      exact ⟨HM.out, hn16, HJ1.out.below hal⟩
  go_wp2_with fail
  refine (copiesOf_calls w1.heap.size 2 [⟨ad, n, c, L⟩, ⟨bd, n, d, M⟩] 2 _ rfl (by omega) HWD.out).mono ?_
  rintro e w2 ⟨C, cc, A, c1, vs, rfl, hC, hV, hO, hb⟩
  obtain ⟨A0, hv0, hA0⟩ := hV 0 ⟨ad, n, c, L⟩ rfl
  obtain ⟨A1, hv1, hA1⟩ := hV 1 ⟨bd, n, d, M⟩ rfl
  simp only [catL, List.map_nil, List.take_zero, List.flatten_nil, List.length_nil, List.map_cons, List.flatten_cons, List.append_nil, List.take_succ_cons, List.length_append] at hv0 hv1 hO hA0 hA1
  rw [HL.out] at hO hA1
  rw [HM.out] at hO
  have HAA : Hid (0 < n → ∃ R, A = some ⟨R, 0, none⟩ ∧ A0 = some ⟨R, 0, none⟩ ∧ A1 = some ⟨R, n, none⟩) := by
    intro h
    obtain ⟨R, e1, e2⟩ := hA0 h
    obtain ⟨R', e3, e4⟩ := hA1 h
    rw [e1] at e3
    injection e3 with e3
    injection e3 with e3
    subst e3
    exact ⟨R, e1, e2, e4⟩
  obtain ⟨g0, rfl, hg1, hg2, hcell0⟩ := hC.cell 0 (by omega)
  obtain ⟨_, hq, _, _, hcell1⟩ := hC.cell 1 (by omega)
  injection hq with hq
  injection hq with hq
  subst hq
  rw [hv0] at hcell0
  rw [hv1] at hcell1
  have hsz := HB2.out.size
  have HB3 := Lib.hid (HB2.out.trans (hb.mono hsz))
  have HO := Lib.hid (OwnG.mono hO hsz)
  clear hV hv0 hv1 hA0 hA1 hC hO hb HB1 HB2 HI1 HJ1 HWD
  go_wp2_with fail
  go_quiet (fail)
  have HB4 := Lib.hid (belowDraws HB3.out nq)
  have HO4 := Lib.hid (OwnG.draws HO.out nq)
  clear HB3 HO hcell0 hcell1 hsz
  have hg3 : g0 < (w2.drewN nq).heap.size := hg2
  clear hg2
  generalize w2.drewN nq = w3 at *
  have HI := Lib.hid (both_ints HO4.out HL.out HM.out HAA.out)
  go_wp2_with fail
  refine (ringChoices_calls _).mono ?_
  rintro e w4 ⟨rfl, hb⟩
  have HI4 := Lib.hid (And.intro (HI.out.1.below hb) (HI.out.2.below hb))
  have HB5 := Lib.hid (HB4.out.trans (hb.mono HB4.out.size))
  have HO5 := Lib.hid (HO4.out.below hb)
  clear hb HI HB4 HO4
  go_wp2_with fail
  refine (rankOfRings_calls A0 n n L _ HL.out HI4.out.1 H1.out).mono ?_
  rintro e w5 ⟨rfl, hb⟩
  rw [HR.out]
  have HI5 := Lib.hid (HI4.out.2.below hb)
  have HB6 := Lib.hid (HB5.out.trans (hb.mono HB5.out.size))
  have HO6 := Lib.hid (HO5.out.below hb)
  clear hb HI4 HB5 HO5
  go_wp2_with fail
  refine (rankOfRings_calls A1 n n M _ HM.out HI5.out H2.out).mono ?_
  rintro e w6 ⟨rfl, hb⟩
  rw [HS.out]
  have HB7 := Lib.hid (HB6.out.trans (hb.mono HB6.out.size))
  have HO7 := Lib.hid (HO6.out.below hb)
  clear hb HI5 HB6 HO6
  go_wp2_with fail
  refine (firstChoice_calls r s _ (by omega) (by omega)).mono ?_
  rintro e w' ⟨rfl, rfl⟩
  obtain ⟨g00, hg00⟩ : ∃ g00 : Nat, (if r < s then r else r + 1) % 2 = g00 := ⟨_, rfl⟩
  have HG0 : Hid (0 < T → g00 = g 0) := by intro h; rw [← hg00]; exact HG.out h
  rw [hg00]
  clear hg00 HG
  have HK := Lib.hid (Box.new w6 43 #[.func (.func 42) #[] #[], .func (.func 43) #[] #[]])
  have HB8 := Lib.hid (HB7.out.alloc HB7.out.size (.cells #[.func (.func 42) #[] #[], .func (.func 43) #[] #[]] 43))
  have HO8 := Lib.hid (HO7.out.alloc (.cells #[.func (.func 42) #[] #[], .func (.func 43) #[] #[]] 43))
  have hK : w.heap.size ≤ w6.heap.size := HB7.out.size
  have hRl : Hid (∀ R, A = some ⟨R, 0, none⟩ → w.heap.size ≤ R ∧ R < w6.heap.size) := by
    intro R hR
    rcases HO7.out.form with ⟨e, _⟩ | ⟨g', e, h1, h2⟩
    · rw [e] at hR; cases hR
    · rw [e] at hR; injection hR with hR; injection hR with hR; subst hR; exact ⟨h1, h2⟩
  clear HB7 HO7
  go_wp2_with fail
  generalize hK6 : w6.heap.size = K at *
  generalize w6.alloc (.cells #[.func (.func 42) #[] #[], .func (.func 43) #[] #[]] 43) = w7 at *
  have hK7 := HK.out.lt
  have HKK := Lib.hid hK6
  clear hK6
  go_loopw [10, 12, 13, 14] (fun v ch _ _ wr => ∃ (k : Nat) (N : List Int), k ≤ T ∧ Hid (∀ x ∈ N, 0 ≤ x ∧ x ≤ 1) ∧ Hid (N.length = n) ∧ Hid (rkL N = (f k : Int)) ∧ (∃ gk : Nat, ch = .int .i64 gk ∧ Hid (k < T → gk = g k)) ∧ (∃ AA cw, v = .slice AA k cw ∧ OwnG 2 1 (K + 1) wr AA k cw ((P k).map (Value.int .i64))) ∧ OwnG 2 1 w.heap.size wr A (n + n) c1 ((N ++ M).map (Value.int .i64)) ∧ Box wr K 43 #[.func (.func 42) #[] #[], .func (.func 43) #[] #[]] ∧ Below w.heap.size w wr ∧ K < wr.heap.size) (fun v _ _ _ _ => T - lenV v)
  case atStart => exact ⟨0, L, Nat.zero_le _, R1.out, HL.out, by unfold Hid; rw [HF.out]; exact HR.out, ⟨g00, rfl, HG0.out⟩, ⟨none, 0, rfl, by rw [HW.out.zero]; exact OwnG.nilS _ _ _ _⟩, HO8.out, HK.out, HB8.out, hK7⟩
  case round =>
    obtain ⟨k, N, hk, HNB, HNL, HNR, ⟨gk, rfl, hgk⟩, ⟨AA, cw, rfl, hV⟩, hO, hKb, hb, hKs⟩ := hrel
    have HI := Lib.hid (both_ints hO HNL.out HM.out HAA.out)
    have HV := Lib.hid hV
    have HO := Lib.hid hO
    have HKb := Lib.hid hKb
    have HBr := Lib.hid hb
    clear hV hO hKb hb
    by_cases hlt : k < T
    · obtain ⟨t1, t2, t3, t4⟩ := HW.out.step k hlt N HNB.out HNL.out HNR.out
      have hdec : Hid (decide (N = M) = false) := by
        unfold Hid
        rw [decide_eq_false_iff_not]
        intro e
        have h1 := HNR.out
        rw [e, HS.out] at h1
        have := HW.out.ne k hlt
        omega
      have T2 := Lib.hid t2
      have T3 := Lib.hid t3
      have T4 := Lib.hid t4
      clear t2 t3 t4
      go_wp2_with fail
      refine (equalR_calls A0 A1 n n n n N M _ HNL.out HM.out (by omega) (by omega) HI.out.1 HI.out.2).mono ?_
      rintro e w' ⟨rfl, mq, rfl⟩
      rw [hdec.out]
      have HVd := Lib.hid (OwnG.draws HV.out mq)
      have HOd := Lib.hid (OwnG.draws HO.out mq)
      have HKd := Lib.hid (Box.drawsN HKb.out mq)
      have HBd := Lib.hid (belowDraws HBr.out mq)
      have HId := Lib.hid (Ints.drawsR HI.out.1 mq)
      have hKd : K < (wr.drewN mq).heap.size := hKs
      clear HV HO HKb HBr HI hKs hdec
      generalize wr.drewN mq = wq at *
      have hn0 : 0 < n := by omega
      obtain ⟨R, hA, hA0, hA1⟩ := HAA.out hn0
      obtain ⟨hRw, hRK⟩ := hRl.out R hA
      have hgk2 := hgk.out hlt
      obtain ⟨j, hcz⟩ : ∃ j, cz k = j := ⟨_, rfl⟩
      rw [hcz] at t1 T2 T3 T4
      have hjn : j < n := t1
      have ht2 := T2
      have hbit : 0 ≤ N[j]?.getD 0 ∧ N[j]?.getD 0 ≤ 1 := by
        have hjl : j < N.length := by rw [HNL.out]; exact hjn
        have hm := HNB.out (N[j]'hjl) (List.getElem_mem hjl)
        rw [List.getElem?_eq_getElem hjl]
        exact hm
      have HCZ := Lib.hid hcz
      subst hA hA0 hA1
      have hcell : wq.cell? ⟨R, 0 + j, none⟩ = some (.int .i64 (N[j]?.getD 0)) := by
        obtain ⟨_, e0, _, h⟩ := HId.out j (by rw [HNL.out]; exact hjn)
        injection e0 with e0
        subst e0
        rw [List.getD_eq_getElem?_getD] at h
        rw [Nat.zero_add, ← h]
        congr 1
        unfold Addr.add
        split
        · next h0 => rw [h0]
        · simp
      have hfz : wq.frozen? ⟨R, 0 + j, none⟩ = false := OwnG.frozen HOd.out rfl _
      have HIq := HId
      clear HId
      rcases HW.out.bit k with hb0 | hb1
      · have e1 : gk = 0 := by omega
        have e2 : j = 0 := T3.out hb0
        have HGV := Lib.hid hb0
        have HGK := Lib.hid hgk2
        clear hb0 hgk2
        subst e1 e2
        have d0 : Hid (decide (0 < n) = true) := by unfold Hid; simpa using hn0
        obtain ⟨k0, k1, _, _⟩ := HKd.out.two
        go_wp2_with fail
        refine (first_calls (some ⟨R, 0, none⟩) n n _).mono ?_
        rintro e w' ⟨rfl, rfl⟩
        rw [d0.out]
        clear k0 k1
        go_wp2_with fail
        refine (turnRing_calls R 0 n n 0 _ _ hjn hn16 hcell hfz hbit).mono ?_
        rintro e w' ⟨rfl, rfl⟩
        have HO9 : Hid (OwnG 2 1 w.heap.size (wq.setCell ⟨R, 0 + 0, none⟩ (.int .i64 (1 - N[0]?.getD 0))) (some ⟨R, 0, none⟩) (n + n) c1 ((turnL N 0 ++ M).map (Value.int .i64))) := row_turn HOd.out HNL.out hjn
        have HV9 := Lib.hid (OwnG.setBelow HVd.out (a := ⟨R, 0 + 0, none⟩) (by show R < K + 1; omega) (.int .i64 (1 - N[0]?.getD 0)))
        have HK9 := Lib.hid (HKd.out.other (a := ⟨R, 0 + 0, none⟩) (by show K ≠ R; omega) (.int .i64 (1 - N[0]?.getD 0)))
        have HB9 : Hid (Below w.heap.size w (wq.setCell ⟨R, 0 + 0, none⟩ (.int .i64 (1 - N[0]?.getD 0)))) := HBd.out.setCell hRw _
        have hS9 : K < (wq.setCell ⟨R, 0 + 0, none⟩ (.int .i64 (1 - N[0]?.getD 0))).heap.size := by rw [size_setCell]; exact hKd
        clear HOd HVd HKd HBd hKd hcell hfz
        generalize wq.setCell ⟨R, 0 + 0, none⟩ (.int .i64 (1 - N[0]?.getD 0)) = ws at *
        have hst := Lib.hid (HW.out.list k hlt)
        have hpl := Lib.hid (HW.out.len k)
        have hnx := Lib.hid (HW.out.next k hlt)
        have hmo := HW.out.most
        rw [hcz] at hst
        generalize hPP : P k = PK at *
        have HPP := Lib.hid hPP
        clear hPP
        go_wp2_with (at_builtin; refine wpList_append_own _ rfl _ _ 22 rfl (K + 1) 2 i0 (.int .i64 0) 1 8 Try.underlying22 hi hz0 hz1 hz2 rfl (by decide) _ _ _ rfl (HV9.out.alloc _) ⟨ws.heap.size, 0, none⟩ 1 1 [.int .i64 0] rfl rfl (cell_one_new _ _ _) (by simp [Value.oneCell']) (by unfold maxLen; omega) (by omega) (by simp; omega) ?_; intro v' w4 hown' hgrow _; obtain ⟨A4, c4, rfl⟩ := ownG_shape hown'; have HV4 := Lib.hid hown'; have HO4 := Lib.hid (OwnG.grown_apart HO9.out HV9.out hgrow (fun g hg => by injection hg with hg; injection hg with hg; omega)); have HK4 := Lib.hid (OwnG.grown_box HV9.out hgrow HK9.out (by decide)); have HB4 := Lib.hid (HB9.out.trans (OwnG.grown_below HV9.out hgrow (by omega) HB9.out.size)); have hs4 := hgrow.size; clear hown' hgrow)
        go_roundw
        case rel =>
          refine ⟨k + 1, turnL N 0, by omega, turn_bits HNB.out, by unfold Hid; rw [turnL_len]; exact HNL.out, ht2, ⟨1 - 0, by rfl, fun h => by have := hnx.out; have := HGV.out; omega⟩, ⟨A4, c4, rfl, ?_⟩, HO4.out, HK4.out, HB4.out, by simp at hs4; omega⟩
          rw [hst.out, List.map_append]
          exact HV4.out
        case measure => simp [lenV]; omega

      · have e1 : gk = 1 := by omega
        have e2 : ixN 1 N + 1 = j := T4.out hb1
        have HGV := Lib.hid hb1
        have HGK := Lib.hid hgk2
        clear hb1 hgk2
        subst e1
        have d1 : Hid (decide (ixN 1 N + 1 < n) = true) := by unfold Hid; rw [decide_eq_true_iff]; omega
        have hbl : Hid (blV N = (j : Int)) := by unfold Hid blV; rw [HNL.out, if_pos (by omega)]; omega
        have HE2 := Lib.hid e2
        clear e2
        obtain ⟨k0, k1, _, _⟩ := HKd.out.two
        go_wp2_with fail
        refine (behindLeast_calls (some ⟨R, 0, none⟩) n n N _ HNL.out (by omega) HIq.out).mono ?_
        rintro e w' ⟨rfl, rfl⟩
        rw [hbl.out, d1.out]
        clear k0 k1
        go_wp2_with fail
        refine (turnRing_calls R 0 n n j _ _ hjn hn16 hcell hfz hbit).mono ?_
        rintro e w' ⟨rfl, rfl⟩
        have HO9 : Hid (OwnG 2 1 w.heap.size (wq.setCell ⟨R, 0 + j, none⟩ (.int .i64 (1 - N[j]?.getD 0))) (some ⟨R, 0, none⟩) (n + n) c1 ((turnL N j ++ M).map (Value.int .i64))) := row_turn HOd.out HNL.out hjn
        have HV9 := Lib.hid (OwnG.setBelow HVd.out (a := ⟨R, 0 + j, none⟩) (by show R < K + 1; omega) (.int .i64 (1 - N[j]?.getD 0)))
        have HK9 := Lib.hid (HKd.out.other (a := ⟨R, 0 + j, none⟩) (by show K ≠ R; omega) (.int .i64 (1 - N[j]?.getD 0)))
        have HB9 : Hid (Below w.heap.size w (wq.setCell ⟨R, 0 + j, none⟩ (.int .i64 (1 - N[j]?.getD 0)))) := HBd.out.setCell hRw _
        have hS9 : K < (wq.setCell ⟨R, 0 + j, none⟩ (.int .i64 (1 - N[j]?.getD 0))).heap.size := by rw [size_setCell]; exact hKd
        clear HOd HVd HKd HBd hKd hcell hfz
        generalize wq.setCell ⟨R, 0 + j, none⟩ (.int .i64 (1 - N[j]?.getD 0)) = ws at *
        have hst := Lib.hid (HW.out.list k hlt)
        have hpl := Lib.hid (HW.out.len k)
        have hnx := Lib.hid (HW.out.next k hlt)
        have hmo := HW.out.most
        rw [hcz] at hst
        generalize hPP : P k = PK at *
        have HPP := Lib.hid hPP
        clear hPP
        go_wp2_with (at_builtin; refine wpList_append_own _ rfl _ _ 22 rfl (K + 1) 2 i0 (.int .i64 0) 1 8 Try.underlying22 hi hz0 hz1 hz2 rfl (by decide) _ _ _ rfl (HV9.out.alloc _) ⟨ws.heap.size, 0, none⟩ 1 1 [.int .i64 j] rfl rfl (cell_one_new _ _ _) (by simp [Value.oneCell']) (by unfold maxLen; omega) (by omega) (by simp; omega) ?_; intro v' w4 hown' hgrow _; obtain ⟨A4, c4, rfl⟩ := ownG_shape hown'; have HV4 := Lib.hid hown'; have HO4 := Lib.hid (OwnG.grown_apart HO9.out HV9.out hgrow (fun g hg => by injection hg with hg; injection hg with hg; omega)); have HK4 := Lib.hid (OwnG.grown_box HV9.out hgrow HK9.out (by decide)); have HB4 := Lib.hid (HB9.out.trans (OwnG.grown_below HV9.out hgrow (by omega) HB9.out.size)); have hs4 := hgrow.size; clear hown' hgrow)
        go_roundw
        case rel =>
          refine ⟨k + 1, turnL N j, by omega, turn_bits HNB.out, by unfold Hid; rw [turnL_len]; exact HNL.out, ht2, ⟨1 - 1, by rfl, fun h => by have := hnx.out; have := HGV.out; omega⟩, ⟨A4, c4, rfl, ?_⟩, HO4.out, HK4.out, HB4.out, by simp at hs4; omega⟩
          rw [hst.out, List.map_append]
          exact HV4.out
        case measure => simp [lenV]; omega

    · obtain rfl : k = T := by omega
      have hdec : Hid (decide (N = M) = true) := by
        unfold Hid
        rw [decide_eq_true_iff]
        refine rk_inj HNB.out R2.out (by rw [HNL.out, HM.out]) ?_
        rw [HNR.out, HS.out, HW.out.last]
      go_wp2_with fail
      refine (equalR_calls A0 A1 n n n n N M _ HNL.out HM.out (by omega) (by omega) HI.out.1 HI.out.2).mono ?_
      rintro e w' ⟨rfl, mq, rfl⟩
      rw [hdec.out]
      have HVd := Lib.hid (OwnG.draws HV.out mq)
      have HBd := Lib.hid (belowDraws HBr.out mq)
      clear HV HO HKb HBr HI hKs hdec
      generalize wr.drewN mq = wq at *
      go_wp2
      go_ret2
      exact ⟨AA, cw, rfl, OwnG.mono HVd.out (by omega), HBd.out⟩

theorem walkd_up {n r s : Nat} (hrs : r ≤ s) (hs : s + 1 ≤ 2 ^ n) (hm : s ≤ 65535) : Walkd n s (s - r) (fun k => r + k) (fun k => (r + k) % 2) (fun k => ctz (r + k + 1)) (upL r) where
  step := fun k hk N hb hl hr => by
    obtain ⟨t1, t2, t3⟩ := step_up N (r + k) hb hr (by rw [hl]; omega)
    rw [hl] at t1
    refine ⟨t1, ?_, fun h => ctz_odd (by omega), fun h => t3 ?_⟩
    · rw [t2]; omega
    · show 0 < ctz (r + k + 1)
      rw [ctz_even (by omega) (by omega)]
      omega
  list := fun k _ => rfl
  len := upL_len r
  zero := rfl
  bit := fun k => by omega
  next := fun k _ => by omega
  ne := fun k hk => by omega
  last := by omega
  most := by omega
theorem walkd_down {n r s : Nat} (hrs : s < r) (hm : r ≤ 65535) : Walkd n s (r - s) (fun k => r - k) (fun k => (r - k + 1) % 2) (fun k => ctz (r - k)) (downL r) where
  step := fun k hk N hb hl hr => by
    obtain ⟨t1, t2, t3⟩ := step_down N (r - k) hb hr (by omega)
    rw [hl] at t1
    refine ⟨t1, ?_, fun h => ctz_odd (by omega), fun h => t3 ?_⟩
    · rw [t2]; omega
    · show 0 < ctz (r - k)
      rw [ctz_even (by omega) (by omega)]
      omega
  list := fun k _ => rfl
  len := downL_len r
  zero := rfl
  bit := fun k => by omega
  next := fun k hk => by omega
  ne := fun k hk => by omega
  last := by omega
  most := by omega

theorem implWayOfRings_ret (ad : Addr) (n c : Nat) (L : List Int) (bd : Addr) (m d : Nat) (M : List Int) (w : World) (hL : L.length = n) (hn : n ≤ 1048576) (hI : Ints w (some ad) L) (hM : M.length = m) (hm : m ≤ 1048576) (hJ : Ints w (some bd) M) :
    Calls Try.prog 16 #[.slice (some ad) n c, .slice (some bd) m d] w (RetInts w (wyV L M).length (wyV L M) (rdE L M)) := by
  by_cases h : rdE L M = 0
  · obtain ⟨h1, h2, h3⟩ := rdE_inv h
    have b1 := rk_bd0 h1
    have b2 := rk_bd0 h2
    have p2 := (rk_bd M (rg_mem h2)).2.2
    obtain ⟨r, hr⟩ := Int.eq_ofNat_of_zero_le b1.1
    obtain ⟨s, hs⟩ := Int.eq_ofNat_of_zero_le b2.1
    rw [hr] at b1
    rw [hs] at b2 p2
    obtain rfl : n = m := by omega
    rw [wy_yes h hr hs, wayL_len, h]
    by_cases hrs : r ≤ s
    · have e1 : wayL r s = upL r (s - r) := by unfold wayL; rw [if_pos hrs]
      have e2 : s - r + (r - s) = s - r := by omega
      rw [e1, e2]
      have hp : s + 1 ≤ 2 ^ n := by
        rw [hM] at p2
        have : ((2 ^ n : Nat) : Int) = (2 : Int) ^ n := by simp
        omega
      exact wayI_core ad n c L bd d M w hL hI hM hJ h r s hr hs (s - r) _ _ _ _ (walkd_up hrs hp (by omega)) rfl (fun h0 => by
        show (if r < s then r else r + 1) % 2 = (r + 0) % 2
        rw [if_pos (by omega), Nat.add_zero])
    · have e1 : wayL r s = downL r (r - s) := by unfold wayL; rw [if_neg hrs]
      have e2 : s - r + (r - s) = r - s := by omega
      rw [e1, e2]
      exact wayI_core ad n c L bd d M w hL hI hM hJ h r s hr hs (r - s) _ _ _ _ (walkd_down (by omega) (by omega)) rfl (fun h0 => by
        show (if r < s then r else r + 1) % 2 = (r - 0 + 1) % 2
        rw [if_neg (by omega), Nat.sub_zero])
  · have hb : (rdE L M != 0) = true := by simpa using h
    have H := Lib.hid (wy_no h)
    have HX := Lib.hid (Box.new w 22 #[.slice (some ad) n c, .slice (some bd) m d])
    have HB := Lib.hid ((Below.refl w.heap.size w).alloc (Nat.le_refl _) (.cells #[.slice (some ad) n c, .slice (some bd) m d] 22))
    have HI := Lib.hid (hI.below HB.out)
    have HJ := Lib.hid (hJ.below HB.out)
    clear h
    go_enter Try.func16, Try.ntmps16
    go_wp2_with fail
    generalize w.alloc (.cells #[.slice (some ad) n c, .slice (some bd) m d] 22) = W at *
    refine (codeOfRings_two w.heap.size (some ad) n c L (some bd) m d M _ HX.out hL hn HI.out hM hm HJ.out).mono ?_
    rintro e w1 ⟨rfl, hb1⟩
    have HB1 := Lib.hid (HB.out.trans (hb1.mono HB.out.size))
    clear hb1
    go_wp2
    go_ret2
    rw [H.out]
    exact retInts_zero rfl HB1.out

end Go.Proofs.Ytdgmlgdijdehjaa
