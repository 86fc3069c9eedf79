/- Contracts of the program's heaps: what is no heap is a panic, which the door turns into a code. -/
import Derived.Test.YtpiglaolofddfaaDoorHpI
import Derived.WalkLawsBesides
namespace Go.Proofs.YtpiglaolofddfaaDoor
open Go.RowKit
set_option linter.unusedVariables false

/-- The places of stacks: from the top down, then ground. -/
def Zs (S : Nat → List Int) (k : Nat) : Int := (S (k / 4)).reverse[k % 4]?.getD 4
/-- The first stacks, and a part of the next one. -/
def preS (LL : List (List Int)) (a i p : Nat) : List Int := if p < a then LL[p]?.getD [] else if p = a then (LL[a]?.getD []).take i else []
theorem preS_zero (LL : List (List Int)) (p : Nat) : preS LL 0 0 p = [] := by unfold preS; rw [if_neg (by omega)]; split <;> simp
theorem preS_next {LL : List (List Int)} {a : Nat} {l : List Int} (h : LL[a]? = some l) (p : Nat) : preS LL a l.length p = preS LL (a + 1) 0 p := by
  unfold preS
  by_cases h1 : p < a
  · rw [if_pos h1, if_pos (by omega)]
  · rw [if_neg h1]
    by_cases h2 : p = a
    · subst h2; rw [if_pos rfl, if_pos (by omega), h, Option.getD_some, List.take_length]
    · rw [if_neg h2, if_neg (by omega)]; split <;> simp
theorem preS_step {LL : List (List Int)} {a i : Nat} {l : List Int} (h : LL[a]? = some l) (hi : i < l.length) : preS LL a (i + 1) a = preS LL a i a ++ [l[i]?.getD 0] := by
  unfold preS
  rw [if_neg (by omega), if_pos rfl, if_neg (by omega), if_pos rfl, h, Option.getD_some, List.take_succ_eq_append_getElem hi]
  simp [hi]
theorem preS_other {LL : List (List Int)} {a i p : Nat} (hp : p ≠ a) : preS LL a (i + 1) p = preS LL a i p := by
  unfold preS
  by_cases h1 : p < a
  · rw [if_pos h1, if_pos h1]
  · rw [if_neg h1, if_neg hp, if_neg h1, if_neg hp]
theorem Zs_nil (k : Nat) {S : Nat → List Int} (h : ∀ p, S p = []) : Zs S k = 4 := by unfold Zs; rw [h]; simp
theorem Zs_congr {S S' : Nat → List Int} (h : ∀ p, S p = S' p) (k : Nat) : Zs S k = Zs S' k := by unfold Zs; rw [h]
/-- A disc more on the stack a. -/
theorem Zs_step {S S' : Nat → List Int} {a : Nat} {x : Int} (h : S' a = S a ++ [x]) (ho : ∀ p, p ≠ a → S' p = S p) (k : Nat) :
    Zs S' k = if k = a * 4 + 3 then Zs S (a * 4 + 2) else if k = a * 4 + 2 then Zs S (a * 4 + 1) else if k = a * 4 + 1 then Zs S (a * 4) else if k = a * 4 then x else Zs S k := by
  have hr : (S' a).reverse = x :: (S a).reverse := by rw [h]; simp
  have d : ∀ j, j < 4 → (a * 4 + j) / 4 = a ∧ (a * 4 + j) % 4 = j := by intro j hj; omega
  by_cases h3 : k = a * 4 + 3
  · subst h3
    rw [if_pos rfl]
    unfold Zs
    rw [(d 3 (by omega)).1, (d 3 (by omega)).2, (d 2 (by omega)).1, (d 2 (by omega)).2, hr]
    rfl
  · rw [if_neg h3]
    by_cases h2 : k = a * 4 + 2
    · subst h2
      rw [if_pos rfl]
      unfold Zs
      rw [(d 2 (by omega)).1, (d 2 (by omega)).2, (d 1 (by omega)).1, (d 1 (by omega)).2, hr]
      rfl
    · rw [if_neg h2]
      by_cases h1 : k = a * 4 + 1
      · subst h1
        rw [if_pos rfl]
        unfold Zs
        have d0 := d 0 (by omega)
        simp only [Nat.add_zero] at d0
        rw [(d 1 (by omega)).1, (d 1 (by omega)).2, d0.1, d0.2, hr]
        rfl
      · rw [if_neg h1]
        by_cases h0 : k = a * 4
        · subst h0
          rw [if_pos rfl]
          unfold Zs
          have d0 := d 0 (by omega)
          simp only [Nat.add_zero] at d0
          rw [d0.1, d0.2, hr]
          rfl
        · rw [if_neg h0]
          unfold Zs
          rw [ho (k / 4) (by omega)]

/-- The stacks of a heap as the program keeps them. -/
def pilesOf (LL : List (List Int)) (k : Nat) : Int := Zs (fun p => LL[p]?.getD []) k
/-- The error's variable holds an error of errors.New's make. -/
def Sent (w : World) (a : Addr) : Prop := w.cell? ⟨0, 0, none⟩ = some (.iface 78 (.pointer (some a)))
theorem Sent.below {w w' : World} {a : Addr} (h : Sent w a) (hb : Below w.heap.size w w') : Sent w' a := (hb.cell (block_of_cell h)).trans h

def HeapEnd (LL : List (List Int)) (a : Addr) (e : Ending) : Prop :=
  (heapB LL = true ∧ e = .returned (.agg (zA (pilesOf LL)))) ∨ (heapB LL = false ∧ e = .panicked [{ v := .iface 78 (.pointer (some a)), recovered := false }])

/-- Twelve cells are stored. -/
def set12 (w : World) (b : Nat) (Z : Nat → Int) : World := ((((((((((((w.setCell ⟨b, 0, none⟩ (.int .i64 (Z 0))).setCell ⟨b, 1, none⟩ (.int .i64 (Z 1))).setCell ⟨b, 2, none⟩ (.int .i64 (Z 2))).setCell ⟨b, 3, none⟩ (.int .i64 (Z 3))).setCell ⟨b, 4, none⟩ (.int .i64 (Z 4))).setCell ⟨b, 5, none⟩ (.int .i64 (Z 5))).setCell ⟨b, 6, none⟩ (.int .i64 (Z 6))).setCell ⟨b, 7, none⟩ (.int .i64 (Z 7))).setCell ⟨b, 8, none⟩ (.int .i64 (Z 8))).setCell ⟨b, 9, none⟩ (.int .i64 (Z 9))).setCell ⟨b, 10, none⟩ (.int .i64 (Z 10))).setCell ⟨b, 11, none⟩ (.int .i64 (Z 11)))
theorem Box.set12 {w : World} {b t : Nat} {Y : Nat → Int} (h : Box w b t (zA Y)) (Z : Nat → Int) : Box (Go.Proofs.YtpiglaolofddfaaDoor.set12 w b Z) b t (zA Z) := by
  refine box_of_row (World.rowIs.congr ((((((((((((h.row12.set 0 (.int .i64 (Z 0))).set 1 (.int .i64 (Z 1))).set 2 (.int .i64 (Z 2))).set 3 (.int .i64 (Z 3))).set 4 (.int .i64 (Z 4))).set 5 (.int .i64 (Z 5))).set 6 (.int .i64 (Z 6))).set 7 (.int .i64 (Z 7))).set 8 (.int .i64 (Z 8))).set 9 (.int .i64 (Z 9))).set 10 (.int .i64 (Z 10))).set 11 (.int .i64 (Z 11))) (fun k hk => ?_))
  match k, hk with
  | 0, _ => simp
  | 1, _ => simp
  | 2, _ => simp
  | 3, _ => simp
  | 4, _ => simp
  | 5, _ => simp
  | 6, _ => simp
  | 7, _ => simp
  | 8, _ => simp
  | 9, _ => simp
  | 10, _ => simp
  | 11, _ => simp
theorem below_set12 {B b : Nat} {w w' : World} (h : Below B w w') (hB : B ≤ b) (Z : Nat → Int) : Below B w (set12 w' b Z) := ((((((((((((h.setCell hB _).setCell hB _).setCell hB _).setCell hB _).setCell hB _).setCell hB _).setCell hB _).setCell hB _).setCell hB _).setCell hB _).setCell hB _).setCell hB _)

set_option maxRecDepth 100000 in
set_option maxHeartbeats 8000000 in
theorem mustBeHeap_calls (A : Option Addr) (n c : Nat) (rs : List Rw) (ea : Addr) (w : World) (hL : rs.length = n) (hn : n ≤ 1048576) (hb : totN rs ≤ 1048576) (hI : IntsSS w A rs) (hS : Sent w ea) :
    Calls Tryd.prog 38 #[.agg #[.slice A n c]] w fun e w' => HeapEnd (LLof rs) ea e ∧ Below w.heap.size w w' := by
  have HL := Lib.hid hL
  have HT := Lib.hid hb
  have hb0 : Below w.heap.size w ((w.alloc (.cells #[.slice A n c] 29)).alloc (.cells (zA (fun _ => 0)) 50)) := ((Below.refl _ _).alloc (Nat.le_refl _) _).alloc (by simp) _
  have HI := Lib.hid (hI.below hb0)
  have HB0 := Lib.hid hb0
  have X0 := Lib.hid ((Box.new w 29 #[.slice A n c]).alloc (.cells (zA (fun _ => 0)) 50))
  have R0 : Hid (Box ((w.alloc (.cells #[.slice A n c] 29)).alloc (.cells (zA (fun _ => 0)) 50)) (w.heap.size + 1) 50 (zA (fun _ => 0))) := by
    have := Box.new (w.alloc (.cells #[.slice A n c] 29)) 50 (zA (fun _ => 0))
    rw [show (w.alloc (.cells #[.slice A n c] 29)).heap.size = w.heap.size + 1 by simp] at this
    exact this
  have S0 := Lib.hid (hS.below hb0)
  have HC := Lib.hid (cnt_tot hI)
  clear hL hb hI hb0 hS
  obtain ⟨x0, _⟩ := X0.out.one
  go_enter Tryd.func38, Tryd.ntmps38
  go_wp2_with fail
  refine (numberOfDiscs_calls A n c rs _ HL.out hn HT.out HI.out).mono ?_
  rintro e w1 ⟨rfl, hb1⟩
  have X1 := Lib.hid (X0.out.below hb1 X0.out.lt)
  have R1 := Lib.hid (R0.out.below hb1 R0.out.lt)
  have S1 := Lib.hid (S0.out.below hb1)
  have HB1 := Lib.hid (HB0.out.trans (hb1.mono HB0.out.size))
  have HI1 := Lib.hid (HI.out.below hb1)
  clear hb1 X0 R0 S0 HB0 HI x0
  obtain ⟨x0, _⟩ := X1.out.one
  by_cases h3 : n = 3
  · by_cases h4 : totN rs ≤ 4
    · subst h3
      obtain ⟨N, hN⟩ : ∃ N, N = totN rs := ⟨_, rfl⟩
      rw [← hN]
      rw [← hN] at h4
      have HN := Lib.hid hN
      have HCN : Hid (N = cntL (LLof rs)) := by unfold Hid; rw [HN.out, HC.out]
      clear hN
      have h4' : ¬ (4 : Int) < (N : Int) := by omega
      go_wp2_with fail
      refine (noDiscs_calls _).mono ?_
      rintro e w2 ⟨rfl, hb2⟩
      have X2 := Lib.hid (X1.out.below hb2 X1.out.lt)
      have R2 := Lib.hid (R1.out.below hb2 R1.out.lt)
      have S2 := Lib.hid (S1.out.below hb2)
      have HB2 := Lib.hid (HB1.out.trans (hb2.mono HB1.out.size))
      have HI2 := Lib.hid (HI1.out.below hb2)
      have hsz2 := HB2.out.size
      clear hb2 X1 R1 S1 HB1 HI1 x0
      obtain ⟨x0, _⟩ := X2.out.one
      have hz2 := X2.out.lt
      have hz2' := R2.out.lt
      have hal : Below w2.heap.size w2 ((w2.alloc (.cells (zA (fun _ => 4)) 50)).alloc (.cells #[.bool false, .bool false, .bool false, .bool false] 77)) := ((Below.refl _ _).alloc (Nat.le_refl _) _).alloc (by simp) _
      have P0 := Lib.hid ((Box.new w2 50 (zA (fun _ => 4))).row12.alloc (.cells #[.bool false, .bool false, .bool false, .bool false] 77))
      have M0 : Hid (((w2.alloc (.cells (zA (fun _ => 4)) 50)).alloc (.cells #[.bool false, .bool false, .bool false, .bool false] 77)).rowIs (w2.heap.size + 1) 77 4 (metV [])) := by
        have := World.rowIs_alloc (w2.alloc (.cells (zA (fun _ => 4)) 50)) #[.bool false, .bool false, .bool false, .bool false] 77 (metV []) (by
          intro i hi
          match i, hi with
          | 0, _ => rfl | 1, _ => rfl | 2, _ => rfl | 3, _ => rfl)
        rw [show (w2.alloc (.cells (zA (fun _ => 4)) 50)).heap.size = w2.heap.size + 1 by simp] at this
        exact this
      have HAL := Lib.hid hal
      clear hal
      simp only [zA]
      go_wp2
      simp only [zA] at HAL P0 M0
      go_loopw [6, 7, 9, 26] (fun _ _ _ i wr => ∃ a : Nat, a ≤ 3 ∧ i = .int .i64 a ∧ goodL N (flatK (LLof rs) a 0) ∧ wr.rowIs (w2.heap.size + 1) 77 4 (metV (flatK (LLof rs) a 0)) ∧ wr.rowIs w2.heap.size 50 12 (fun k => .int .i64 (Zs (preS (LLof rs) a 0) k)) ∧ Below w2.heap.size w2 wr) (fun _ _ _ i _ => 3 - (intOf i).toNat)
      case atStart => exact ⟨0, by omega, rfl, by rw [flatK_zero]; exact good_nil _, by rw [flatK_zero]; exact M0.out, P0.out.congr (fun k _ => by rw [Zs_nil k (preS_zero _)]), HAL.out⟩
      case round =>
        obtain ⟨a, ha, rfl, hg, hrow, hpl, hbl⟩ := hrel
        have HG := Lib.hid hg
        have HR := Lib.hid hrow
        have HP := Lib.hid hpl
        have HBl := Lib.hid hbl
        have hszr := hbl.size
        clear hg hrow hpl hbl x0
        by_cases hlt : a < 3
        · obtain ⟨r, hr⟩ := get_of_lt (rs := rs) (k := a) (by rw [HL.out]; exact hlt)
          obtain ⟨ad, hA, had, hc, hll, hi⟩ := (HI2.out.below HBl.out) a r hr
          have HLa := Lib.hid (LL_at hr)
          have hrn : r.n ≤ 4 := by have := totN_take_succ hr; have := totN_take_le rs (a + 1); have := HN.out; omega
          have HRr := Lib.hid hr
          have hll := Lib.hid hll
          clear hr hi
          obtain ⟨rA, rn, rc, rd, rL⟩ := r
          change rn ≤ 4 at hrn
          change Hid (rL.length = rn) at hll
          change Hid ((LLof rs)[a]? = some rL) at HLa
          change _ = some (Value.slice rA rn rc) at hc
          have hlt2 : (a : Int) < 3 := by omega
          subst hA
          go_wp2
          go_loopw [9, 33] (fun _ i wq => ∃ j : Nat, j ≤ rn ∧ i = .int .i64 j ∧ goodL N (flatK (LLof rs) a j) ∧ wq.rowIs (w2.heap.size + 1) 77 4 (metV (flatK (LLof rs) a j)) ∧ wq.rowIs w2.heap.size 50 12 (fun k => .int .i64 (Zs (preS (LLof rs) a j) k)) ∧ Below w2.heap.size w2 wq) (fun _ i _ => rn - (intOf i).toNat)
          case atStart => exact ⟨0, by omega, rfl, HG.out, HR.out, HP.out, HBl.out⟩
          case round =>
            obtain ⟨j, hj, rfl, hg, hrow, hpl, hbl⟩ := hrel
            have HG2 := Lib.hid hg
            have HR2 := Lib.hid hrow
            have HP2 := Lib.hid hpl
            have HB3 := Lib.hid hbl
            have S3 := Lib.hid (S2.out.below hbl)
            have hsz3 := hbl.size
            clear hg hrow hpl hc
            have hi : Ints wr rA rL := by
              obtain ⟨_, _, _, _, _, hi⟩ := (HI2.out.below hbl) a _ HRr.out
              exact hi
            clear hbl
            by_cases hjl : j < rn
            · obtain ⟨ae, hae, had2, hcd⟩ := hi j (by rw [hll.out]; exact hjl)
              subst hae
              have hjl2 : (j : Int) < (rn : Int) := by omega
              have hst := Lib.hid (flatK_step HLa.out (i := j) (by rw [hll.out]; exact hjl))
              have hps := Lib.hid (preS_step HLa.out (i := j) (by rw [hll.out]; exact hjl))
              have hbad := Lib.hid (bad_out (n := N) HLa.out (i := j) (by rw [hll.out]; exact hjl))
              have hcd2 : wr.cell? (ae.add j) = some (.int .i64 (rL[j]?.getD 0)) := by rw [hcd, List.getD_eq_getElem?_getD]
              clear hcd hi
              generalize rL[j]?.getD 0 = x at *
              have hs3 := S3.out
              unfold Sent at hs3
              by_cases hx0 : 0 ≤ x
              · by_cases hx1 : x < N
                · obtain ⟨d, rfl⟩ := Int.eq_ofNat_of_zero_le hx0
                  have hdN : d < 4 := by omega
                  have hd4 : (d : Int) < 4 := by omega
                  have hm := HR2.out.cell hdN
                  have hmf := HR2.out.frozen d
                  unfold metV at hm
                  by_cases hmet : (d : Int) ∈ flatK (LLof rs) a j
                  · have H : Hid (heapB (LLof rs) = false) := heapB_no (by rw [← HCN.out]; exact hbad.out (.inr hmet))
                    rw [show decide ((d : Int) ∈ flatK (LLof rs) a j) = true by simpa using hmet] at hm
                    clear hmet hbad
                    go_wp2
                    exact ⟨rfl, .inr ⟨H.out, rfl⟩, HB2.out.trans (HB3.out.mono hsz2)⟩
                  · have hgood := Lib.hid (good_snoc HG2.out hx0 hx1 hmet)
                    rw [show decide ((d : Int) ∈ flatK (LLof rs) a j) = false by simpa using hmet] at hm
                    clear hmet hbad hs3
                    have p0 := HP2.out.cell (i := a * 4) (by omega)
                    have p1 := HP2.out.cell (i := a * 4 + 1) (by omega)
                    have p2 := HP2.out.cell (i := a * 4 + 2) (by omega)
                    have p3 := HP2.out.cell (i := a * 4 + 3) (by omega)
                    have hpl2 := HP2.out.lt
                    obtain ⟨Z, hZ⟩ : ∃ Z, Z = Zs (preS (LLof rs) a j) := ⟨_, rfl⟩
                    rw [← hZ] at p0 p1 p2 p3
                    go_wp2_with fail
                    refine (with_calls _ _ _ _ _ _).mono ?_
                    rintro e w5 ⟨rfl, hb5⟩
                    have HP5 : Hid (w5.rowIs w2.heap.size 50 12 (fun k => .int .i64 (Z k))) := by
                      unfold Hid
                      rw [hZ]
                      exact (HP2.out.setOther (by simp) _).of_block (hb5.block _ (by simp; omega))
                    have HM5 := Lib.hid ((HR2.out.set d (.bool true)).of_block (hb5.block _ (by have := HR2.out.lt; simp; omega)))
                    have HB5 := Lib.hid ((HB3.out.setCell (by simp) _).trans (hb5.mono (by simp; omega)))
                    clear p0 p1 p2 p3 hm hmf hb5
                    have p0 := HP5.out.cell (i := a * 4) (by omega)
                    have p1 := HP5.out.cell (i := a * 4 + 1) (by omega)
                    have p2 := HP5.out.cell (i := a * 4 + 2) (by omega)
                    have p3 := HP5.out.cell (i := a * 4 + 3) (by omega)
                    have f0 := HP5.out.frozen
                    have HZ := Lib.hid hZ
                    clear hZ
                    go_wp2
                    go_roundw
                    case rel =>
                      refine ⟨j + 1, by omega, by go_num, by rw [hst.out]; exact hgood.out, ?_, ?_, (((HB5.out.setCell (by simp) _).setCell (by simp) _).setCell (by simp) _).setCell (by simp) _⟩
                      · rw [hst.out]
                        exact ((((HM5.out.congr (fun i _ => metV_snoc _ d i)).setOther (by simp) _).setOther (by simp) _).setOther (by simp) _).setOther (by simp) _
                      · refine ((((HP5.out.set _ _).set _ _).set _ _).set _ _).congr (fun k _ => ?_)
                        rw [Zs_step hps.out (fun p hp => preS_other hp) k, ← HZ.out]
                        repeat' split
                        all_goals rfl
                    case measure => simp [intOf]; omega
                · have H : Hid (heapB (LLof rs) = false) := heapB_no (by rw [← HCN.out]; exact hbad.out (.inl (by omega)))
                  clear hbad
                  go_wp2
                  exact ⟨rfl, .inr ⟨H.out, rfl⟩, HB2.out.trans (HB3.out.mono hsz2)⟩
              · have H : Hid (heapB (LLof rs) = false) := heapB_no (by rw [← HCN.out]; exact hbad.out (.inl (by omega)))
                clear hbad
                go_wp2
                exact ⟨rfl, .inr ⟨H.out, rfl⟩, HB2.out.trans (HB3.out.mono hsz2)⟩
            · obtain rfl : j = rn := by omega
              have hnx := Lib.hid (flatK_next HLa.out)
              have e : Hid (flatK (LLof rs) a j = flatK (LLof rs) (a + 1) 0) := by unfold Hid; rw [← hnx.out, hll.out]
              have hpn := preS_next HLa.out
              rw [hll.out] at hpn
              have HPN := Lib.hid hpn
              clear hpn hi
              go_wp2
              go_roundw
              case rel => exact ⟨a + 1, by omega, by go_num, by rw [← e.out]; exact HG2.out, by rw [← e.out]; exact HR2.out, HP2.out.congr (fun k _ => by rw [Zs_congr HPN.out k]), HB3.out⟩
              case measure => simp [intOf]; omega
        · obtain rfl : a = 3 := by omega
          have e : Hid (flatK (LLof rs) 3 0 = (LLof rs).flatten) := by have := flatK_all (LLof rs); rw [LL_len, HL.out] at this; exact this
          have H : Hid (heapB (LLof rs) = true) := heapB_yes (by rw [LL_len, HL.out]) (by rw [← HCN.out]; exact h4) (by rw [← HCN.out, ← e.out]; exact HG.out)
          have HZ : Hid (Box wr w2.heap.size 50 (zA (pilesOf (LLof rs)))) := by
            refine box_of_row (HP.out.congr (fun k hk => ?_))
            congr 1
            unfold pilesOf Zs
            have e3 : preS (LLof rs) 3 0 (k / 4) = (LLof rs)[k / 4]?.getD [] := by unfold preS; rw [if_pos (by omega)]
            rw [e3]
          have R3 := Lib.hid (R2.out.below HBl.out R2.out.lt)
          have hz3 := R3.out.lt
          obtain ⟨c0, c1, c2, c3, c4, c5, c6, c7, c8, c9, c10, c11⟩ := HZ.out.z12
          obtain ⟨d0, d1, d2, d3, d4, d5, d6, d7, d8, d9, d10, d11⟩ := R3.out.z12
          have f1 := R3.out.frozen
          obtain ⟨Z, hZ⟩ : ∃ Z, Z = pilesOf (LLof rs) := ⟨_, rfl⟩
          rw [← hZ] at HZ
          simp only [← hZ] at c0 c1 c2 c3 c4 c5 c6 c7 c8 c9 c10 c11
          have HZZ := Lib.hid hZ
          clear hZ
          go_wp2
          have hbx := Box.set12 R3.out Z
          have hbb := below_set12 (HB2.out.trans (HBl.out.mono hsz2)) (show w.heap.size ≤ w.heap.size + 1 by omega) Z
          refine bodyPost_ret (results_cell_row rfl _ _ (w.heap.size + 1) 50 (zA Z) (0, 0) _ rfl hbx Tryd.underlying50 rfl (by kernel_rfl)) rfl ⟨.inl ⟨H.out, by rw [HZZ.out]⟩, hbb⟩
    · have H : Hid (heapB (LLof rs) = false) := heapB_no_len (by rw [← HC.out]; omega)
      have h4' : (4 : Int) < (totN rs : Int) := by omega
      have hs := S1.out
      unfold Sent at hs
      clear h4
      subst h3
      go_wp2
      exact ⟨rfl, .inr ⟨H.out, rfl⟩, HB1.out⟩
  · have H : Hid (heapB (LLof rs) = false) := heapB_no_len (by rw [LL_len, HL.out]; omega)
    have h3' : ((n : Int) != 3) = true := by simp; omega
    have hs := S1.out
    unfold Sent at hs
    clear h3
    go_wp2
    exact ⟨rfl, .inr ⟨H.out, rfl⟩, HB1.out⟩

end Go.Proofs.YtpiglaolofddfaaDoor
