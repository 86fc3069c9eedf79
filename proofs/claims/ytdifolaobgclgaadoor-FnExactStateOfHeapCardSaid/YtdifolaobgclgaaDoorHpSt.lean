/- Contracts: the state of a regular heap. -/
import Derived.Test.YtdifolaobgclgaaDoorHpReg
import Derived.Test.YtdifolaobgclgaaDoorMark
namespace Go.Proofs.YtdifolaobgclgaaDoor
open Go.RowKit
set_option linter.unusedVariables false

/-- The pegs of discs, one disc set. -/
def setF (v : Int) (x : Int) (f : Nat → Int) : Nat → Int := fun d => if (d : Int) = x then v else f d
def stF (v : Int) (l : List Int) (f : Nat → Int) : Nat → Int := l.foldl (fun f x => setF v x f) f
def llF (LL : List (List Int)) : Nat → (Nat → Int)
  | 0 => fun _ => 0
  | a + 1 => stF (a : Int) (LL[a]?.getD []) (llF LL a)
def curF (LL : List (List Int)) (a i : Nat) : Nat → Int := stF (a : Int) ((LL[a]?.getD []).take i) (llF LL a)
theorem curF_zero (LL : List (List Int)) (a : Nat) : curF LL a 0 = llF LL a := by simp [curF, stF]
theorem curF_step {LL : List (List Int)} {a i : Nat} {l : List Int} (h : LL[a]? = some l) (hi : i < l.length) : curF LL a (i + 1) = setF (a : Int) (l[i]?.getD 0) (curF LL a i) := by
  unfold curF stF
  rw [h, Option.getD_some, List.take_succ_eq_append_getElem hi, List.foldl_append]
  simp [hi]
theorem curF_next {LL : List (List Int)} {a : Nat} {l : List Int} (h : LL[a]? = some l) : curF LL a l.length = llF LL (a + 1) := by
  unfold curF
  rw [llF, h, Option.getD_some, List.take_length]

theorem setF_val (v : Int) (d i : Nat) (f : Nat → Int) : (if i = d then Value.int .i64 v else Value.int .i64 (f i)) = .int .i64 (setF v (d : Int) f i) := by
  unfold setF
  by_cases h : i = d
  · rw [if_pos h, if_pos (by omega)]
  · rw [if_neg h, if_neg (by omega)]
def posL (LL : List (List Int)) : List Int := (List.range (cntL LL)).map (fun d => llF LL 3 d)
theorem posL_len (LL : List (List Int)) : (posL LL).length = cntL LL := by simp [posL]
def sohL (LL : List (List Int)) : List Int := if regV LL = true then posL LL else []
def sohP (LL : List (List Int)) : Int := if regV LL = true then 3 else 0
def sohE (LL : List (List Int)) : Int := if heapB LL = true then (if wrongs LL = 0 then 0 else 5) else 1
theorem soh_no {LL : List (List Int)} (h : heapB LL = false) : sohL LL = [] ∧ sohP LL = 0 ∧ sohE LL = 1 := by
  have h1 := (reg_no h).1
  unfold sohL sohP sohE
  rw [h1, h]
  exact ⟨rfl, rfl, rfl⟩
theorem soh_wrong {LL : List (List Int)} (h : heapB LL = true) (hw : ¬ wrongs LL = 0) : sohL LL = [] ∧ sohP LL = 0 ∧ sohE LL = 5 := by
  have h1 := (reg_yes h).1
  rw [decide_eq_false hw] at h1
  unfold sohL sohP sohE
  rw [h1, h, if_neg hw]
  exact ⟨rfl, rfl, rfl⟩
theorem soh_yes {LL : List (List Int)} (h : heapB LL = true) (hw : wrongs LL = 0) : sohL LL = posL LL ∧ sohP LL = 3 ∧ sohE LL = 0 := by
  have h1 := (reg_yes h).1
  rw [decide_eq_true hw] at h1
  unfold sohL sohP sohE
  rw [h1, h, if_pos hw]
  exact ⟨rfl, rfl, rfl⟩
theorem sohL_len (LL : List (List Int)) : (sohL LL).length ≤ 1048576 := by
  unfold sohL
  split
  · next h =>
    have hh : heapB LL = true := by
      cases hb : heapB LL with
      | true => rfl
      | false => rw [(reg_no hb).1] at h; cases h
    have := (heapB_facts hh).2.1
    rw [posL_len]
    omega
  · simp
theorem retState_zero {w w' : World} {e : Ending} {E : Int} (he : e = .returned (.tuple #[.agg #[.int .i64 0, .slice none 0 0], .int .i64 E])) (hb : Below w.heap.size w w') : RetState w 0 0 [] E e w' := ⟨none, 0, he, Own.nilS _ _, hb⟩

theorem row_pos {w : World} {g : Nat} {LL : List (List Int)} {N : Nat} (h : w.rowIs g 2 N (fun d => .int .i64 (llF LL 3 d))) (hN : N = cntL LL) : Row w g 2 (posL LL) := by
  unfold Row
  rw [posL_len, ← hN]
  refine h.congr (fun d hd => ?_)
  rw [List.getD_eq_getElem?_getD]
  unfold posL
  rw [← hN]
  simp [hd]

set_option maxRecDepth 100000 in
set_option maxHeartbeats 8000000 in
theorem specStateOfHeap_h (A : Option Addr) (n c : Nat) (rs : List Rw) (w : World) (hL : rs.length = n) (hn : n ≤ 1048576) (hb : totN rs ≤ 1048576) (hI : IntsSS w A rs) :
    Calls Tryd.prog 14 #[.agg #[.slice A n c]] w (RetState w (sohP (LLof rs)) (sohL (LLof rs)).length (sohL (LLof rs)) (sohE (LLof rs))) := by
  have HL := Lib.hid hL
  have HT := Lib.hid hb
  obtain ⟨W, hW⟩ : ∃ W, W = (w.alloc (.cells #[.slice A n c] 27)).alloc (.cells #[.int .i64 0, .slice none 0 0] 35) := ⟨_, rfl⟩
  have hb0 : Below w.heap.size w W := by rw [hW]; exact ((Below.refl _ _).alloc (Nat.le_refl _) _).alloc (by simp) _
  have X0 : Hid (Box W w.heap.size 27 #[.slice A n c]) := by
    have := (Box.new w 27 #[.slice A n c]).alloc (.cells #[.int .i64 0, .slice none 0 0] 35)
    rw [← hW] at this
    exact this
  have R0 : Hid (Box W (w.heap.size + 1) 35 #[.int .i64 0, .slice none 0 0]) := by
    have := Box.new (w.alloc (.cells #[.slice A n c] 27)) 35 #[.int .i64 0, .slice none 0 0]
    rw [← hW, show (w.alloc (.cells #[.slice A n c] 27)).heap.size = w.heap.size + 1 by simp] at this
    exact this
  have HI := Lib.hid (hI.below hb0)
  have HB0 := Lib.hid hb0
  have HC := Lib.hid (cnt_tot hI)
  have HW := Lib.hid hW
  clear hL hb hb0 hI hW
  obtain ⟨x0, _⟩ := X0.out.one
  go_enter Tryd.func14, Tryd.ntmps14
  go_wp2_with fail
  rw [← HW.out]
  refine (l06Is_calls A n c rs _ HL.out hn HT.out HI.out).mono ?_
  rintro e w1 ⟨rfl, hb1⟩
  have X1 := Lib.hid (X0.out.below hb1 X0.out.lt)
  have R1 := Lib.hid (R0.out.below hb1 R0.out.lt)
  have HB1 := Lib.hid (HB0.out.trans (hb1.mono HB0.out.size))
  have HI1 := Lib.hid (HI.out.below hb1)
  clear hb1 X0 R0 HB0 HI x0 HW
  obtain ⟨x0, _⟩ := X1.out.one
  cases hh : heapB (LLof rs) with
  | false =>
    have HD := Lib.hid (soh_no hh)
    clear hh
    obtain ⟨r0, r1, rf0, rf1⟩ := R1.out.two
    go_wp2
    obtain ⟨q1, q2, q3⟩ := HD.out
    rw [q1, q2, q3]
    have R2 := (R1.out.set 0 (.int .i64 0)).set 1 (.slice none 0 0)
    obtain ⟨z0, z1, _, _⟩ := Box.two (u := .int .i64 0) (v := .slice none 0 0) R2
    refine bodyPost_ret (v := .tuple #[.agg #[.int .i64 0, .slice none 0 0], .int .i64 1]) (by simp [results, Tryd.results14, go_sem, z0, z1]) rfl ?_
    exact retState_zero rfl ((HB1.out.setCell (by simp) _).setCell (by simp) _)
  | true =>
    have HH := Lib.hid hh
    clear hh
    go_wp2_with fail
    refine (l06Wrong_calls A n c rs _ HL.out HI1.out HH.out).mono ?_
    rintro e w2 ⟨rfl, hb2⟩
    have X2 := Lib.hid (X1.out.below hb2 X1.out.lt)
    have R2 := Lib.hid (R1.out.below hb2 R1.out.lt)
    have HB2 := Lib.hid (HB1.out.trans (hb2.mono HB1.out.size))
    have HI2 := Lib.hid (HI1.out.below hb2)
    clear hb2 X1 R1 HB1 HI1 x0
    obtain ⟨x0, _⟩ := X2.out.one
    by_cases hw : wrongs (LLof rs) = 0
    · have HD := Lib.hid (soh_yes HH.out hw)
      rw [hw]
      clear hw
      have h3n : n = 3 := by have := (heapB_facts HH.out).1; rw [LL_len, HL.out] at this; exact this
      have hN4 : cntL (LLof rs) ≤ 4 := (heapB_facts HH.out).2.1
      subst h3n
      go_wp2_with fail
      refine (l06Count_calls A 3 c rs _ HL.out hn HT.out HI2.out).mono ?_
      rintro e w3 ⟨rfl, hb3⟩
      have X3 := Lib.hid (X2.out.below hb3 X2.out.lt)
      have R3 := Lib.hid (R2.out.below hb3 R2.out.lt)
      have HB3 := Lib.hid (HB2.out.trans (hb3.mono HB2.out.size))
      have HI3 := Lib.hid (HI2.out.below hb3)
      clear hb3 X2 R2 HB2 HI2 x0
      obtain ⟨x0, _⟩ := X3.out.one
      obtain ⟨N, hN⟩ : ∃ N, N = totN rs := ⟨_, rfl⟩
      have HCN : Hid (N = cntL (LLof rs)) := by unfold Hid; rw [hN, HC.out]
      have hN4' : N ≤ 4 := by rw [HCN.out]; exact hN4
      rw [← hN]
      clear hN hN4
      have hmk := run_make_row' (P := Tryd.prog) 33 2 (.int .i64 0) 8 Tryd.underlying33 Tryd.infoI rfl .i64 .i64 N (by omega) (by omega)
      have hz3 := X3.out.lt
      have hzr := R3.out.lt
      have hal : Below w3.heap.size w3 ((w3.alloc (.cells (madeCells #[.int .i64 0] N) 2)).alloc (.cells #[.int .i64 3, .slice (some ⟨w3.heap.size, 0, none⟩) N N] 35)) := ((Below.refl _ _).alloc (Nat.le_refl _) _).alloc (by simp) _
      have hrw := (World.rowIs_made w3 (.int .i64 0) N 2).alloc (.cells #[.int .i64 3, .slice (some ⟨w3.heap.size, 0, none⟩) N N] 35)
      have hbx := Box.new (w3.alloc (.cells (madeCells #[.int .i64 0] N) 2)) 35 #[.int .i64 3, .slice (some ⟨w3.heap.size, 0, none⟩) N N]
      rw [show (w3.alloc (.cells (madeCells #[.int .i64 0] N) 2)).heap.size = w3.heap.size + 1 by simp] at hbx
      have HAL := Lib.hid hal
      have HRW := Lib.hid hrw
      have HBX := Lib.hid hbx
      clear hal hrw hbx
      go_wp2
      go_loopw [5] (fun i wr => ∃ a : Nat, a ≤ 3 ∧ i = .int .i64 a ∧ wr.rowIs w3.heap.size 2 N (fun d => .int .i64 (llF (LLof rs) a d)) ∧ Box wr (w3.heap.size + 1) 35 #[.int .i64 3, .slice (some ⟨w3.heap.size, 0, none⟩) N N] ∧ Below w3.heap.size w3 wr) (fun i _ => 3 - (intOf i).toNat)
      case atStart => exact ⟨0, by omega, rfl, HRW.out, HBX.out, HAL.out⟩
      case round =>
        obtain ⟨a, ha, rfl, hrow, hbx, hbl⟩ := hrel
        have HR := Lib.hid hrow
        have HBX2 := Lib.hid hbx
        have HBl := Lib.hid hbl
        have X4 := Lib.hid (X3.out.below hbl X3.out.lt)
        clear hrow hbx hbl x0
        obtain ⟨x0, _⟩ := X4.out.one
        by_cases hlt : a < 3
        · obtain ⟨r, hr⟩ := get_of_lt (rs := rs) (k := a) (by rw [HL.out]; exact hlt)
          have HLa := Lib.hid (LL_at hr)
          have hst4 := heap_stack HH.out HLa.out
          have HRr := Lib.hid hr
          have hll : Hid (r.L.length = r.n) := by obtain ⟨_, _, _, _, h5, _⟩ := HI3.out a r hr; exact h5
          clear hr
          obtain ⟨rA, rn, rc, rd, rL⟩ := r
          change Hid (rL.length = rn) at hll
          change Hid ((LLof rs)[a]? = some rL) at HLa
          change rL.length ≤ 4 ∧ ∀ x ∈ rL, 0 ≤ x ∧ x < cntL (LLof rs) ∧ x ≤ 4 at hst4
          have HS4 := Lib.hid hst4.2
          have hrn : rn ≤ 4 := by rw [← hll.out]; exact hst4.1
          clear hst4
          have hlt2 : (a : Int) < 3 := by omega
          go_wp2
          go_loopw [6] (fun i wq => ∃ j : Nat, j ≤ rn ∧ i = .int .i64 j ∧ wq.rowIs w3.heap.size 2 N (fun d => .int .i64 (curF (LLof rs) a j d)) ∧ Box wq (w3.heap.size + 1) 35 #[.int .i64 3, .slice (some ⟨w3.heap.size, 0, none⟩) N N] ∧ Below w3.heap.size w3 wq) (fun i _ => rn - (intOf i).toNat)
          case atStart => exact ⟨0, by omega, rfl, by rw [curF_zero]; exact HR.out, HBX2.out, HBl.out⟩
          case round =>
            obtain ⟨j, hj, rfl, hrow, hbx, hbl⟩ := hrel
            have HR2 := Lib.hid hrow
            have HBX3 := Lib.hid hbx
            have HB4 := Lib.hid hbl
            have X5 := Lib.hid (X3.out.below hbl X3.out.lt)
            have HIq := Lib.hid (HI3.out.below hbl)
            clear hrow hbx hbl x0
            obtain ⟨x0, _⟩ := X5.out.one
            obtain ⟨b0, b1, _, _⟩ := HBX3.out.two
            obtain ⟨ad, hA, had, hc, _, hi⟩ := HIq.out a _ HRr.out
            change _ = some (Value.slice rA rn rc) at hc
            change Ints _ rA rL at hi
            subst hA
            by_cases hjl : j < rn
            · obtain ⟨ae, hae, had2, hcd⟩ := hi j (by rw [hll.out]; exact hjl)
              subst hae
              have hjl2 : (j : Int) < (rn : Int) := by omega
              have hst := Lib.hid (curF_step HLa.out (i := j) (by rw [hll.out]; exact hjl))
              have hmem : rL[j]?.getD 0 ∈ rL := by
                have hj2 : j < rL.length := by rw [hll.out]; exact hjl
                rw [List.getElem?_eq_getElem hj2, Option.getD_some]
                exact List.getElem_mem hj2
              have hrange := HS4.out _ hmem
              rw [← HCN.out] at hrange
              have hcd2 : wr.cell? (ae.add j) = some (.int .i64 (rL[j]?.getD 0)) := by rw [hcd, List.getD_eq_getElem?_getD]
              clear hcd hi hmem
              generalize rL[j]?.getD 0 = x at *
              obtain ⟨hx0, hx1, _⟩ := hrange
              obtain ⟨d, rfl⟩ := Int.eq_ofNat_of_zero_le hx0
              have hdN : d < N := by omega
              have hm := HR2.out.cell hdN
              have hmf := HR2.out.frozen d
              go_wp2_with fail
              go_region
              all_goals
                go_wp2
                go_roundw
                case rel =>
                  refine ⟨j + 1, by omega, by go_num, ?_, HBX3.out.other (by simp) _, (HB4.out.setCell (Nat.le_refl _) _).drew⟩
                  rw [hst.out]
                  exact (HR2.out.set d _).congr (fun i _ => setF_val _ d i _)
                case measure => simp [intOf]; omega
            · obtain rfl : j = rn := by omega
              have hnx := Lib.hid (curF_next HLa.out)
              have e : Hid (curF (LLof rs) a j = llF (LLof rs) (a + 1)) := by unfold Hid; rw [← hnx.out, hll.out]
              go_wp2
              go_roundw
              case rel => exact ⟨a + 1, by omega, by go_num, by rw [← e.out]; exact HR2.out, HBX3.out, HB4.out⟩
              case measure => simp [intOf]; omega
        · obtain rfl : a = 3 := by omega
          have R4 := Lib.hid (R3.out.below HBl.out R3.out.lt)
          obtain ⟨b0, b1, _, _⟩ := HBX2.out.two
          obtain ⟨r0, r1, rf0, rf1⟩ := R4.out.two
          have hzr4 := R4.out.lt
          go_wp2
          obtain ⟨q1, q2, q3⟩ := HD.out
          rw [q1, q2, q3]
          have R5 : Box _ (w.heap.size + 1) 35 #[.int .i64 3, .slice (some ⟨w3.heap.size, 0, none⟩) N N] := (R4.out.set 0 (.int .i64 3)).set 1 (.slice (some ⟨w3.heap.size, 0, none⟩) N N)
          obtain ⟨z0, z1, _, _⟩ := R5.two
          refine bodyPost_ret (v := .tuple #[.agg #[.int .i64 3, .slice (some ⟨w3.heap.size, 0, none⟩) N N], .int .i64 0]) (by simp [results, Tryd.results14, go_sem, z0, z1]) rfl ?_
          have hrw := row_pos ((HR.out.setOther (a := ⟨w.heap.size + 1, 0, none⟩) (by simp; omega) (.int .i64 3)).setOther (a := ⟨w.heap.size + 1, 1, none⟩) (by simp; omega) (.slice (some ⟨w3.heap.size, 0, none⟩) N N)) HCN.out
          have hlp : (posL (LLof rs)).length = N := by rw [posL_len, HCN.out]
          have ho := hrw.own (B := w.heap.size) HB3.out.size (by rw [hlp]; omega)
          rw [hlp] at ho ⊢
          exact ⟨_, N, rfl, ho, (((HB3.out.trans (HBl.out.mono HB3.out.size)).setCell (by simp) _).setCell (by simp) _)⟩
    · have HD := Lib.hid (soh_wrong HH.out hw)
      have hwne : (((wrongs (LLof rs) : Nat) : Int) != 0) = true := by simp; exact hw
      have hwb := wrongs_bound HH.out
      clear hw
      obtain ⟨r0, r1, rf0, rf1⟩ := R2.out.two
      go_wp2
      obtain ⟨q1, q2, q3⟩ := HD.out
      rw [q1, q2, q3]
      have R3 := (R2.out.set 0 (.int .i64 0)).set 1 (.slice none 0 0)
      obtain ⟨z0, z1, _, _⟩ := Box.two (u := .int .i64 0) (v := .slice none 0 0) R3
      refine bodyPost_ret (v := .tuple #[.agg #[.int .i64 0, .slice none 0 0], .int .i64 5]) (by simp [results, Tryd.results14, go_sem, z0, z1]) rfl ?_
      exact retState_zero rfl ((HB2.out.setCell (by simp) _).setCell (by simp) _)

set_option maxRecDepth 100000 in
set_option maxHeartbeats 8000000 in
theorem implStateOfHeap_h (A : Option Addr) (n c : Nat) (rs : List Rw) (ea : Addr) (w : World) (hL : rs.length = n) (hn : n ≤ 1048576) (hb : totN rs ≤ 1048576) (hI : IntsSS w A rs) (hS : Sent w ea) :
    Calls Tryd.prog 15 #[.agg #[.slice A n c]] w (RetState w (sohP (LLof rs)) (sohL (LLof rs)).length (sohL (LLof rs)) (sohE (LLof rs))) := by
  have HL := Lib.hid hL
  have HT := Lib.hid hb
  obtain ⟨W, hW⟩ : ∃ W, W = (w.alloc (.cells #[.slice A n c] 27)).alloc (.cells #[.int .i64 0, .slice none 0 0] 35) := ⟨_, rfl⟩
  have hb0 : Below w.heap.size w W := by rw [hW]; exact ((Below.refl _ _).alloc (Nat.le_refl _) _).alloc (by simp) _
  have X0 : Hid (Box W w.heap.size 27 #[.slice A n c]) := by
    have := (Box.new w 27 #[.slice A n c]).alloc (.cells #[.int .i64 0, .slice none 0 0] 35)
    rw [← hW] at this
    exact this
  have R0 : Hid (Box W (w.heap.size + 1) 35 #[.int .i64 0, .slice none 0 0]) := by
    have := Box.new (w.alloc (.cells #[.slice A n c] 27)) 35 #[.int .i64 0, .slice none 0 0]
    rw [← hW, show (w.alloc (.cells #[.slice A n c] 27)).heap.size = w.heap.size + 1 by simp] at this
    exact this
  have HI := Lib.hid (hI.below hb0)
  have HB0 := Lib.hid hb0
  have S0 := Lib.hid (hS.below hb0)
  have HC := Lib.hid (cnt_tot hI)
  have HW := Lib.hid hW
  clear hL hb hb0 hI hW hS
  obtain ⟨x0, _⟩ := X0.out.one
  go_enter Tryd.func15, Tryd.ntmps15
  go_wp2_with fail
  rw [← HW.out]
  refine (heapDoor_calls A n c rs ea _ HL.out hn HT.out HI.out S0.out).mono ?_
  rintro e w1 ⟨rfl, hb1⟩
  have X1 := Lib.hid (X0.out.below hb1 X0.out.lt)
  have R1 := Lib.hid (R0.out.below hb1 R0.out.lt)
  have HB1 := Lib.hid (HB0.out.trans (hb1.mono HB0.out.size))
  have HI1 := Lib.hid (HI.out.below hb1)
  clear hb1 X0 R0 HB0 HI x0 HW S0
  cases hh : heapB (LLof rs) with
  | false =>
    have HD := Lib.hid (soh_no hh)
    have hd := door_no hh
    rw [hd.1, hd.2]
    clear hh hd
    have hzr := R1.out.lt
    have R2 := (((R1.out.set 0 (.int .i64 0)).set 1 (.slice none 0 0)).alloc (.cells (zA (fun _ => 0)) 48))
    have HB2 : Below w.heap.size w (((w1.setCell ⟨w.heap.size + 1, 0, none⟩ (.int .i64 0)).setCell ⟨w.heap.size + 1, 1, none⟩ (.slice none 0 0)).alloc (.cells (zA (fun _ => 0)) 48)) := ((HB1.out.setCell (by simp) _).setCell (by simp) _).alloc (by have := HB1.out.size; simp; omega) _
    have R2' := Lib.hid R2
    have HB2' := Lib.hid HB2
    obtain ⟨r0, r1, rf0, rf1⟩ := R1.out.two
    clear R2 HB2
    simp only [zA] at R2' HB2'
    simp only [zA]
    go_wp2
    obtain ⟨q1, q2, q3⟩ := HD.out
    rw [q1, q2, q3]
    obtain ⟨z0, z1, _, _⟩ := Box.two (u := .int .i64 0) (v := .slice none 0 0) R2'.out
    refine bodyPost_ret (v := .tuple #[.agg #[.int .i64 0, .slice none 0 0], .int .i64 1]) (by simp [results, Tryd.results15, go_sem, z0, z1]) rfl ?_
    exact retState_zero rfl HB2'.out
  | true =>
    have HH := Lib.hid hh
    have HRG := Lib.hid (reg_piles hh)
    have hd := door_yes hh
    rw [hd.1, hd.2]
    clear hh hd
    have hzx := X1.out.lt
    have hzr := R1.out.lt
    obtain ⟨Z, hZ⟩ : ∃ Z, Z = pilesOf (LLof rs) := ⟨_, rfl⟩
    rw [← hZ] at HRG
    rw [← hZ]
    clear hZ
    have hal : Below w1.heap.size w1 (w1.alloc (.cells (zA Z) 48)) := (Below.refl _ _).alloc (Nat.le_refl _) _
    have X2 := Lib.hid (X1.out.below hal X1.out.lt)
    have R2 := Lib.hid (R1.out.below hal R1.out.lt)
    have HB2 := Lib.hid (HB1.out.trans (hal.mono HB1.out.size))
    have HI2 := Lib.hid (HI1.out.below hal)
    have hr := Lib.hid (isRegular_calls Z (w1.alloc (.cells (zA Z) 48)))
    rw [HRG.out] at hr
    clear hal X1 R1 HB1 HI1
    simp only [zA] at X2 R2 HB2 HI2 hr
    simp only [zA]
    go_wp2_with fail
    refine hr.out.mono ?_
    rintro e w2 ⟨rfl, hb2⟩
    have X3 := Lib.hid (X2.out.below hb2 X2.out.lt)
    have R3 := Lib.hid (R2.out.below hb2 R2.out.lt)
    have HB3 := Lib.hid (HB2.out.trans (hb2.mono HB2.out.size))
    have HI3 := Lib.hid (HI2.out.below hb2)
    clear hb2 X2 R2 HB2 HI2 hzx hzr hr HRG
    by_cases hw : wrongs (LLof rs) = 0
    · have HD := Lib.hid (soh_yes HH.out hw)
      rw [decide_eq_true hw]
      clear hw
      have h3n : n = 3 := by have := (heapB_facts HH.out).1; rw [LL_len, HL.out] at this; exact this
      have hN4 : cntL (LLof rs) ≤ 4 := (heapB_facts HH.out).2.1
      subst h3n
      obtain ⟨x0, _⟩ := X3.out.one
      go_wp2_with fail
      refine (numberOfDiscs_calls A 3 c rs _ HL.out hn HT.out HI3.out).mono ?_
      rintro e w3 ⟨rfl, hb3⟩
      have X4 := Lib.hid (X3.out.below hb3 X3.out.lt)
      have R4 := Lib.hid (R3.out.below hb3 R3.out.lt)
      have HB4 := Lib.hid (HB3.out.trans (hb3.mono HB3.out.size))
      have HI4 := Lib.hid (HI3.out.below hb3)
      clear hb3 X3 R3 HB3 HI3 x0
      obtain ⟨x0, _⟩ := X4.out.one
      obtain ⟨N, hN⟩ : ∃ N, N = totN rs := ⟨_, rfl⟩
      have HCN : Hid (N = cntL (LLof rs)) := by unfold Hid; rw [hN, HC.out]
      have hN4' : N ≤ 4 := by rw [HCN.out]; exact hN4
      rw [← hN]
      clear hN hN4
      have hmk := run_make_row' (P := Tryd.prog) 33 2 (.int .i64 0) 8 Tryd.underlying33 Tryd.infoI rfl .i64 .i64 N (by omega) (by omega)
      have hz3 := X4.out.lt
      have hzr := R4.out.lt
      have HAL := Lib.hid ((Below.refl w3.heap.size w3).alloc (Nat.le_refl _) (.cells (madeCells #[.int .i64 0] N) 2))
      have HRW := Lib.hid (World.rowIs_made w3 (.int .i64 0) N 2)
      go_wp2
      go_loopw [7, 8, 10, 30] (fun _ _ _ i wr => ∃ a : Nat, a ≤ 3 ∧ i = .int .i64 a ∧ wr.rowIs w3.heap.size 2 N (fun d => .int .i64 (llF (LLof rs) a d)) ∧ Below w3.heap.size w3 wr) (fun _ _ _ i _ => 3 - (intOf i).toNat)
      case atStart => exact ⟨0, by omega, rfl, HRW.out, HAL.out⟩
      case round =>
        obtain ⟨a, ha, rfl, hrow, hbl⟩ := hrel
        have HR := Lib.hid hrow
        have HBl := Lib.hid hbl
        clear hrow hbl x0
        by_cases hlt : a < 3
        · obtain ⟨r, hr⟩ := get_of_lt (rs := rs) (k := a) (by rw [HL.out]; exact hlt)
          have HLa := Lib.hid (LL_at hr)
          have hst4 := heap_stack HH.out HLa.out
          have HRr := Lib.hid hr
          obtain ⟨ad, hA, had, hc, hll, hi⟩ := (HI4.out.below HBl.out) a _ hr
          have hll := Lib.hid hll
          clear hr hi
          obtain ⟨rA, rn, rc, rd, rL⟩ := r
          change Hid (rL.length = rn) at hll
          change Hid ((LLof rs)[a]? = some rL) at HLa
          change _ = some (Value.slice rA rn rc) at hc
          change rL.length ≤ 4 ∧ ∀ x ∈ rL, 0 ≤ x ∧ x < cntL (LLof rs) ∧ x ≤ 4 at hst4
          have HS4 := Lib.hid hst4.2
          have hrn : rn ≤ 4 := by rw [← hll.out]; exact hst4.1
          clear hst4
          have hlt2 : (a : Int) < 3 := by omega
          subst hA
          go_wp2
          go_loopw [10, 37] (fun _ i wq => ∃ j : Nat, j ≤ rn ∧ i = .int .i64 j ∧ wq.rowIs w3.heap.size 2 N (fun d => .int .i64 (curF (LLof rs) a j d)) ∧ Below w3.heap.size w3 wq) (fun _ i _ => rn - (intOf i).toNat)
          case atStart => exact ⟨0, by omega, rfl, by rw [curF_zero]; exact HR.out, HBl.out⟩
          case round =>
            obtain ⟨j, hj, rfl, hrow, hbl⟩ := hrel
            have HR2 := Lib.hid hrow
            have HB5 := Lib.hid hbl
            have hi : Ints wr rA rL := by
              obtain ⟨_, _, _, _, _, hi⟩ := (HI4.out.below hbl) a _ HRr.out
              exact hi
            clear hrow hbl
            by_cases hjl : j < rn
            · obtain ⟨ae, hae, had2, hcd⟩ := hi j (by rw [hll.out]; exact hjl)
              subst hae
              have hjl2 : (j : Int) < (rn : Int) := by omega
              have hst := Lib.hid (curF_step HLa.out (i := j) (by rw [hll.out]; exact hjl))
              have hmem : rL[j]?.getD 0 ∈ rL := by
                have hj2 : j < rL.length := by rw [hll.out]; exact hjl
                rw [List.getElem?_eq_getElem hj2, Option.getD_some]
                exact List.getElem_mem hj2
              have hrange := HS4.out _ hmem
              rw [← HCN.out] at hrange
              have hcd2 : wr.cell? (ae.add j) = some (.int .i64 (rL[j]?.getD 0)) := by rw [hcd, List.getD_eq_getElem?_getD]
              clear hcd hi hmem
              generalize rL[j]?.getD 0 = x at *
              obtain ⟨hx0, hx1, _⟩ := hrange
              obtain ⟨d, rfl⟩ := Int.eq_ofNat_of_zero_le hx0
              have hdN : d < N := by omega
              have hm := HR2.out.cell hdN
              have hmf := HR2.out.frozen d
              go_wp2
              go_roundw
              case rel =>
                refine ⟨j + 1, by omega, by go_num, ?_, HB5.out.setCell (Nat.le_refl _) _⟩
                rw [hst.out]
                exact (HR2.out.set d _).congr (fun i _ => setF_val _ d i _)
              case measure => simp [intOf]; omega
            · obtain rfl : j = rn := by omega
              have hnx := Lib.hid (curF_next HLa.out)
              have e : Hid (curF (LLof rs) a j = llF (LLof rs) (a + 1)) := by unfold Hid; rw [← hnx.out, hll.out]
              go_wp2
              go_roundw
              case rel => exact ⟨a + 1, by omega, by go_num, by rw [← e.out]; exact HR2.out, HB5.out⟩
              case measure => simp [intOf]; omega
        · obtain rfl : a = 3 := by omega
          have R5 := Lib.hid (R4.out.below HBl.out R4.out.lt)
          obtain ⟨r0, r1, rf0, rf1⟩ := R5.out.two
          have hzr4 := R5.out.lt
          go_wp2
          obtain ⟨q1, q2, q3⟩ := HD.out
          rw [q1, q2, q3]
          have R6 : Box _ (w.heap.size + 1) 35 #[.int .i64 3, .slice (some ⟨w3.heap.size, 0, none⟩) N N] := (R5.out.set 0 (.int .i64 3)).set 1 (.slice (some ⟨w3.heap.size, 0, none⟩) N N)
          obtain ⟨z0, z1, _, _⟩ := R6.two
          refine bodyPost_ret (v := .tuple #[.agg #[.int .i64 3, .slice (some ⟨w3.heap.size, 0, none⟩) N N], .int .i64 0]) (by simp [results, Tryd.results15, go_sem, z0, z1]) rfl ?_
          have hrw := row_pos ((HR.out.setOther (a := ⟨w.heap.size + 1, 0, none⟩) (by simp; omega) (.int .i64 3)).setOther (a := ⟨w.heap.size + 1, 1, none⟩) (by simp; omega) (.slice (some ⟨w3.heap.size, 0, none⟩) N N)) HCN.out
          have hlp : (posL (LLof rs)).length = N := by rw [posL_len, HCN.out]
          have ho := hrw.own (B := w.heap.size) HB4.out.size (by rw [hlp]; omega)
          rw [hlp] at ho ⊢
          exact ⟨_, N, rfl, ho, (((HB4.out.trans (HBl.out.mono HB4.out.size)).setCell (by simp) _).setCell (by simp) _)⟩
    · have HD := Lib.hid (soh_wrong HH.out hw)
      rw [decide_eq_false hw]
      clear hw
      obtain ⟨r0, r1, rf0, rf1⟩ := R3.out.two
      go_wp2
      obtain ⟨q1, q2, q3⟩ := HD.out
      rw [q1, q2, q3]
      have R4 := (R3.out.set 0 (.int .i64 0)).set 1 (.slice none 0 0)
      obtain ⟨z0, z1, _, _⟩ := Box.two (u := .int .i64 0) (v := .slice none 0 0) R4
      refine bodyPost_ret (v := .tuple #[.agg #[.int .i64 0, .slice none 0 0], .int .i64 5]) (by simp [results, Tryd.results15, go_sem, z0, z1]) rfl ?_
      exact retState_zero rfl ((HB3.out.setCell (by simp) _).setCell (by simp) _)

end Go.Proofs.YtdifolaobgclgaaDoor
