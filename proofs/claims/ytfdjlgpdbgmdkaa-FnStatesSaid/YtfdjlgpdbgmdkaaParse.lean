/- Contracts: the state of a text. -/
import Derived.Test.YtfdjlgpdbgmdkaaMark
import Derived.Test.YtfdjlgpdbgmdkaaState1
import Derived.Deep.AppendLies
import Derived.Deep.RegionLaw
namespace Go.Proofs.Ytfdjlgpdbgmdkaa
open Go.RowKit
set_option linter.unusedVariables false
set_option maxRecDepth 100000

/-- The number of the byte at a place, as a digit. -/
def dgt (s : ByteArray) (i : Nat) : Int := ((s.data.toList.getD i 0).toNat : Int) - 48
/-- The first k numbers from the end on. -/
def prsL (s : ByteArray) (k : Nat) : List Int := (List.range k).map (fun j => dgt s (s.size - 1 - j))
theorem prsL_len (s : ByteArray) (k : Nat) : (prsL s k).length = k := by simp [prsL]
theorem prsL_succ (s : ByteArray) (k : Nat) : prsL s (k + 1) = prsL s k ++ [dgt s (s.size - 1 - k)] := by simp [prsL, List.range_succ]

theorem dgt_at (s : ByteArray) {i : Nat} (h : i < s.size) : dgt s i = ((s[i]'h).toNat : Int) - 48 := by
  have h' : i < s.data.toList.length := by simpa using h
  unfold dgt
  rw [List.getD_eq_getElem?_getD, List.getElem?_eq_getElem h', Option.getD_some]
  rfl
/-- Whether the text has the form of a state's, and the byte 1 is a colon. -/
def formT (s : ByteArray) : Bool := decide (2 ≤ s.size ∧ s.size ≤ 10 ∧ dgt s 1 = 10)
def okT (s : ByteArray) : Bool := formT s && stateB (dgt s 0) (prsL s (s.size - 2))
def psP (s : ByteArray) : Int := if okT s = true then dgt s 0 else 0
def psL (s : ByteArray) : List Int := if okT s = true then prsL s (s.size - 2) else []
def psE (s : ByteArray) : Int := if okT s = true then 0 else 6
theorem ps_yes {s : ByteArray} (h : okT s = true) : psP s = dgt s 0 ∧ psL s = prsL s (s.size - 2) ∧ psE s = 0 := by unfold psP psL psE; simp [h]
theorem ps_no {s : ByteArray} (h : okT s = false) : psP s = 0 ∧ psL s = [] ∧ psE s = 6 := by unfold psP psL psE; simp [h]
theorem psL_len (s : ByteArray) : (psL s).length ≤ 1048576 := by
  unfold psL
  by_cases h : okT s = true
  · rw [if_pos h, prsL_len]
    unfold okT formT at h
    simp only [Bool.and_eq_true, decide_eq_true_iff] at h
    omega
  · rw [if_neg h]; simp
theorem okT_no {s : ByteArray} (h : formT s = false) : okT s = false := by unfold okT; rw [h]; rfl

/-- A state and a bool are the answer. -/
def RetSB (w : World) (P : Int) (n : Nat) (L : List Int) (b : Bool) (e : Ending) (w' : World) : Prop :=
  ∃ A c, e = .returned (.tuple #[.agg #[.int .i64 P, .slice A n c], .bool b]) ∧ Own w.heap.size w' A n c L ∧ Below w.heap.size w w'
theorem retSB_zero {w w' : World} {e : Ending} {b : Bool} (he : e = .returned (.tuple #[.agg #[.int .i64 0, .slice none 0 0], .bool b])) (hb : Below w.heap.size w w') : RetSB w 0 ([] : List Int).length [] b e w' :=
  ⟨none, 0, he, Own.nilS _ _, hb⟩
theorem retState_none {w w' : World} {e : Ending} {E : Int} (he : e = .returned (.tuple #[.agg #[.int .i64 0, .slice none 0 0], .int .i64 E])) (hb : Below w.heap.size w w') : RetState w 0 ([] : List Int).length [] E e w' :=
  ⟨none, 0, he, Own.nilS _ _, hb⟩

theorem digitValue_calls (b : Int) (w : World) (h0 : 0 ≤ b) (h1 : b < 256) :
    Calls Try.prog 46 #[.int .u8 b] w fun e w' => e = .returned (.int .i64 (b - 48)) ∧ w = w' := by
  go_enter Try.func46, Try.ntmps46
  go_wp2
  go_ret
  exact ⟨rfl, rfl⟩

set_option maxHeartbeats 2000000 in
theorem l01Read_yes (s : ByteArray) (w : World) (hf : formT s = true) :
    Calls Try.prog 69 #[.string s] w (RetSB w (psP s) (psL s).length (psL s) (okT s)) := by
  obtain ⟨i0, hi, hz0, hz1, hz2⟩ := info_parts Try.infoI
  have hf' := hf
  unfold formT at hf'
  rw [decide_eq_true_iff] at hf'
  obtain ⟨hs2, hs10, hd1⟩ := hf'
  have hok : Hid (stateB (dgt s 0) (prsL s (s.size - 2)) = okT s) := by unfold Hid okT; rw [hf]; rfl
  rw [dgt_at s (show 1 < s.size by omega)] at hd1
  have hb1 : ((s[1]'(by omega)).toNat : Int) = 58 := by omega
  have hd0 := Lib.hid (dgt_at s (show 0 < s.size by omega))
  obtain ⟨b0, hb0⟩ : ∃ b : Nat, (s[0]'(show 0 < s.size by omega)).toNat = b := ⟨_, rfl⟩
  have hb0' : b0 < 256 := by rw [← hb0]; exact UInt8.toNat_lt _
  have hD0 : Hid (dgt s 0 = (b0 : Int) - 48) := by unfold Hid; rw [hd0.out, hb0]
  have ht1 : decide ((s.size : Int) < 2) = false := by simp; omega
  have ht2 : decide (10 < (s.size : Int)) = false := by simp; omega
  clear hd1 hd0 hf
  go_enter Try.func69, Try.ntmps69
  go_wp2
  go_loopw [5] (fun i wr => ∃ k m : Nat, m + k + 1 = s.size ∧ 1 ≤ m ∧ i = .int .i64 m ∧ ∃ A c, Box wr (w.heap.size + 1 + 1) 26 #[.int .i64 ((b0 : Int) - 48), .slice A k c] ∧ Own (w.heap.size + 1) wr A k c (prsL s k) ∧ Box wr w.heap.size 26 #[.int .i64 0, .slice none 0 0] ∧ Below w.heap.size w wr) (fun i _ => (intOf i).toNat)
  case atStart =>
    have e1 : Box (w.alloc (.cells #[.int .i64 0, .slice none 0 0] 26)) w.heap.size 26 #[.int .i64 0, .slice none 0 0] := Box.new _ _ _
    have e2 : Box ((w.alloc (.cells #[.int .i64 0, .slice none 0 0] 26)).alloc (.cells #[] 2)) (w.heap.size + 1) 2 #[] := by
      have := Box.new (w.alloc (.cells #[.int .i64 0, .slice none 0 0] 26)) 2 #[]
      simpa using this
    have e3 := Box.new ((w.alloc (.cells #[.int .i64 0, .slice none 0 0] 26)).alloc (.cells #[] 2)) 26 #[.int .i64 ((b0 : Int) - 48), .slice (some ⟨w.heap.size + 1, 0, none⟩) 0 0]
    simp only [World.size_alloc] at e3
    exact ⟨0, s.size - 1, by omega, by omega, by go_num, _, _, e3, Own.emptyAt (e2.alloc _) (Nat.le_refl _), (e1.alloc _).alloc _, (((Below.refl _ _).alloc (Nat.le_refl _) _).alloc (by simp) _).alloc (by simp; omega) _⟩
  case round =>
    obtain ⟨k, m, hkm, hm1, rfl, A, c, hbx, hown, hbr, hb⟩ := hrel
    have HKM := Lib.hid hkm
    obtain ⟨c0, c1, f0, f1⟩ := hbx.two
    have HBX := Lib.hid hbx
    have HBR := Lib.hid hbr
    have HB := Lib.hid hb
    have hs := hb.size
    have hsx := hbx.lt
    have hi1 : (m : Int) < (s.size : Int) := by omega
    have hi0 : (0 : Int) ≤ (m : Int) := by omega
    have hk10 : k ≤ 10 := by omega
    clear hbx hbr hb
    by_cases hlt : 1 < m
    · have hms : m < s.size := by omega
      obtain ⟨b, hbe⟩ : ∃ b : Nat, (s[m]'hms).toNat = b := ⟨_, rfl⟩
      have hbb : b < 256 := by rw [← hbe]; exact UInt8.toNat_lt _
      have hst : Hid (prsL s (k + 1) = prsL s k ++ [(b : Int) - 48]) := by
        unfold Hid
        rw [prsL_succ, show s.size - 1 - k = m by omega, dgt_at s hms, hbe]
      have hdl : Hid ((prsL s k).length = k) := prsL_len s k
      clear hkm
      generalize prsL s k = D at *
      have hw1 : IntKind.i64.wrap (b : Int) = (b : Int) := IntWalk.i64_in _ (by omega)
      have hw2 : IntKind.i64.wrap ((b : Int) - 48) = (b : Int) - 48 := IntWalk.i64_in _ (by omega)
      go_wp2_with fail
      go_region_law (first | (refine step_append_lies _ (by rfl) _ _ _ (by rfl) (w.heap.size + 1) 2 i0 _ 1 8 Try.underlying24 hi hz0 hz1 hz2 rfl (by omega) (.slice A k c) k (D.map (Value.int .i64)) (by rfl) ((hown.alloc _).drew) ⟨wr.heap.size, 0, none⟩ 1 1 [.int .i64 ((b : Int) - 48)] (by rfl) (by rfl) (World.news_of_block (cs := #[.int .i64 ((b : Int) - 48)]) (t := 2) (fr := (0, 0)) (heap_alloc_new wr _)) (by simp [Value.oneCell']) (by omega) (by unfold maxLen; omega) (by omega) (by simp; omega) (wr.heap.size + 1) (by simp) ?_; intro gg cap w1 hown1 hgrow hat hlt2; have HP := Lib.hid (Own.pushed hown (grown_undrew hgrow) hown1); clear hgrow hown1; obtain ⟨d0, d1, g0, g1⟩ := (HP.out.2.1 _ _ _ HBX.out (by decide)).two))
      all_goals
        clear hw1 hw2
        go_wp2
        go_roundw
        case rel =>
          refine ⟨k + 1, m - 1, by have := HKM.out; omega, by omega, by go_num, some ⟨gg, 0, none⟩, cap, ?_, ?_, ?_, ?_⟩
          · exact (HP.out.2.1 _ _ _ HBX.out (by decide)).set 1 _
          · rw [hst.out]
            exact HP.out.1.setBoxed (HP.out.2.1 _ _ _ HBX.out (by decide)) (by decide) _ _
          · exact (HP.out.2.1 _ _ _ HBR.out (by decide)).other (by simp; try omega) _
          · exact (HB.out.trans (HP.out.2.2.2 _ (by omega) hs)).setCell (by simp; try omega) _
        case measure => simp [intOf]; omega
    · obtain rfl : m = 1 := by omega
      obtain rfl : k = s.size - 2 := by omega
      clear hkm
      have hpl : Hid ((prsL s (s.size - 2)).length = s.size - 2) := prsL_len _ _
      go_wp2_with fail
      refine (l01Is_calls A (s.size - 2) c ((b0 : Int) - 48) (prsL s (s.size - 2)) _ hpl.out (by omega) hown.ints).mono ?_
      rintro e w1 ⟨rfl, hb1⟩
      rw [← hD0.out, hok.out, hD0.out]
      have HBX1 := Lib.hid (HBX.out.below hb1 HBX.out.lt)
      have HBR1 := Lib.hid (HBR.out.below hb1 HBR.out.lt)
      have HO1 := Lib.hid (hown.below hb1)
      have HB1 := Lib.hid (HB.out.trans (hb1.mono hs))
      obtain ⟨x0, x1, _, _⟩ := HBX1.out.two
      obtain ⟨r0, r1, _, _⟩ := HBR1.out.two
      clear hb1 hown c0 c1 f0 f1
      by_cases ho : okT s = true
      · have Q := Lib.hid (ps_yes ho)
        go_wp2
        refine bodyPost_ret (v := .tuple #[.agg #[.int .i64 ((b0 : Int) - 48), .slice A (s.size - 2) c], .bool true]) (by simp [results, Try.results69, go_sem, r0, r1]) rfl ?_
        obtain ⟨q1, q2, q3⟩ := Q.out
        rw [q1, q2, ho, hpl.out, hD0.out]
        refine ⟨A, c, rfl, ?_, ?_⟩
        · exact ((HO1.out.setBoxed HBR1.out (by decide) _ _).setBoxed (HBR1.out.set _ _) (by decide) _ _).mono (by omega)
        · exact (HB1.out.setCell (Nat.le_refl _) _).setCell (Nat.le_refl _) _
      · have ho' : okT s = false := by simpa using ho
        have Q := Lib.hid (ps_no ho')
        clear ho
        go_wp2
        refine bodyPost_ret (v := .tuple #[.agg #[.int .i64 0, .slice none 0 0], .bool false]) (by simp [results, Try.results69, go_sem, r0, r1]) rfl ?_
        obtain ⟨q1, q2, q3⟩ := Q.out
        rw [q1, q2, ho']
        refine retSB_zero rfl ?_
        first | exact HB1.out | exact (HB1.out.setCell (Nat.le_refl _) _).setCell (Nat.le_refl _) _

set_option maxHeartbeats 400000 in
theorem l01Read_no (s : ByteArray) (w : World) (hf : formT s = false) (hm : s.size ≤ 1000000000000000000) :
    Calls Try.prog 69 #[.string s] w (RetSB w (psP s) (psL s).length (psL s) (okT s)) := by
  have hok := okT_no hf
  obtain ⟨q1, q2, q3⟩ := ps_no hok
  rw [q1, q2, hok]
  clear q1 q2 q3 hok
  have HB0 := Lib.hid ((Below.refl w.heap.size w).alloc (Nat.le_refl _) (.cells #[.int .i64 0, .slice none 0 0] 26))
  unfold formT at hf
  rw [decide_eq_false_iff_not] at hf
  have HF := Lib.hid hf
  clear hf
  by_cases h2 : s.size < 2
  · have ht1 : decide ((s.size : Int) < 2) = true := by simp; omega
    go_enter Try.func69, Try.ntmps69
    go_wp2
    refine bodyPost_ret (v := .tuple #[.agg #[.int .i64 0, .slice none 0 0], .bool false]) (by simp [results, Try.results69, go_sem]) rfl (retSB_zero rfl ?_)
    first | exact HB0.out | exact (HB0.out.setCell (Nat.le_refl _) _).setCell (Nat.le_refl _) _
  have ht1 : decide ((s.size : Int) < 2) = false := by simp; omega
  have h2' : 2 ≤ s.size := by omega
  clear h2
  by_cases hb1 : ((s[1]'(by omega)).toNat : Int) = 58
  · by_cases h10 : 10 < s.size
    · have ht2 : decide (10 < (s.size : Int)) = true := by simp; omega
      go_enter Try.func69, Try.ntmps69
      go_wp2
      refine bodyPost_ret (v := .tuple #[.agg #[.int .i64 0, .slice none 0 0], .bool false]) (by simp [results, Try.results69, go_sem]) rfl (retSB_zero rfl ?_)
      first | exact HB0.out | exact (HB0.out.setCell (Nat.le_refl _) _).setCell (Nat.le_refl _) _
    · exact absurd (⟨h2', by omega, by rw [dgt_at s (show 1 < s.size by omega)]; omega⟩ : 2 ≤ s.size ∧ s.size ≤ 10 ∧ dgt s 1 = 10) HF.out
  · have ht3 : (((s[1]'(by omega)).toNat : Int) != 58) = true := by simpa using hb1
    go_enter Try.func69, Try.ntmps69
    go_wp2
    refine bodyPost_ret (v := .tuple #[.agg #[.int .i64 0, .slice none 0 0], .bool false]) (by simp [results, Try.results69, go_sem]) rfl (retSB_zero rfl ?_)
    first | exact HB0.out | exact (HB0.out.setCell (Nat.le_refl _) _).setCell (Nat.le_refl _) _

set_option maxHeartbeats 2000000 in
theorem implParse_yes (s : ByteArray) (w : World) (hf : formT s = true) :
    Calls Try.prog 12 #[.string s] w (RetState w (psP s) (psL s).length (psL s) (psE s)) := by
  obtain ⟨i0, hi, hz0, hz1, hz2⟩ := info_parts Try.infoI
  have hf' := hf
  unfold formT at hf'
  rw [decide_eq_true_iff] at hf'
  obtain ⟨hs2, hs10, hd1⟩ := hf'
  have hok : Hid (stateB (dgt s 0) (prsL s (s.size - 2)) = okT s) := by unfold Hid okT; rw [hf]; rfl
  rw [dgt_at s (show 1 < s.size by omega)] at hd1
  have hb1 : ((s[1]'(by omega)).toNat : Int) = 58 := by omega
  have hd0 := Lib.hid (dgt_at s (show 0 < s.size by omega))
  obtain ⟨b0, hb0⟩ : ∃ b : Nat, (s[0]'(show 0 < s.size by omega)).toNat = b := ⟨_, rfl⟩
  have hb0' : b0 < 256 := by rw [← hb0]; exact UInt8.toNat_lt _
  have hD0 : Hid (dgt s 0 = (b0 : Int) - 48) := by unfold Hid; rw [hd0.out, hb0]
  have ht1 : decide ((s.size : Int) < 2) = false := by simp; omega
  have ht2 : decide (10 < (s.size : Int)) = false := by simp; omega
  clear hd1 hd0 hf
  go_enter Try.func12, Try.ntmps12
  go_wp2_with fail
  refine (digitValue_calls _ _ ?_ ?_).mono ?_
  · omega
  · omega
  rintro e w' ⟨rfl, rfl⟩
  go_wp2
  go_loopw [5] (fun i wr => ∃ k m : Nat, m + k + 1 = s.size ∧ 1 ≤ m ∧ i = .int .i64 m ∧ ∃ A c, Box wr (w.heap.size + 1) 26 #[.int .i64 ((b0 : Int) - 48), .slice A k c] ∧ Own (w.heap.size + 1) wr A k c (prsL s k) ∧ Box wr w.heap.size 26 #[.int .i64 0, .slice none 0 0] ∧ Below w.heap.size w wr) (fun i _ => (intOf i).toNat)
  case atStart =>
    have e1 : Box (w.alloc (.cells #[.int .i64 0, .slice none 0 0] 26)) w.heap.size 26 #[.int .i64 0, .slice none 0 0] := Box.new _ _ _
    have e3 := Box.new (w.alloc (.cells #[.int .i64 0, .slice none 0 0] 26)) 26 #[.int .i64 ((b0 : Int) - 48), .slice none 0 0]
    simp only [World.size_alloc] at e3
    exact ⟨0, s.size - 1, by omega, by omega, by go_num, _, _, e3, Own.nilS _ _, e1.alloc _, ((Below.refl _ _).alloc (Nat.le_refl _) _).alloc (by simp) _⟩
  case round =>
    obtain ⟨k, m, hkm, hm1, rfl, A, c, hbx, hown, hbr, hb⟩ := hrel
    have HKM := Lib.hid hkm
    obtain ⟨c0, c1, f0, f1⟩ := hbx.two
    have HBX := Lib.hid hbx
    have HBR := Lib.hid hbr
    have HB := Lib.hid hb
    have hs := hb.size
    have hsx := hbx.lt
    have hi1 : (m : Int) < (s.size : Int) := by omega
    have hi0 : (0 : Int) ≤ (m : Int) := by omega
    have hk10 : k ≤ 10 := by omega
    clear hbx hbr hb
    by_cases hlt : 1 < m
    · have hms : m < s.size := by omega
      obtain ⟨b, hbe⟩ : ∃ b : Nat, (s[m]'hms).toNat = b := ⟨_, rfl⟩
      have hbb : b < 256 := by rw [← hbe]; exact UInt8.toNat_lt _
      have hst : Hid (prsL s (k + 1) = prsL s k ++ [(b : Int) - 48]) := by
        unfold Hid
        rw [prsL_succ, show s.size - 1 - k = m by omega, dgt_at s hms, hbe]
      have hdl : Hid ((prsL s k).length = k) := prsL_len s k
      clear hkm
      generalize prsL s k = D at *
      have hw1 : IntKind.i64.wrap (b : Int) = (b : Int) := IntWalk.i64_in _ (by omega)
      have hw2 : IntKind.i64.wrap ((b : Int) - 48) = (b : Int) - 48 := IntWalk.i64_in _ (by omega)
      go_wp2_with fail
      go_region_law (first | (refine step_append_lies _ (by rfl) _ _ _ (by rfl) (w.heap.size + 1) 2 i0 _ 1 8 Try.underlying24 hi hz0 hz1 hz2 rfl (by omega) (.slice A k c) k (D.map (Value.int .i64)) (by rfl) ((hown.alloc _).drew) ⟨wr.heap.size, 0, none⟩ 1 1 [.int .i64 ((b : Int) - 48)] (by rfl) (by rfl) (World.news_of_block (cs := #[.int .i64 ((b : Int) - 48)]) (t := 2) (fr := (0, 0)) (heap_alloc_new wr _)) (by simp [Value.oneCell']) (by omega) (by unfold maxLen; omega) (by omega) (by simp; omega) (wr.heap.size + 1) (by simp) ?_; intro gg cap w1 hown1 hgrow hat hlt2; have HP := Lib.hid (Own.pushed hown (grown_undrew hgrow) hown1); clear hgrow hown1; obtain ⟨d0, d1, g0, g1⟩ := (HP.out.2.1 _ _ _ HBX.out (by decide)).two) | (go_simp; go_at_call 46; refine (digitValue_calls _ _ ?_ ?_).mono ?_; (omega); (omega); rintro e w' ⟨rfl, rfl⟩))
      all_goals
        clear hw1 hw2
        go_wp2
        go_roundw
        case rel =>
          refine ⟨k + 1, m - 1, by have := HKM.out; omega, by omega, by go_num, some ⟨gg, 0, none⟩, cap, ?_, ?_, ?_, ?_⟩
          · exact (HP.out.2.1 _ _ _ HBX.out (by decide)).set 1 _
          · rw [hst.out]
            exact HP.out.1.setBoxed (HP.out.2.1 _ _ _ HBX.out (by decide)) (by decide) _ _
          · exact (HP.out.2.1 _ _ _ HBR.out (by decide)).other (by simp; try omega) _
          · exact (HB.out.trans (HP.out.2.2.2 _ (by omega) hs)).setCell (by simp; try omega) _
        case measure => simp [intOf]; omega
    · obtain rfl : m = 1 := by omega
      obtain rfl : k = s.size - 2 := by omega
      clear hkm
      have hpl : Hid ((prsL s (s.size - 2)).length = s.size - 2) := prsL_len _ _
      go_wp2_with fail
      refine (implIsState_calls A (s.size - 2) c ((b0 : Int) - 48) (prsL s (s.size - 2)) _ hpl.out (by omega) hown.ints).mono ?_
      rintro e w1 ⟨rfl, hb1⟩
      rw [← hD0.out, hok.out, hD0.out]
      have HBX1 := Lib.hid (HBX.out.below hb1 HBX.out.lt)
      have HBR1 := Lib.hid (HBR.out.below hb1 HBR.out.lt)
      have HO1 := Lib.hid (hown.below hb1)
      have HB1 := Lib.hid (HB.out.trans (hb1.mono hs))
      obtain ⟨x0, x1, _, _⟩ := HBX1.out.two
      obtain ⟨r0, r1, _, _⟩ := HBR1.out.two
      clear hb1 hown c0 c1 f0 f1
      by_cases ho : okT s = true
      · have Q := Lib.hid (ps_yes ho)
        go_wp2
        refine bodyPost_ret (v := .tuple #[.agg #[.int .i64 ((b0 : Int) - 48), .slice A (s.size - 2) c], .int .i64 0]) (by simp [results, Try.results12, go_sem, r0, r1]) rfl ?_
        obtain ⟨q1, q2, q3⟩ := Q.out
        rw [q1, q2, q3, hpl.out, hD0.out]
        refine ⟨A, c, rfl, ?_, ?_⟩
        · exact ((HO1.out.setBoxed HBR1.out (by decide) _ _).setBoxed (HBR1.out.set _ _) (by decide) _ _).mono (by omega)
        · exact (HB1.out.setCell (Nat.le_refl _) _).setCell (Nat.le_refl _) _
      · have ho' : okT s = false := by simpa using ho
        have Q := Lib.hid (ps_no ho')
        clear ho
        go_wp2
        refine bodyPost_ret (v := .tuple #[.agg #[.int .i64 0, .slice none 0 0], .int .i64 6]) (by simp [results, Try.results12, go_sem, r0, r1]) rfl ?_
        obtain ⟨q1, q2, q3⟩ := Q.out
        rw [q1, q2, q3]
        refine retState_none rfl ?_
        first | exact HB1.out | exact (HB1.out.setCell (Nat.le_refl _) _).setCell (Nat.le_refl _) _

theorem l01Read_ret (s : ByteArray) (w : World) (hm : s.size ≤ 1000000000000000000) :
    Calls Try.prog 69 #[.string s] w (RetSB w (psP s) (psL s).length (psL s) (okT s)) := by
  by_cases hf : formT s = true
  · exact l01Read_yes s w hf
  · exact l01Read_no s w (by simpa using hf) hm

set_option maxHeartbeats 400000 in
theorem specParseState_ret (s : ByteArray) (w : World) (hm : s.size ≤ 1000000000000000000) :
    Calls Try.prog 29 #[.string s] w (RetState w (psP s) (psL s).length (psL s) (psE s)) := by
  have hbx : Box (w.alloc (.cells #[.int .i64 0, .slice none 0 0] 26)) w.heap.size 26 #[.int .i64 0, .slice none 0 0] := Box.new _ _ _
  have HBX := Lib.hid hbx
  have HB0 := Lib.hid ((Below.refl w.heap.size w).alloc (Nat.le_refl _) (.cells #[.int .i64 0, .slice none 0 0] 26))
  clear hbx
  by_cases ho : okT s = true
  · have Q := Lib.hid (ps_yes ho)
    go_enter Try.func29, Try.ntmps29
    go_wp2_with fail
    refine (l01Read_ret s _ hm).mono ?_
    rintro e w1 ⟨A, c, rfl, hO, hb⟩
    have HBX1 := Lib.hid ((HBX.out.below hb (by simp)).alloc (.cells #[.int .i64 (psP s), .slice A (psL s).length c] 26))
    have HO := Lib.hid (hO.below ((Below.refl _ _).alloc (Nat.le_refl _) (.cells #[.int .i64 (psP s), .slice A (psL s).length c] 26)))
    have HB := Lib.hid ((HB0.out.trans (hb.mono (by simp))).alloc (by have := hb.size; simp at this; omega) (.cells #[.int .i64 (psP s), .slice A (psL s).length c] 26))
    obtain ⟨r0, r1, g0, g1⟩ := HBX1.out.two
    clear hO hb
    generalize psL s = L at *
    generalize psP s = P at *
    go_wp2
    refine bodyPost_ret (v := .tuple #[.agg #[.int .i64 P, .slice A L.length c], .int .i64 0]) (by simp [results, Try.results29, go_sem, r0, r1]) rfl ?_
    rw [Q.out.2.2]
    refine ⟨A, c, rfl, ?_, ?_⟩
    · have h2 := HO.out.mono (B' := w.heap.size) (by simp)
      exact (h2.setBoxed HBX1.out (by decide) _ _).setBoxed (HBX1.out.set _ _) (by decide) _ _
    · exact (HB.out.setCell (Nat.le_refl _) _).setCell (Nat.le_refl _) _
  · have ho' : okT s = false := by simpa using ho
    have Q := Lib.hid (ps_no ho')
    clear ho
    go_enter Try.func29, Try.ntmps29
    go_wp2_with fail
    refine (l01Read_ret s _ hm).mono ?_
    rintro e w1 ⟨A, c, rfl, hO, hb⟩
    have HBX1 := Lib.hid ((HBX.out.below hb (by simp)).alloc (.cells #[.int .i64 (psP s), .slice A (psL s).length c] 26))
    have HBA := Lib.hid (HB0.out.trans (hb.mono (by simp)))
    have hzz : w.heap.size ≤ w1.heap.size := by have := hb.size; simp at this; omega
    obtain ⟨r0, r1, g0, g1⟩ := HBX1.out.two
    clear hO hb
    generalize psL s = L at *
    generalize psP s = P at *
    go_wp2
    refine bodyPost_ret (v := .tuple #[.agg #[.int .i64 0, .slice none 0 0], .int .i64 6]) (by simp [results, Try.results29, go_sem, r0, r1]) rfl ?_
    obtain ⟨q1, q2, q3⟩ := Q.out
    rw [q1, q2, q3]
    refine retState_none rfl ?_
    exact ((HBA.out.alloc hzz _).setCell (Nat.le_refl _) _).setCell (Nat.le_refl _) _

set_option maxHeartbeats 400000 in
theorem implParse_no (s : ByteArray) (w : World) (hf : formT s = false) (hm : s.size ≤ 1000000000000000000) :
    Calls Try.prog 12 #[.string s] w (RetState w (psP s) (psL s).length (psL s) (psE s)) := by
  have hok := okT_no hf
  obtain ⟨q1, q2, q3⟩ := ps_no hok
  rw [q1, q2, q3]
  clear q1 q2 q3 hok
  have HB0 := Lib.hid ((Below.refl w.heap.size w).alloc (Nat.le_refl _) (.cells #[.int .i64 0, .slice none 0 0] 26))
  unfold formT at hf
  rw [decide_eq_false_iff_not] at hf
  have HF := Lib.hid hf
  clear hf
  by_cases h2 : s.size < 2
  · have ht1 : decide ((s.size : Int) < 2) = true := by simp; omega
    go_enter Try.func12, Try.ntmps12
    go_wp2
    refine bodyPost_ret (v := .tuple #[.agg #[.int .i64 0, .slice none 0 0], .int .i64 6]) (by simp [results, Try.results12, go_sem]) rfl (retState_none rfl ?_)
    first | exact HB0.out | exact (HB0.out.setCell (Nat.le_refl _) _).setCell (Nat.le_refl _) _
  have ht1 : decide ((s.size : Int) < 2) = false := by simp; omega
  have h2' : 2 ≤ s.size := by omega
  clear h2
  by_cases h10 : 10 < s.size
  · have ht2 : decide (10 < (s.size : Int)) = true := by simp; omega
    go_enter Try.func12, Try.ntmps12
    go_wp2
    refine bodyPost_ret (v := .tuple #[.agg #[.int .i64 0, .slice none 0 0], .int .i64 6]) (by simp [results, Try.results12, go_sem]) rfl (retState_none rfl ?_)
    first | exact HB0.out | exact (HB0.out.setCell (Nat.le_refl _) _).setCell (Nat.le_refl _) _
  · have ht2 : decide (10 < (s.size : Int)) = false := by simp; omega
    have h10' : s.size ≤ 10 := by omega
    clear h10
    by_cases hb1 : ((s[1]'(by omega)).toNat : Int) = 58
    · exact absurd (⟨h2', h10', by rw [dgt_at s (show 1 < s.size by omega)]; omega⟩ : 2 ≤ s.size ∧ s.size ≤ 10 ∧ dgt s 1 = 10) HF.out
    · have ht3 : (((s[1]'(by omega)).toNat : Int) != 58) = true := by simpa using hb1
      go_enter Try.func12, Try.ntmps12
      go_wp2
      refine bodyPost_ret (v := .tuple #[.agg #[.int .i64 0, .slice none 0 0], .int .i64 6]) (by simp [results, Try.results12, go_sem]) rfl (retState_none rfl ?_)
      first | exact HB0.out | exact (HB0.out.setCell (Nat.le_refl _) _).setCell (Nat.le_refl _) _

theorem implParseState_ret (s : ByteArray) (w : World) (hm : s.size ≤ 1000000000000000000) :
    Calls Try.prog 12 #[.string s] w (RetState w (psP s) (psL s).length (psL s) (psE s)) := by
  by_cases hf : formT s = true
  · exact implParse_yes s w hf
  · exact implParse_no s w (by simpa using hf) hm

end Go.Proofs.Ytfdjlgpdbgmdkaa
