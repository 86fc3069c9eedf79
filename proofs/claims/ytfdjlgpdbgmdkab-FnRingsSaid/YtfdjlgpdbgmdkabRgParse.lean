/- Contracts: words of rings of texts. -/
import Derived.Test.YtfdjlgpdbgmdkabRings
import Derived.Test.YtfdjlgpdbgmdkabParse
import Derived.Test.YtfdjlgpdbgmdkabOwnI
namespace Go.Proofs.Ytfdjlgpdbgmdkab
open Go.RowKit
set_option linter.unusedVariables false

def okR (s : ByteArray) : Bool := decide (s.size ≤ 16) && rgB (prsL s s.size)
def prL (s : ByteArray) : List Int := if okR s = true then prsL s s.size else []
def prE (s : ByteArray) : Int := if okR s = true then 0 else 6
theorem pr_yes {s : ByteArray} (h : okR s = true) : prL s = prsL s s.size ∧ prE s = 0 := by unfold prL prE; simp [h]
theorem pr_no {s : ByteArray} (h : okR s = false) : prL s = [] ∧ prE s = 6 := by unfold prL prE; simp [h]
theorem prL_len (s : ByteArray) : (prL s).length ≤ 1048576 := by
  unfold prL
  by_cases h : okR s = true
  · rw [if_pos h, prsL_len]
    unfold okR at h
    simp only [Bool.and_eq_true, decide_eq_true_iff] at h
    omega
  · rw [if_neg h]; simp
/-- A list and a bool are the answer. -/
def RetIntsB (w : World) (n : Nat) (L : List Int) (b : Bool) (e : Ending) (w' : World) : Prop :=
  ∃ A c, e = .returned (.tuple #[.slice A n c, .bool b]) ∧ Own w.heap.size w' A n c L ∧ Below w.heap.size w w'
theorem retIntsB_zero {w w' : World} {e : Ending} {b : Bool} (he : e = .returned (.tuple #[.slice none 0 0, .bool b])) (hb : Below w.heap.size w w') : RetIntsB w ([] : List Int).length [] b e w' :=
  ⟨none, 0, he, Own.nilS _ _, hb⟩

set_option maxHeartbeats 2000000 in
theorem l05Read_any (s : ByteArray) (w : World) (hm : s.size ≤ 1000000000000000000) :
    Calls Try.prog 51 #[.string s] w (RetIntsB w (prL s).length (prL s) (okR s)) := by
  by_cases h16 : s.size ≤ 16
  · obtain ⟨i0, hi, hz0, hz1, hz2⟩ := info_parts Try.infoI
    have hok : Hid (rgB (prsL s s.size) = okR s) := by unfold Hid okR; rw [decide_eq_true h16]; rfl
    have ht2 : decide (16 < (s.size : Int)) = false := by simp; omega
    go_enter Try.func51, Try.ntmps51
    go_wp2
    go_loopw [4, 5] (fun v i wr => ∃ k m : Nat, m + k = s.size ∧ i = .int .i64 ((m : Int) - 1) ∧ (∃ A c, v = .slice A k c ∧ OwnG 2 1 w.heap.size wr A k c ((prsL s k).map (Value.int .i64))) ∧ Below w.heap.size w wr) (fun _ i _ => (intOf i + 1).toNat)
    case atStart =>
      have e2 := Box.new w 2 #[]
      exact ⟨0, s.size, by omega, rfl, ⟨_, _, rfl, OwnG.emptyAt e2 (Nat.le_refl _)⟩, (Below.refl _ _).alloc (Nat.le_refl _) _⟩
    case round =>
      obtain ⟨k, m, hkm, rfl, ⟨A, c, rfl, hown⟩, hb⟩ := hrel
      have HKM := Lib.hid hkm
      have HB := Lib.hid hb
      have hsz := hb.size
      have hk : k ≤ 16 := by omega
      clear hb
      by_cases hlt : 0 < m
      · obtain ⟨j, rfl⟩ : ∃ j, m = j + 1 := ⟨m - 1, by omega⟩
        have hms : j < s.size := by omega
        obtain ⟨b, hbe⟩ : ∃ b : Nat, (s[j]'hms).toNat = b := ⟨_, rfl⟩
        have hbb : b < 256 := by rw [← hbe]; exact UInt8.toNat_lt _
        have hst : Hid (prsL s (k + 1) = prsL s k ++ [(b : Int) - 48]) := by
          unfold Hid
          rw [prsL_succ, show s.size - 1 - k = j by omega, dgt_at s hms, hbe]
        have hdl : Hid ((prsL s k).length = k) := prsL_len s k
        have hidx : ((j + 1 : Nat) : Int) - 1 = (j : Int) := by omega
        have hj1 : (j : Int) < (s.size : Int) := by omega
        rw [hidx]
        clear hkm hidx
        generalize prsL s k = D at *
        go_wp2_with (at_builtin; refine wpList_append_own _ rfl _ _ 24 rfl w.heap.size 2 i0 (.int .i64 0) 1 8 Try.underlying24 hi hz0 hz1 hz2 rfl (by decide) _ _ _ rfl (hown.alloc _) ⟨wr.heap.size, 0, none⟩ 1 1 [.int .i64 ((b : Int) - 48)] rfl rfl (cell_one_new _ _ _) (by simp [Value.oneCell']) (by unfold maxLen; omega) (by omega) (by simp; omega) ?_; intro v' w4 hown' hgrow _; obtain ⟨A4, c4, rfl⟩ := ownG_shape hown'; have HO4 := Lib.hid hown'; have HB4 := Lib.hid (HB.out.trans (OwnG.grown_below hown hgrow (Nat.le_refl _) hsz)); clear hown' hgrow)
        go_roundw
        case rel =>
          refine ⟨k + 1, j, by have := HKM.out; omega, rfl, ⟨A4, c4, rfl, ?_⟩, HB4.out⟩
          rw [hst.out, List.map_append]
          exact HO4.out
        case measure => simp [intOf]
      · obtain rfl : m = 0 := by omega
        obtain rfl : k = s.size := by omega
        clear hkm
        have hpl : Hid ((prsL s s.size).length = s.size) := prsL_len _ _
        go_wp2_with fail
        refine (l05Is_calls A s.size c (prsL s s.size) _ hpl.out (by omega) (OwnG.intsG0 hown)).mono ?_
        rintro e w1 ⟨rfl, rfl⟩
        rw [hok.out]
        by_cases ho : okR s = true
        · have Q := Lib.hid (pr_yes ho)
          go_wp2
          go_ret2
          obtain ⟨q1, q2⟩ := Q.out
          rw [q1, ho, hpl.out]
          exact ⟨A, c, rfl, hown, HB.out⟩
        · have ho' : okR s = false := by simpa using ho
          have Q := Lib.hid (pr_no ho')
          clear ho
          go_wp2
          go_ret2
          obtain ⟨q1, q2⟩ := Q.out
          rw [q1, ho']
          exact retIntsB_zero rfl HB.out
  · have ho' : okR s = false := by unfold okR; rw [decide_eq_false h16]; rfl
    obtain ⟨q1, q2⟩ := pr_no ho'
    have ht2 : decide (16 < (s.size : Int)) = true := by simp; omega
    rw [q1, ho']
    clear q1 q2 ho' h16
    go_enter Try.func51, Try.ntmps51
    go_wp2
    go_ret2
    exact retIntsB_zero rfl (Below.refl _ _)

set_option maxHeartbeats 400000 in
theorem specParseRings_any (s : ByteArray) (w : World) (hm : s.size ≤ 1000000000000000000) :
    Calls Try.prog 26 #[.string s] w (RetInts w (prL s).length (prL s) (prE s)) := by
  by_cases ho : okR s = true
  · have Q := Lib.hid (pr_yes ho)
    go_enter Try.func26, Try.ntmps26
    go_wp2_with fail
    refine (l05Read_any s _ hm).mono ?_
    rintro e w1 ⟨A, c, rfl, hO, hb⟩
    have HO := Lib.hid hO
    have HB := Lib.hid hb
    clear hO hb
    generalize prL s = L at *
    go_wp2
    go_ret2
    rw [Q.out.2]
    exact ⟨A, c, rfl, HO.out, HB.out⟩
  · have ho' : okR s = false := by simpa using ho
    have Q := Lib.hid (pr_no ho')
    clear ho
    go_enter Try.func26, Try.ntmps26
    go_wp2_with fail
    refine (l05Read_any s _ hm).mono ?_
    rintro e w1 ⟨A, c, rfl, hO, hb⟩
    have HB := Lib.hid hb
    clear hO hb
    go_wp2
    go_ret2
    obtain ⟨q1, q2⟩ := Q.out
    rw [q1, q2]
    exact retInts_zero rfl HB.out

set_option maxHeartbeats 2000000 in
theorem implParseRings_any (s : ByteArray) (w : World) (hm : s.size ≤ 1000000000000000000) :
    Calls Try.prog 14 #[.string s] w (RetInts w (prL s).length (prL s) (prE s)) := by
  by_cases h16 : s.size ≤ 16
  · obtain ⟨i0, hi, hz0, hz1, hz2⟩ := info_parts Try.infoI
    have hok : Hid (rgB (prsL s s.size) = okR s) := by unfold Hid okR; rw [decide_eq_true h16]; rfl
    have ht2 : decide (16 < (s.size : Int)) = false := by simp; omega
    go_enter Try.func14, Try.ntmps14
    go_wp2
    go_loopw [4, 5] (fun v i wr => ∃ k m : Nat, m + k = s.size ∧ i = .int .i64 ((m : Int) - 1) ∧ (∃ A c, v = .slice A k c ∧ OwnG 2 1 w.heap.size wr A k c ((prsL s k).map (Value.int .i64))) ∧ Below w.heap.size w wr) (fun _ i _ => (intOf i + 1).toNat)
    case atStart => exact ⟨0, s.size, by omega, rfl, ⟨_, _, rfl, OwnG.nilS _ _ _ _⟩, Below.refl _ _⟩
    case round =>
      obtain ⟨k, m, hkm, rfl, ⟨A, c, rfl, hown⟩, hb⟩ := hrel
      have HKM := Lib.hid hkm
      have HB := Lib.hid hb
      have hsz := hb.size
      have hk : k ≤ 16 := by omega
      clear hb
      by_cases hlt : 0 < m
      · obtain ⟨j, rfl⟩ : ∃ j, m = j + 1 := ⟨m - 1, by omega⟩
        have hms : j < s.size := by omega
        obtain ⟨b, hbe⟩ : ∃ b : Nat, (s[j]'hms).toNat = b := ⟨_, rfl⟩
        have hbb : b < 256 := by rw [← hbe]; exact UInt8.toNat_lt _
        have hst : Hid (prsL s (k + 1) = prsL s k ++ [(b : Int) - 48]) := by
          unfold Hid
          rw [prsL_succ, show s.size - 1 - k = j by omega, dgt_at s hms, hbe]
        have hdl : Hid ((prsL s k).length = k) := prsL_len s k
        have hidx : ((j + 1 : Nat) : Int) - 1 = (j : Int) := by omega
        have hj1 : (j : Int) < (s.size : Int) := by omega
        rw [hidx]
        clear hkm hidx
        generalize prsL s k = D at *
        go_wp2_with (first | (go_at_call 37; refine (digitValue_calls _ _ ?_ ?_).mono ?_; (omega); (omega); rintro e w' ⟨rfl, rfl⟩) | (at_builtin; refine wpList_append_own _ rfl _ _ 24 rfl w.heap.size 2 i0 (.int .i64 0) 1 8 Try.underlying24 hi hz0 hz1 hz2 rfl (by decide) _ _ _ rfl (hown.alloc _) ⟨wr.heap.size, 0, none⟩ 1 1 [.int .i64 ((b : Int) - 48)] rfl rfl (cell_one_new _ _ _) (by simp [Value.oneCell']) (by unfold maxLen; omega) (by omega) (by simp; omega) ?_; intro v' w4 hown' hgrow _; obtain ⟨A4, c4, rfl⟩ := ownG_shape hown'; have HO4 := Lib.hid hown'; have HB4 := Lib.hid (HB.out.trans (OwnG.grown_below hown hgrow (Nat.le_refl _) hsz)); clear hown' hgrow))
        go_roundw
        case rel =>
          refine ⟨k + 1, j, by have := HKM.out; omega, rfl, ⟨A4, c4, rfl, ?_⟩, HB4.out⟩
          rw [hst.out, List.map_append]
          exact HO4.out
        case measure => simp [intOf]
      · obtain rfl : m = 0 := by omega
        obtain rfl : k = s.size := by omega
        clear hkm
        have hpl : Hid ((prsL s s.size).length = s.size) := prsL_len _ _
        go_wp2_with fail
        refine (isRings_still A s.size c (prsL s s.size) _ hpl.out (by omega) (OwnG.intsG0 hown)).mono ?_
        rintro e w1 ⟨rfl, rfl⟩
        rw [hok.out]
        by_cases ho : okR s = true
        · have Q := Lib.hid (pr_yes ho)
          go_wp2
          go_ret2
          obtain ⟨q1, q2⟩ := Q.out
          rw [q1, q2, hpl.out]
          exact ⟨A, c, rfl, hown, HB.out⟩
        · have ho' : okR s = false := by simpa using ho
          have Q := Lib.hid (pr_no ho')
          clear ho
          go_wp2
          go_ret2
          obtain ⟨q1, q2⟩ := Q.out
          rw [q1, q2]
          exact retInts_zero rfl HB.out
  · have ho' : okR s = false := by unfold okR; rw [decide_eq_false h16]; rfl
    obtain ⟨q1, q2⟩ := pr_no ho'
    have ht2 : decide (16 < (s.size : Int)) = true := by simp; omega
    rw [q1, q2]
    clear q1 q2 ho' h16
    go_enter Try.func14, Try.ntmps14
    go_wp2
    go_ret2
    exact retInts_zero rfl (Below.refl _ _)

theorem specParseRings_ret (s : ByteArray) (w : World) (hm : s.size ≤ 1048576) :
    Calls Try.prog 26 #[.string s] w (RetInts w (prL s).length (prL s) (prE s)) := specParseRings_any s w (by omega)
theorem implParseRings_ret (s : ByteArray) (w : World) (hm : s.size ≤ 1048576) :
    Calls Try.prog 14 #[.string s] w (RetInts w (prL s).length (prL s) (prE s)) := implParseRings_any s w (by omega)

end Go.Proofs.Ytfdjlgpdbgmdkab
