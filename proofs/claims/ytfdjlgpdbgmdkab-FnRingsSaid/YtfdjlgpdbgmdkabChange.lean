/- Contracts: changes of rings. -/
import Derived.Test.YtfdjlgpdbgmdkabRtcS
import Derived.Test.YtfdjlgpdbgmdkabTurn
import Derived.Test.YtfdjlgpdbgmdkabDone
namespace Go.Proofs.Ytfdjlgpdbgmdkab
open Go.RowKit
set_option linter.unusedVariables false

theorem canB_rtc {L : List Int} {i : Nat} (h : i < L.length) : canB L i = true ↔ ((i : Int) ∈ rtcL L) := by
  unfold canB rtcL
  rw [decide_eq_true_iff, List.mem_append]
  by_cases h0 : 0 < L.length
  · rw [if_pos h0]
    by_cases h2 : ixN 1 L + 1 < L.length
    · rw [if_pos h2]; simp; omega
    · rw [if_neg h2]; simp; omega
  · omega
theorem ret_boolR {a b : Bool} (h : a = b) : Ending.returned (.bool a) = .returned (.bool b) := by rw [h]
set_option maxHeartbeats 400000 in
theorem contains_calls (A : Option Addr) (n c : Nat) (L : List Int) (v : Int) (w : World) (hL : L.length = n) (hn : n ≤ 1000) (hI : Ints w A L) :
    Calls Try.prog 39 #[.slice A n c, .int .i64 v] w fun e w' => e = .returned (.bool (decide (v ∈ L))) ∧ w = w' := by
  have hm := ixN_mem v L
  by_cases h : ixN v L < L.length
  · have h1 : ixV v L = (ixN v L : Int) := by unfold ixV; rw [if_pos h]
    have H : Hid (true = decide (v ∈ L)) := by unfold Hid; symm; rw [decide_eq_true_iff]; exact hm.1 h
    clear hm h
    go_enter Try.func39, Try.ntmps39
    go_wp2_with fail
    refine (index_calls A n c L v _ hL hn hI).mono ?_
    rintro e w' ⟨rfl, rfl⟩
    rw [h1]
    have ht : decide (0 ≤ ((ixN v L : Nat) : Int)) = true := by simp
    generalize ixN v L = q at *
    go_wp2
    go_ret
    exact ⟨ret_boolR (by rw [← H.out]), rfl⟩
  · have h1 : ixV v L = -1 := by unfold ixV; rw [if_neg h]
    have H : Hid (false = decide (v ∈ L)) := by unfold Hid; symm; rw [decide_eq_false_iff_not]; exact fun hv => h (hm.2 hv)
    clear hm h
    go_enter Try.func39, Try.ntmps39
    go_wp2_with fail
    refine (index_calls A n c L v _ hL hn hI).mono ?_
    rintro e w' ⟨rfl, rfl⟩
    rw [h1]
    go_wp2
    go_ret
    exact ⟨ret_boolR (by rw [← H.out]), rfl⟩

/-- What ChangeRing answers. -/
def chE (L : List Int) (i : Int) : Int := if rgB L = true then (if 0 ≤ i ∧ i < (L.length : Int) then (if canB L i.toNat = true then 0 else 5) else 2) else 1
def chV (L : List Int) (i : Int) : List Int := if chE L i = 0 then turnL L i.toNat else []
theorem ch_no {L : List Int} {i : Int} (h : rgB L = false) : chV L i = [] ∧ chE L i = 1 := by
  have : chE L i = 1 := by unfold chE; rw [h]; rfl
  exact ⟨by unfold chV; rw [this]; rfl, this⟩
theorem ch_out {L : List Int} {i : Int} (h : rgB L = true) (hi : ¬ (0 ≤ i ∧ i < (L.length : Int))) : chV L i = [] ∧ chE L i = 2 := by
  have : chE L i = 2 := by unfold chE; rw [if_pos h, if_neg hi]
  exact ⟨by unfold chV; rw [this]; rfl, this⟩
theorem ch_cannot {L : List Int} {i : Nat} (h : rgB L = true) (hi : i < L.length) (hc : canB L i = false) : chV L i = [] ∧ chE L i = 5 := by
  have : chE L i = 5 := by unfold chE; rw [if_pos h, if_pos (by omega), Int.toNat_natCast, hc]; rfl
  exact ⟨by unfold chV; rw [this]; rfl, this⟩
theorem ch_yes {L : List Int} {i : Nat} (h : rgB L = true) (hi : i < L.length) (hc : canB L i = true) : chV L i = turnL L i ∧ chE L i = 0 := by
  have : chE L i = 0 := by unfold chE; rw [if_pos h, if_pos (by omega), Int.toNat_natCast, hc]; rfl
  exact ⟨by unfold chV; rw [this, if_pos rfl, Int.toNat_natCast], this⟩
theorem chV_len (L : List Int) (i : Int) : (chV L i).length ≤ 1048576 := by
  unfold chV
  by_cases h : chE L i = 0
  · rw [if_pos h, turnL_len]
    have : rgB L = true := by
      by_cases hr : rgB L = true
      · exact hr
      · have := (ch_no (i := i) (by simpa using hr : rgB L = false)).2
        omega
    have := rgB_len this
    omega
  · rw [if_neg h]; simp

set_option maxHeartbeats 1000000 in
theorem l05Changed_calls (ad : Addr) (n c : Nat) (L : List Int) (i : Nat) (w : World) (hL : L.length = n) (hn : n ≤ 16) (hi : i < n) (hI : Ints w (some ad) L) (hb : ∀ k : Nat, 0 ≤ L[k]?.getD 0 ∧ L[k]?.getD 0 ≤ 1) :
    Calls Try.prog 43 #[.slice (some ad) n c, .int .i64 i] w fun e w' => ∃ A c', e = .returned (.slice A n c') ∧ Own w.heap.size w' A n c' (turnL L i) ∧ Below w.heap.size w w' := by
  have HL := Lib.hid hL
  have hbi := hb i
  have hin : (i : Int) < (n : Int) := by omega
  clear hL hb
  go_enter Try.func43, Try.ntmps43
  go_wp2_with fail
  refine (l01Own_calls (some ad) n c L _ HL.out (by omega) (by simp) hI).mono ?_
  rintro e w1 ⟨A, c1, rfl, hO, hb1⟩
  obtain ⟨g, h0, _, hc⟩ := hO.ints i (by rw [HL.out]; exact hi)
  subst h0
  rw [List.getD_eq_getElem?_getD] at hc
  rcases hO.form with ⟨h0, _⟩ | ⟨R, h0, hB, hR⟩
  · cases h0
  injection h0 with h0
  subst h0
  have e1 : (⟨R, 0, none⟩ : Addr).add i = ⟨R, i, none⟩ := by
    unfold Addr.add
    split
    · next h0 => rw [h0]
    · simp
  rw [e1] at hc
  have hf : w1.frozen? ⟨R, i, none⟩ = false := World.ownsRow.frozenAt hO i
  have HO := Lib.hid hO
  have HB := Lib.hid hb1
  clear hO hb1
  go_wp2
  go_ret
  obtain ⟨s1, s2⟩ := World.ownsRow.stored HO.out i (.int .i64 (1 - L[i]?.getD 0))
  refine ⟨_, c1, rfl, ?_, HB.out.setCell hB _⟩
  unfold Own turnL
  rw [List.map_set]
  exact s1

set_option maxHeartbeats 1000000 in
theorem specChangeRing_ret (A : Option Addr) (n c : Nat) (L : List Int) (i : Int) (w : World) (hL : L.length = n) (hn : n ≤ 1048576) (hI : Ints w A L) :
    Calls Try.prog 18 #[.slice A n c, .int .i64 i] w (RetInts w (chV L i).length (chV L i) (chE L i)) := by
  by_cases h : rgB L = true
  · have h16 : n ≤ 16 := by have := rgB_len h; omega
    have HL := Lib.hid hL
    by_cases hi : 0 ≤ i ∧ i < (n : Int)
    · obtain ⟨m, rfl⟩ := Int.eq_ofNat_of_zero_le hi.1
      have hm : m < n := by omega
      have hin : inB (m : Int) 0 ((n : Int) - 1) = true := inB_yes hi.1 (by omega)
      obtain ⟨ad, rfl, _⟩ := hI 0 (by omega)
      have HBT := Lib.hid (rgB_at h)
      clear hi
      by_cases hc : canB L m = true
      · have H := Lib.hid (ch_yes h (by rw [hL]; exact hm) hc)
        have HC := Lib.hid hc
        clear hL hc
        go_enter Try.func18, Try.ntmps18
        go_wp2_with fail
        refine (l05Is_calls (some ad) n c L _ HL.out hn hI).mono ?_
        rintro e w1 ⟨rfl, rfl⟩
        go_wp2_with fail
        refine (l01In_calls _ _ _ _).mono ?_
        rintro e w1 ⟨rfl, rfl⟩
        go_wp2_with fail
        refine (l05Can_calls (some ad) n c L m _ HL.out h16 hm hI HBT.out).mono ?_
        rintro e w1 ⟨rfl, rfl⟩
        rw [HC.out]
        go_wp2_with fail
        refine (l05Changed_calls ad n c L m _ HL.out h16 hm hI HBT.out).mono ?_
        rintro e w1 ⟨A', c', rfl, hO, hb⟩
        have HO := Lib.hid hO
        have HB := Lib.hid hb
        clear hO hb
        go_wp2
        go_ret2
        obtain ⟨q1, q2⟩ := H.out
        rw [q1, q2, turnL_len, HL.out]
        exact ⟨A', c', rfl, HO.out, HB.out⟩
      · have hc' : canB L m = false := by simpa using hc
        have H := Lib.hid (ch_cannot h (by rw [hL]; exact hm) hc')
        have HC := Lib.hid hc'
        clear hL hc hc'
        go_enter Try.func18, Try.ntmps18
        go_wp2_with fail
        refine (l05Is_calls (some ad) n c L _ HL.out hn hI).mono ?_
        rintro e w1 ⟨rfl, rfl⟩
        go_wp2_with fail
        refine (l01In_calls _ _ _ _).mono ?_
        rintro e w1 ⟨rfl, rfl⟩
        go_wp2_with fail
        refine (l05Can_calls (some ad) n c L m _ HL.out h16 hm hI HBT.out).mono ?_
        rintro e w1 ⟨rfl, rfl⟩
        rw [HC.out]
        go_wp2
        go_ret2
        obtain ⟨q1, q2⟩ := H.out
        rw [q1, q2]
        exact retInts_zero rfl (Below.refl _ _)
    · have hin : inB i 0 ((n : Int) - 1) = false := inB_no (by omega)
      have H := Lib.hid (ch_out h (by rw [hL]; exact hi))
      clear hi hL
      go_enter Try.func18, Try.ntmps18
      go_wp2_with fail
      refine (l05Is_calls A n c L _ HL.out hn hI).mono ?_
      rintro e w1 ⟨rfl, rfl⟩
      go_wp2_with fail
      refine (l01In_calls _ _ _ _).mono ?_
      rintro e w1 ⟨rfl, rfl⟩
      go_wp2
      go_ret2
      obtain ⟨q1, q2⟩ := H.out
      rw [q1, q2]
      exact retInts_zero rfl (Below.refl _ _)
  · have h' : rgB L = false := by simpa using h
    have H := Lib.hid (ch_no (i := i) h')
    clear h
    go_enter Try.func18, Try.ntmps18
    go_wp2_with fail
    refine (l05Is_calls A n c L _ hL hn hI).mono ?_
    rintro e w1 ⟨rfl, rfl⟩
    go_wp2
    go_ret2
    obtain ⟨q1, q2⟩ := H.out
    rw [q1, q2]
    exact retInts_zero rfl (Below.refl _ _)

set_option maxHeartbeats 1000000 in
theorem implChangeRing_ret (A : Option Addr) (n c : Nat) (L : List Int) (i : Int) (w : World) (hL : L.length = n) (hn : n ≤ 1048576) (hI : Ints w A L) :
    Calls Try.prog 16 #[.slice A n c, .int .i64 i] w (RetIntsC w (chV L i).length (chV L i) (chE L i)) := by
  by_cases h : rgB L = true
  · have h16 : n ≤ 16 := by have := rgB_len h; omega
    have HL := Lib.hid hL
    by_cases hi0 : i < 0
    · have H := Lib.hid (ch_out (i := i) h (by omega))
      clear hL
      go_enter Try.func16, Try.ntmps16
      go_wp2_with fail
      refine (isRings_still A n c L _ HL.out hn hI).mono ?_
      rintro e w1 ⟨rfl, rfl⟩
      go_wp2
      go_ret2
      obtain ⟨q1, q2⟩ := H.out
      rw [q1, q2]
      exact retIntsC_zero rfl (Below.refl _ _)
    · obtain ⟨m, rfl⟩ := Int.eq_ofNat_of_zero_le (a := i) (by omega)
      by_cases hm : m < n
      · obtain ⟨ad, rfl, _⟩ := hI 0 (by omega)
        have hmn : (m : Int) < (n : Int) := by omega
        have HBT := Lib.hid (rgB_at h)
        have hrl := rtcL_len L
        have hcm := canB_rtc (L := L) (i := m) (by rw [hL]; exact hm)
        clear hi0
        by_cases hc : canB L m = true
        · have H := Lib.hid (ch_yes h (by rw [hL]; exact hm) hc)
          have HC : Hid (decide ((m : Int) ∈ rtcL L) = true) := by unfold Hid; rw [decide_eq_true_iff]; exact hcm.1 hc
          clear hL hc hcm
          go_enter Try.func16, Try.ntmps16
          go_wp2_with fail
          refine (isRings_still (some ad) n c L _ HL.out hn hI).mono ?_
          rintro e w1 ⟨rfl, rfl⟩
          go_wp2_with fail
          refine (ringsThatChange_calls (some ad) n c L _ HL.out h16 hI).mono ?_
          rintro e w1 ⟨A', c', rfl, hO, hb⟩
          have HO := Lib.hid hO
          have HB := Lib.hid hb
          have HI1 := Lib.hid (hI.below hb)
          have hs := hb.size
          clear hO hb
          go_wp2_with fail
          refine (contains_calls A' (rtcL L).length c' (rtcL L) m _ rfl (by omega) HO.out.ints).mono ?_
          rintro e w2 ⟨rfl, rfl⟩
          rw [HC.out]
          go_wp2_with fail
          refine (withRingTurned_calls ad n c L m _ HL.out h16 hm HI1.out HBT.out).mono ?_
          rintro e w2 ⟨A2, c2, d2, rfl, hO, hb⟩
          have HO2 := Lib.hid (hO.mono hs)
          have HB2 := Lib.hid (HB.out.trans (hb.mono hs))
          clear hO hb
          go_wp2
          go_ret2
          obtain ⟨q1, q2⟩ := H.out
          rw [q1, q2, turnL_len, HL.out]
          exact ⟨A2, c2, d2, rfl, HO2.out, HB2.out⟩
        · have hc' : canB L m = false := by simpa using hc
          have H := Lib.hid (ch_cannot h (by rw [hL]; exact hm) hc')
          have HC : Hid (decide ((m : Int) ∈ rtcL L) = false) := by unfold Hid; rw [decide_eq_false_iff_not]; exact fun hx => hc (hcm.2 hx)
          clear hL hc hcm hc'
          go_enter Try.func16, Try.ntmps16
          go_wp2_with fail
          refine (isRings_still (some ad) n c L _ HL.out hn hI).mono ?_
          rintro e w1 ⟨rfl, rfl⟩
          go_wp2_with fail
          refine (ringsThatChange_calls (some ad) n c L _ HL.out h16 hI).mono ?_
          rintro e w1 ⟨A', c', rfl, hO, hb⟩
          have HO := Lib.hid hO
          have HB := Lib.hid hb
          clear hO hb
          go_wp2_with fail
          refine (contains_calls A' (rtcL L).length c' (rtcL L) m _ rfl (by omega) HO.out.ints).mono ?_
          rintro e w2 ⟨rfl, rfl⟩
          rw [HC.out]
          go_wp2
          go_ret2
          obtain ⟨q1, q2⟩ := H.out
          rw [q1, q2]
          exact retIntsC_zero rfl HB.out
      · have H := Lib.hid (ch_out (i := m) h (by omega))
        have hmn : ¬ (m : Int) < (n : Int) := by omega
        clear hL hi0 hm
        go_enter Try.func16, Try.ntmps16
        go_wp2_with fail
        refine (isRings_still A n c L _ HL.out hn hI).mono ?_
        rintro e w1 ⟨rfl, rfl⟩
        go_wp2
        go_ret2
        obtain ⟨q1, q2⟩ := H.out
        rw [q1, q2]
        exact retIntsC_zero rfl (Below.refl _ _)
  · have h' : rgB L = false := by simpa using h
    have H := Lib.hid (ch_no (i := i) h')
    clear h
    go_enter Try.func16, Try.ntmps16
    go_wp2_with fail
    refine (isRings_still A n c L _ hL hn hI).mono ?_
    rintro e w1 ⟨rfl, rfl⟩
    go_wp2
    go_ret2
    obtain ⟨q1, q2⟩ := H.out
    rw [q1, q2]
    exact retIntsC_zero rfl (Below.refl _ _)

end Go.Proofs.Ytfdjlgpdbgmdkab
