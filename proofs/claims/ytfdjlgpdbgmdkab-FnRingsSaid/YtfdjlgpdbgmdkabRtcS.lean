/- Contracts: rings that can be changed, by the specification's model; RingsThatChange of both. -/
import Derived.Test.YtfdjlgpdbgmdkabRtc
namespace Go.Proofs.Ytfdjlgpdbgmdkab
open Go.RowKit
set_option linter.unusedVariables false

def canB (L : List Int) (i : Nat) : Bool := decide (i = 0 ∨ ixN 1 L + 1 = i)
/-- The rings less than k that can be changed. -/
def cansL (L : List Int) : Nat → List Int
  | 0 => []
  | k + 1 => cansL L k ++ (if canB L k = true then [(k : Int)] else [])
theorem cansL_eq (L : List Int) : ∀ k : Nat, cansL L k = (if 0 < k then [0] else []) ++ (if ixN 1 L + 1 < k then [(ixN 1 L : Int) + 1] else [])
  | 0 => by simp [cansL]
  | k + 1 => by
    rw [cansL, cansL_eq L k]
    by_cases h0 : k = 0
    · subst h0
      rw [if_pos (show canB L 0 = true by simp [canB])]
      simp
    · by_cases h1 : ixN 1 L + 1 = k
      · rw [if_pos (show canB L k = true by simp [canB, h1]), if_pos (by omega), if_neg (by omega), if_pos (by omega), if_pos (by omega)]
        rw [← h1]
        simp
      · rw [if_neg (show ¬ canB L k = true by simp [canB, h0, h1])]
        by_cases h2 : ixN 1 L + 1 < k
        · rw [if_pos (by omega), if_pos h2, if_pos (by omega), if_pos (by omega)]; simp
        · rw [if_pos (by omega), if_neg h2, if_pos (by omega), if_neg (by omega)]; simp
theorem cansL_rtc (L : List Int) : cansL L L.length = rtcL L := cansL_eq L _
theorem cansL_len (L : List Int) (k : Nat) : (cansL L k).length ≤ 2 := by rw [cansL_eq]; split <;> split <;> simp
theorem ret_can {L : List Int} {i : Nat} {b : Bool} (h : canB L i = b) : Ending.returned (.bool b) = .returned (.bool (canB L i)) := by rw [h]

set_option maxHeartbeats 400000 in
theorem l05Can_calls (A : Option Addr) (n c : Nat) (L : List Int) (i : Nat) (w : World) (hL : L.length = n) (hn : n ≤ 16) (hi : i < n) (hI : Ints w A L) (hb : ∀ k : Nat, 0 ≤ L[k]?.getD 0 ∧ L[k]?.getD 0 ≤ 1) :
    Calls Try.prog 33 #[.slice A n c, .int .i64 i] w fun e w' => e = .returned (.bool (canB L i)) ∧ w = w' := by
  have HL := Lib.hid hL
  have HB := Lib.hid hb
  clear hL hb
  by_cases h0 : i = 0
  · subst h0
    go_enter Try.func33, Try.ntmps33
    go_wp2
    go_ret
    exact ⟨ret_can (by simp [canB]), rfl⟩
  · obtain ⟨m, rfl⟩ : ∃ m, i = m + 1 := ⟨i - 1, by omega⟩
    have he : ((m : Int) + 1 == 0) = false := by simp; omega
    clear h0
    go_enter Try.func33, Try.ntmps33
    go_wp2
    go_loop [5] (fun i => ∃ k : Nat, k ≤ m ∧ i = .int .i64 k ∧ Hid (∀ j, j < k → ¬ L[j]?.getD 0 = 1)) (fun i => m - (intOf i).toNat)
    case atStart => exact ⟨0, Nat.zero_le _, rfl, fun j hj => absurd hj (by omega)⟩
    case round =>
      obtain ⟨k, hk, rfl, hall⟩ := hrel
      by_cases hlt : k < m
      · obtain ⟨ad, rfl, had, hc⟩ := hI k (by rw [HL.out]; omega)
        have hbk := HB.out k
        have hkn : (k : Int) < (n : Int) := by omega
        by_cases hv : L[k]?.getD 0 = 0
        · have ht : (L[k]?.getD 0 != 0) = false := by simp [hv]
          have HV := Lib.hid hv
          clear hv
          go_wp2
          go_round
          case rel => exact ⟨k + 1, by omega, by go_num, fun j hj => by
            by_cases hjk : j = k
            · subst hjk; rw [HV.out]; omega
            · exact hall.out j (by omega)⟩
          case measure => simp [intOf]; omega
        · have ht : (L[k]?.getD 0 != 0) = true := by simpa using hv
          have H : Hid (canB L (m + 1) = false) := by
            have h1 := ixN_hit 1 L k (by rw [HL.out]; omega) (by omega)
            unfold Hid canB
            rw [decide_eq_false_iff_not]
            omega
          clear hv
          go_wp2
          go_ret
          exact ⟨ret_can H.out, rfl⟩
      · obtain rfl : k = m := by omega
        obtain ⟨ad, rfl, had, hc⟩ := hI k (by rw [HL.out]; omega)
        have hbk := HB.out k
        have hkn : (k : Int) < (n : Int) := by omega
        by_cases hv : L[k]?.getD 0 = 1
        · have ht : (L[k]?.getD 0 == 1) = true := by simp [hv]
          have H : Hid (canB L (k + 1) = true) := by
            have h1 := ixN_hit 1 L k (by rw [HL.out]; omega) hv
            have h2 := ixN_miss 1 L k (by rw [HL.out]; omega) hall.out
            unfold Hid canB
            rw [decide_eq_true_iff]
            omega
          clear hv
          go_wp2
          go_ret
          exact ⟨by rw [H.out]; first | rfl | (rw [ht]), rfl⟩
        · have ht : (L[k]?.getD 0 == 1) = false := by simpa using hv
          have H : Hid (canB L (k + 1) = false) := by
            unfold Hid canB
            rw [decide_eq_false_iff_not]
            intro h
            have h3 : ixN 1 L = k := by omega
            have := ixN_at 1 L (by rw [HL.out]; omega)
            rw [h3] at this
            exact hv this
          clear hv
          go_wp2
          go_ret
          exact ⟨by rw [H.out]; first | rfl | (rw [ht]), rfl⟩

/-- What RingsThatChange answers. -/
def rcV (L : List Int) : List Int := if rgB L = true then rtcL L else []
theorem rc_yes {L : List Int} (h : rgB L = true) : rcV L = rtcL L ∧ rgE L = 0 := ⟨by unfold rcV; rw [if_pos h], (rg_yes h).2⟩
theorem rc_no {L : List Int} (h : rgB L = false) : rcV L = [] ∧ rgE L = 1 := ⟨by unfold rcV; rw [h]; rfl, (rg_no h).2⟩
theorem rcV_len (L : List Int) : (rcV L).length ≤ 1048576 := by
  by_cases h : rgB L = true
  · rw [(rc_yes h).1]; have := rtcL_len L; omega
  · rw [(rc_no (by simpa using h)).1]; simp

set_option maxHeartbeats 1000000 in
theorem specRingsThatChange_ret (A : Option Addr) (n c : Nat) (L : List Int) (w : World) (hL : L.length = n) (hn : n ≤ 1048576) (hI : Ints w A L) :
    Calls Try.prog 7 #[.slice A n c] w (RetInts w (rcV L).length (rcV L) (rgE L)) := by
  by_cases h : rgB L = true
  · obtain ⟨i0, hi, hz0, hz1, hz2⟩ := info_parts Try.infoI
    have H := Lib.hid (rc_yes h)
    have h16 : n ≤ 16 := by have := rgB_len h; omega
    have HL := Lib.hid hL
    have HI := Lib.hid hI
    have HBT := Lib.hid (rgB_at h)
    have HE : Hid (cansL L n = rtcL L) := by have := cansL_rtc L; rw [hL] at this; exact this
    clear hL hI
    go_enter Try.func7, Try.ntmps7
    go_wp2_with fail
    refine (l05Is_calls A n c L _ HL.out hn HI.out).mono ?_
    rintro e w1 ⟨rfl, rfl⟩
    go_wp2
    clear h
    go_loopw [4, 5] (fun v i wr => ∃ k : Nat, k ≤ n ∧ i = .int .i64 k ∧ (∃ AA cc, v = .slice AA (cansL L k).length cc ∧ OwnG 2 1 w.heap.size wr AA (cansL L k).length cc ((cansL L k).map (Value.int .i64))) ∧ Below w.heap.size w wr) (fun _ i _ => n - (intOf i).toNat)
    case atStart =>
      have e2 := Box.new w 2 #[]
      exact ⟨0, Nat.zero_le _, rfl, ⟨_, _, rfl, OwnG.emptyAt e2 (Nat.le_refl _)⟩, (Below.refl _ _).alloc (Nat.le_refl _) _⟩
    case round =>
      obtain ⟨k, hk, rfl, ⟨AA, cc, rfl, hO⟩, hb⟩ := hrel
      have HO := Lib.hid hO
      have HB := Lib.hid hb
      have hsz := hb.size
      have HIr := Lib.hid (HI.out.below hb)
      have hcl := cansL_len L k
      clear hO hb
      by_cases hlt : k < n
      · have hst : Hid (cansL L (k + 1) = cansL L k ++ (if canB L k = true then [(k : Int)] else [])) := rfl
        go_wp2_with fail
        refine (l05Can_calls A n c L k _ HL.out h16 hlt HIr.out HBT.out).mono ?_
        rintro e w1 ⟨rfl, rfl⟩
        generalize cansL L k = D at *
        by_cases hc : canB L k = true
        · have hst2 : Hid (cansL L (k + 1) = D ++ [(k : Int)]) := by unfold Hid; rw [hst.out, if_pos hc]
          rw [hc]
          clear hc hst
          go_wp2_with (at_builtin; refine wpList_append_own _ rfl _ _ 24 rfl w.heap.size 2 i0 (.int .i64 0) 1 8 Try.underlying24 hi hz0 hz1 hz2 rfl (by decide) _ _ _ rfl (HO.out.alloc _) ⟨wr.heap.size, 0, none⟩ 1 1 [.int .i64 k] rfl rfl (cell_one_new _ _ _) (by simp [Value.oneCell']) (by unfold maxLen; omega) (by omega) (by simp; omega) ?_; intro v' w4 hown' hgrow _; obtain ⟨A4, c4, rfl⟩ := ownG_shape hown'; have HO4 := Lib.hid hown'; have HB4 := Lib.hid (HB.out.trans (OwnG.grown_below HO.out hgrow (Nat.le_refl _) hsz)); clear hown' hgrow)
          go_roundw
          case rel =>
            refine ⟨k + 1, by omega, by go_num, ⟨A4, c4, by rw [hst2.out, List.length_append]; rfl, ?_⟩, HB4.out⟩
            rw [hst2.out, List.length_append, List.map_append]
            exact HO4.out
          case measure => simp [intOf]; omega
        · have hst2 : Hid (cansL L (k + 1) = D) := by unfold Hid; rw [hst.out, if_neg hc, List.append_nil]
          have hc' : canB L k = false := by simpa using hc
          rw [hc']
          clear hc hst hc'
          go_wp2
          go_roundw
          case rel => exact ⟨k + 1, by omega, by go_num, ⟨AA, cc, by rw [hst2.out], by rw [hst2.out]; exact HO.out⟩, HB.out⟩
          case measure => simp [intOf]; omega
      · obtain rfl : k = n := by omega
        go_wp2
        go_ret2
        obtain ⟨q1, q2⟩ := H.out
        rw [q1, q2, ← HE.out]
        exact ⟨AA, cc, rfl, HO.out, HB.out⟩
  · have h' : rgB L = false := by simpa using h
    have H := Lib.hid (rc_no h')
    clear h
    go_enter Try.func7, Try.ntmps7
    go_wp2_with fail
    refine (l05Is_calls A n c L _ hL hn hI).mono ?_
    rintro e w1 ⟨rfl, rfl⟩
    go_wp2
    go_ret2
    obtain ⟨q1, q2⟩ := H.out
    rw [q1, q2]
    exact retInts_zero rfl (Below.refl _ _)

set_option maxHeartbeats 400000 in
theorem implRingsThatChange_ret (A : Option Addr) (n c : Nat) (L : List Int) (w : World) (hL : L.length = n) (hn : n ≤ 1048576) (hI : Ints w A L) :
    Calls Try.prog 6 #[.slice A n c] w (RetInts w (rcV L).length (rcV L) (rgE L)) := by
  by_cases h : rgB L = true
  · have H := Lib.hid (rc_yes h)
    have h16 : n ≤ 16 := by have := rgB_len h; omega
    go_enter Try.func6, Try.ntmps6
    go_wp2_with fail
    refine (isRings_still A n c L _ hL hn hI).mono ?_
    rintro e w1 ⟨rfl, rfl⟩
    go_wp2_with fail
    refine (ringsThatChange_calls A n c L _ hL h16 hI).mono ?_
    rintro e w1 ⟨A', c', rfl, hO, hb⟩
    have HO := Lib.hid hO
    have HB := Lib.hid hb
    clear hO hb
    go_wp2
    go_ret2
    obtain ⟨q1, q2⟩ := H.out
    rw [q1, q2]
    exact ⟨A', c', rfl, HO.out, HB.out⟩
  · have h' : rgB L = false := by simpa using h
    have H := Lib.hid (rc_no h')
    clear h
    go_enter Try.func6, Try.ntmps6
    go_wp2_with fail
    refine (isRings_still A n c L _ hL hn hI).mono ?_
    rintro e w1 ⟨rfl, rfl⟩
    go_wp2
    go_ret2
    obtain ⟨q1, q2⟩ := H.out
    rw [q1, q2]
    exact retInts_zero rfl (Below.refl _ _)

end Go.Proofs.Ytfdjlgpdbgmdkab
