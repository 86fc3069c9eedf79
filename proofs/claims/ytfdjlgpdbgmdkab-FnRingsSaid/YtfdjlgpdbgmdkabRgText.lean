/- Contracts: texts of words of rings. -/
import Derived.Test.YtfdjlgpdbgmdkabRings
import Derived.Test.YtfdjlgpdbgmdkabStText
import Derived.Test.YtfdjlgpdbgmdkabOwnG
import Derived.Laws.BytesArg
namespace Go.Proofs.Ytfdjlgpdbgmdkab
open Go.RowKit
set_option linter.unusedVariables false

/-- The bytes of the last k rings, the last one first. -/
def rtB (L : List Int) (k : Nat) : List UInt8 := (List.range k).map (fun j => dg (L.getD (L.length - 1 - j) 0))
theorem rtB_len (L : List Int) (k : Nat) : (rtB L k).length = k := by simp [rtB]
theorem rtB_succ (L : List Int) (k : Nat) : rtB L (k + 1) = rtB L k ++ [dg (L.getD (L.length - 1 - k) 0)] := by simp [rtB, List.range_succ]
def rtV (L : List Int) : ByteArray := if rgB L = true then ⟨(rtB L L.length).toArray⟩ else ⟨#[]⟩
def rtE (L : List Int) : Int := if rgB L = true then 0 else 1
theorem rt_yes {L : List Int} (h : rgB L = true) : rtV L = ⟨(rtB L L.length).toArray⟩ ∧ rtE L = 0 := by unfold rtV rtE; rw [if_pos h, if_pos h]; exact ⟨rfl, rfl⟩
theorem rt_no {L : List Int} (h : rgB L = false) : rtV L = ⟨#[]⟩ ∧ rtE L = 1 := by unfold rtV rtE; rw [h]; exact ⟨rfl, rfl⟩

/-- string(b) where b is a row of the call's own, of no bytes, too. -/
theorem conv_any {w : World} {B n c : Nat} {A : Option Addr} {bs : List UInt8} (h : w.ownsRow B 5 1 (.slice A n c) n (bs.map (fun b => Value.int .u8 (b.toNat : Int)))) :
    (convert 22 9 (.slice A n c)).run Try.prog w = .ok (.string ⟨bs.toArray⟩) w := by
  by_cases hn : 0 < n
  · exact conv_own h hn
  · have hl : bs.length = n := by have := h.1; simpa using this
    obtain rfl : n = 0 := by omega
    have hb : bs = [] := List.eq_nil_of_length_eq_zero hl
    subst hb
    rcases h.2 with ⟨hv, _⟩ | ⟨g, cap, cur, hv, _⟩
    · injection hv with h1 h2 h3
      subst h1
      exact run_convert_bytes_nil (P := Try.prog) w 22 5 Try.underlying22 Try.underlying5 0 _ 9 Try.underlying9
    · injection hv with h1 h2 h3
      subst h1
      exact run_convert_bytes_back (P := Try.prog) w 22 9 5 ⟨g, 0, none⟩ c [] Try.underlying22 Try.underlying5 Try.underlying9 (fun j hj => absurd hj (by simp))

set_option maxHeartbeats 1000000 in
theorem l05Text_calls (A : Option Addr) (n c : Nat) (L : List Int) (w : World) (hL : L.length = n) (hI : Ints w A L) (hs : rgB L = true) :
    Calls Try.prog 48 #[.slice A n c] w fun e w' => e = .returned (.string ⟨(rtB L n).toArray⟩) ∧ Below w.heap.size w w' := by
  obtain ⟨i0, hi, hz0, hz1, hz2⟩ := info_parts Try.infoB
  have HL := Lib.hid hL
  have HS := Lib.hid hs
  have HI := Lib.hid hI
  have h16 : n ≤ 16 := by have := rgB_len hs; omega
  clear hL hs hI
  go_enter Try.func48, Try.ntmps48
  go_wp2
  go_loopw [3, 4] (fun v i wr => ∃ k m : Nat, m + k = n ∧ i = .int .i64 ((m : Int) - 1) ∧ (∃ AA cc, v = .slice AA k cc ∧ wr.ownsRow w.heap.size 5 1 (.slice AA k cc) k ((rtB L k).map (fun b => Value.int .u8 (b.toNat : Int)))) ∧ Below w.heap.size w wr) (fun _ i _ => (intOf i + 1).toNat)
  case atStart =>
    have e2 := Box.new w 5 #[]
    exact ⟨0, n, by omega, rfl, ⟨_, _, rfl, OwnG.emptyAt e2 (Nat.le_refl _)⟩, (Below.refl _ _).alloc (Nat.le_refl _) _⟩
  case round =>
    obtain ⟨k, m, hkm, rfl, ⟨AA, cc, rfl, hown⟩, hb⟩ := hrel
    have HKM := Lib.hid hkm
    have HB := Lib.hid hb
    have hsz := hb.size
    have hk8 : k ≤ 16 := by omega
    clear hb
    by_cases hm : 0 < m
    · obtain ⟨j, rfl⟩ : ∃ j, m = j + 1 := ⟨m - 1, by omega⟩
      have hj : j < n := by omega
      obtain ⟨ad, rfl, had, hc⟩ := (HI.out.below HB.out) j (by rw [HL.out]; exact hj)
      have hx := rgB_at HS.out j
      have hst : Hid (rtB L (k + 1) = rtB L k ++ [dg (L[j]?.getD 0)]) := by
        unfold Hid
        rw [rtB_succ, HL.out, show n - 1 - k = j by omega, List.getD_eq_getElem?_getD]
      have hdv := Lib.hid (dg_val (n := L[j]?.getD 0) (by omega) (by omega))
      have hlen : Hid ((rtB L k).length = k) := rtB_len L k
      have hidx : ((j + 1 : Nat) : Int) - 1 = (j : Int) := by omega
      have hj1 : (j : Int) < (n : Int) := by omega
      rw [hidx]
      clear hidx hkm
      generalize rtB L k = S at *
      go_wp2_with (at_builtin; refine wpList_append_own _ rfl _ _ 22 rfl w.heap.size 5 i0 (.int .u8 0) 1 1 Try.underlying22 hi hz0 hz1 hz2 rfl (by decide) _ _ _ rfl (hown.alloc _) ⟨wr.heap.size, 0, none⟩ 1 1 [.int .u8 (48 + L[j]?.getD 0)] rfl rfl (cell_one_new _ _ _) (by simp [Value.oneCell']) (by unfold maxLen; omega) (by omega) (by simp; omega) ?_; intro v' w2 hown' hgrow _; obtain ⟨A4, c4, rfl⟩ := own_shape2 hown'; have HO' := Lib.hid hown'; have HB4 := Lib.hid (HB.out.trans (OwnG.grown_below hown hgrow (Nat.le_refl _) hsz)); clear hown' hgrow)
      go_roundw
      case rel =>
        refine ⟨k + 1, j, by have := HKM.out; omega, rfl, ⟨A4, c4, rfl, ?_⟩, HB4.out⟩
        rw [hst.out]
        have := HO'.out
        rw [List.map_append, List.map_cons, List.map_nil, hdv.out]
        exact this
      case measure => simp [intOf]
    · obtain rfl : m = 0 := by omega
      obtain rfl : k = n := by omega
      have hcv := conv_any hown
      go_wp2
      go_ret
      exact ⟨rfl, HB.out⟩

set_option maxHeartbeats 400000 in
theorem specRingsText_calls (A : Option Addr) (n c : Nat) (L : List Int) (w : World) (hL : L.length = n) (hn : n ≤ 1048576) (hI : Ints w A L) :
    Calls Try.prog 28 #[.slice A n c] w fun e w' => e = .returned (.tuple #[.string (rtV L), .int .i64 (rtE L)]) ∧ Below w.heap.size w w' := by
  by_cases h : rgB L = true
  · have H := Lib.hid (rt_yes h)
    go_enter Try.func28, Try.ntmps28
    go_wp2_with fail
    refine (l05Is_calls A n c L _ hL hn hI).mono ?_
    rintro e w1 ⟨rfl, rfl⟩
    go_wp2_with fail
    refine (l05Text_calls A n c L _ hL hI h).mono ?_
    rintro e w1 ⟨rfl, hb⟩
    go_wp2
    go_ret2
    exact ⟨ret_se (by rw [H.out.1, hL]) H.out.2, hb⟩
  · have h' : rgB L = false := by simpa using h
    have H := Lib.hid (rt_no h')
    clear h
    go_enter Try.func28, Try.ntmps28
    go_wp2_with fail
    refine (l05Is_calls A n c L _ hL hn hI).mono ?_
    rintro e w1 ⟨rfl, rfl⟩
    go_wp2
    go_ret2
    exact ⟨ret_se H.out.1 H.out.2, Below.refl _ _⟩

set_option maxHeartbeats 1000000 in
theorem implRingsText_calls (A : Option Addr) (n c : Nat) (L : List Int) (w : World) (hL : L.length = n) (hn : n ≤ 1048576) (hI : Ints w A L) :
    Calls Try.prog 13 #[.slice A n c] w fun e w' => e = .returned (.tuple #[.string (rtV L), .int .i64 (rtE L)]) ∧ Below w.heap.size w w' := by
  by_cases h : rgB L = true
  · obtain ⟨i0, hi, hz0, hz1, hz2⟩ := info_parts Try.infoB
    have H := Lib.hid (rt_yes h)
    have HL := Lib.hid hL
    have HS := Lib.hid h
    have HI := Lib.hid hI
    have h16 : n ≤ 16 := by have := rgB_len h; omega
    clear hL hI
    go_enter Try.func13, Try.ntmps13
    go_wp2_with fail
    refine (isRings_still A n c L _ HL.out hn HI.out).mono ?_
    rintro e w1 ⟨rfl, rfl⟩
    go_wp2
    clear h
    go_loopw [4, 5] (fun v i wr => ∃ k m : Nat, m + k = n ∧ i = .int .i64 ((m : Int) - 1) ∧ (∃ AA cc, v = .slice AA k cc ∧ wr.ownsRow w.heap.size 5 1 (.slice AA k cc) k ((rtB L k).map (fun b => Value.int .u8 (b.toNat : Int)))) ∧ Below w.heap.size w wr) (fun _ i _ => (intOf i + 1).toNat)
    case atStart => exact ⟨0, n, by omega, rfl, ⟨_, _, rfl, OwnG.nilS _ _ _ _⟩, Below.refl _ _⟩
    case round =>
      obtain ⟨k, m, hkm, rfl, ⟨AA, cc, rfl, hown⟩, hb⟩ := hrel
      have HKM := Lib.hid hkm
      have HB := Lib.hid hb
      have hsz := hb.size
      have hk8 : k ≤ 16 := by omega
      clear hb
      by_cases hm : 0 < m
      · obtain ⟨j, rfl⟩ : ∃ j, m = j + 1 := ⟨m - 1, by omega⟩
        have hj : j < n := by omega
        obtain ⟨ad, rfl, had, hc⟩ := (HI.out.below HB.out) j (by rw [HL.out]; exact hj)
        have hx := rgB_at HS.out j
        have hst : Hid (rtB L (k + 1) = rtB L k ++ [dg (L[j]?.getD 0)]) := by
          unfold Hid
          rw [rtB_succ, HL.out, show n - 1 - k = j by omega, List.getD_eq_getElem?_getD]
        have hdv := Lib.hid (dg_val (n := L[j]?.getD 0) (by omega) (by omega))
        have hlen : Hid ((rtB L k).length = k) := rtB_len L k
        have hidx : ((j + 1 : Nat) : Int) - 1 = (j : Int) := by omega
        have hj1 : (j : Int) < (n : Int) := by omega
        rw [hidx]
        clear hidx hkm
        generalize rtB L k = S at *
        go_wp2_with (first | (go_at_call 36; refine (digit_calls _ _ ?_ ?_).mono ?_; (omega); (omega); rintro e w' ⟨rfl, rfl⟩) | (at_builtin; refine wpList_append_own _ rfl _ _ 22 rfl w.heap.size 5 i0 (.int .u8 0) 1 1 Try.underlying22 hi hz0 hz1 hz2 rfl (by decide) _ _ _ rfl (hown.alloc _) ⟨wr.heap.size, 0, none⟩ 1 1 [.int .u8 (48 + L[j]?.getD 0)] rfl rfl (cell_one_new _ _ _) (by simp [Value.oneCell']) (by unfold maxLen; omega) (by omega) (by simp; omega) ?_; intro v' w2 hown' hgrow _; obtain ⟨A4, c4, rfl⟩ := own_shape2 hown'; have HO' := Lib.hid hown'; have HB4 := Lib.hid (HB.out.trans (OwnG.grown_below hown hgrow (Nat.le_refl _) hsz)); clear hown' hgrow))
        go_roundw
        case rel =>
          refine ⟨k + 1, j, by have := HKM.out; omega, rfl, ⟨A4, c4, rfl, ?_⟩, HB4.out⟩
          rw [hst.out]
          have := HO'.out
          rw [List.map_append, List.map_cons, List.map_nil, hdv.out]
          exact this
        case measure => simp [intOf]
      · obtain rfl : m = 0 := by omega
        obtain rfl : k = n := by omega
        have hcv := conv_any hown
        go_wp2
        go_ret2
        exact ⟨ret_se (by rw [H.out.1, HL.out]) H.out.2, HB.out⟩
  · have h' : rgB L = false := by simpa using h
    have H := Lib.hid (rt_no h')
    clear h
    go_enter Try.func13, Try.ntmps13
    go_wp2_with fail
    refine (isRings_still A n c L _ hL hn hI).mono ?_
    rintro e w1 ⟨rfl, rfl⟩
    go_wp2
    go_ret2
    exact ⟨ret_se H.out.1 H.out.2, Below.refl _ _⟩

end Go.Proofs.Ytfdjlgpdbgmdkab
