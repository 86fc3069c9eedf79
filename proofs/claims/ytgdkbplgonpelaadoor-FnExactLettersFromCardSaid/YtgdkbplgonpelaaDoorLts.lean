/- Contracts: texts of letters of moves. -/
import Derived.Test.YtgdkbplgonpelaaDoorMvAt
import Derived.Test.YtgdkbplgonpelaaDoorLet
import Derived.Test.YtgdkbplgonpelaaDoorStText
namespace Go.Proofs.YtgdkbplgonpelaaDoor
open Go.RowKit
open Go.RowKit (wrap64)
set_option linter.unusedVariables false

theorem pg_leg (d q : Nat) : legB (pgN d q : Int) (pgN d (q + 1) : Int) = true := by
  have h1 := pgN_lt d q
  have h2 := pgN_lt d (q + 1)
  have h3 : ¬ ((pgN d q : Int) = (pgN d (q + 1) : Int)) := by
    by_cases h : d % 2 = 0
    · rw [pgN_even h, pgN_even h]; omega
    · rw [pgN_odd h, pgN_odd h]; omega
  unfold legB
  rw [inB_yes (by omega) (by omega), inB_yes (by omega) (by omega), decide_eq_true h3]
  rfl
theorem at_leg (t : Nat) : legB (atF t : Int) (atT t : Int) = true := pg_leg _ _
/-- The letter of the move at t: its number and its byte. -/
def lettK (t : Nat) : Nat := (lnum (atF t) (atT t)).toNat
def lett (t : Nat) : UInt8 := lbyte (lettK t)
theorem lnum_bd {a b : Int} (h : legB a b = true) : 0 ≤ lnum a b ∧ lnum a b < 6 := by
  rcases leg_cases h with ⟨rfl, rfl⟩ | ⟨rfl, rfl⟩ | ⟨rfl, rfl⟩ | ⟨rfl, rfl⟩ | ⟨rfl, rfl⟩ | ⟨rfl, rfl⟩ <;> decide
theorem lettK_is (t : Nat) : lnum (atF t) (atT t) = (lettK t : Int) := by
  have := lnum_bd (at_leg t)
  unfold lettK
  omega
theorem lettK_lt (t : Nat) : lettK t < 6 := by
  have := lnum_bd (at_leg t)
  unfold lettK
  omega
def ltL (t : Nat) : Nat → List UInt8
  | 0 => []
  | j + 1 => ltL t j ++ [lett (t + j)]
theorem ltL_len (t : Nat) : ∀ j, (ltL t j).length = j
  | 0 => rfl
  | j + 1 => by simp [ltL, ltL_len t j]
theorem ltL_at (t : Nat) {j : Nat} : ∀ m, j < m → (ltL t m)[j]?.getD 0 = lett (t + j)
  | 0, h => absurd h (by omega)
  | m + 1, h => by
    have hl := ltL_len t m
    unfold ltL
    by_cases hj : j < m
    · rw [List.getElem?_append_left (by omega)]
      exact ltL_at t m hj
    · obtain rfl : j = m := by omega
      rw [List.getElem?_append_right (by omega), hl]
      simp
theorem let_cell {w : World} {g k : Nat} (h : Box w g 9 #[.string ⟨#[97]⟩, .string ⟨#[98]⟩, .string ⟨#[99]⟩, .string ⟨#[65]⟩, .string ⟨#[66]⟩, .string ⟨#[67]⟩]) (hk : k < 6) : w.cell? ⟨g, k, none⟩ = some (.string ⟨#[lbyte k]⟩) := by
  rw [h.cell k]
  match k, hk with
  | 0, _ => rfl
  | 1, _ => rfl
  | 2, _ => rfl
  | 3, _ => rfl
  | 4, _ => rfl
  | 5, _ => rfl

theorem bytes_snoc (S : List UInt8) (x : UInt8) : (⟨S.toArray⟩ ++ ⟨#[x]⟩ : ByteArray) = ⟨(S ++ [x]).toArray⟩ := by
  apply ByteArray.ext
  simp

set_option maxHeartbeats 1000000 in
theorem specLettersFrom_good (t n : Nat) (w : World) (h0 : 0 < t) (h1 : t ≤ 1000000000000) (hn : n ≤ 400) :
    Calls Tryd.prog 4 #[.int .i64 t, .int .i64 n] w fun e w' => e = .returned (.tuple #[.string ⟨(ltL t n).toArray⟩, .int .i64 0]) ∧ Below w.heap.size w w' := by
  have X0 := Lib.hid (Box.new w 9 #[.string ⟨#[97]⟩, .string ⟨#[98]⟩, .string ⟨#[99]⟩, .string ⟨#[65]⟩, .string ⟨#[66]⟩, .string ⟨#[67]⟩])
  have HB0 := Lib.hid ((Below.refl w.heap.size w).alloc (Nat.le_refl _) (.cells #[.string ⟨#[97]⟩, .string ⟨#[98]⟩, .string ⟨#[99]⟩, .string ⟨#[65]⟩, .string ⟨#[66]⟩, .string ⟨#[67]⟩] 9))
  go_enter Tryd.func4, Tryd.ntmps4
  go_wp2_with fail
  refine (l01In_calls t 1 1000000000000 _).mono ?_
  rintro e w' ⟨rfl, rfl⟩
  rw [inB_yes (a := (t : Int)) (by omega) (by omega)]
  go_wp2_with fail
  refine (l01In_calls n 0 400 _).mono ?_
  rintro e w' ⟨rfl, rfl⟩
  rw [inB_yes (a := (n : Int)) (by omega) (by omega)]
  go_wp2_with fail
  refine (l10Letters_calls _).mono ?_
  rintro e w' ⟨rfl, rfl⟩
  go_wp2
  go_loopw [6, 8] (fun s i wr => ∃ j : Nat, j ≤ n ∧ i = .int .i64 j ∧ s = .string ⟨(ltL t j).toArray⟩ ∧ Box wr w.heap.size 9 #[.string ⟨#[97]⟩, .string ⟨#[98]⟩, .string ⟨#[99]⟩, .string ⟨#[65]⟩, .string ⟨#[66]⟩, .string ⟨#[67]⟩] ∧ Below w.heap.size w wr) (fun _ i _ => n - (intOf i).toNat)
  case atStart => exact ⟨0, Nat.zero_le _, rfl, rfl, X0.out, HB0.out⟩
  case round =>
    obtain ⟨j, hj, rfl, rfl, hx, hb⟩ := hrel
    have X := Lib.hid hx
    have HB := Lib.hid hb
    clear hx hb
    by_cases hlt : j < n
    · obtain ⟨d, hd⟩ : ∃ d, Hid (d = ctz (t + j)) := ⟨_, rfl⟩
      obtain ⟨F, hF⟩ : ∃ d, Hid (d = atF (t + j)) := ⟨_, rfl⟩
      obtain ⟨G, hG⟩ : ∃ d, Hid (d = atT (t + j)) := ⟨_, rfl⟩
      obtain ⟨k, hk⟩ : ∃ d, Hid (d = lettK (t + j)) := ⟨_, rfl⟩
      have hk6 : k < 6 := by rw [hk.out]; exact lettK_lt _
      have HK : Hid (lnum (F : Int) (G : Int) = (k : Int)) := by unfold Hid; rw [hF.out, hG.out, hk.out]; exact lettK_is _
      have HLG : Hid (legB (F : Int) (G : Int) = true) := by unfold Hid; rw [hF.out, hG.out]; exact at_leg _
      have hst : Hid (ltL t (j + 1) = ltL t j ++ [lbyte k]) := by unfold Hid; rw [hk.out]; rfl
      go_wp2_with fail
      rw [show ((t : Int) + (j : Int)) = ((t + j : Nat) : Int) by omega]
      refine (l10Move_calls (t + j) d F G _ (by omega) (by omega) hd hF hG).mono ?_
      rintro e w3 ⟨rfl, hb3⟩
      have X3 := Lib.hid ((X.out.below hb3 X.out.lt).alloc (.cells #[.int .i64 d, .int .i64 F, .int .i64 G] 30))
      have HB3 := Lib.hid ((HB.out.trans (hb3.mono HB.out.size)).alloc (Nat.le_trans HB.out.size hb3.size) (.cells #[.int .i64 d, .int .i64 F, .int .i64 G] 30))
      clear hb3
      go_wp2_with fail
      refine (l10Number_calls d F G _ HLG.out).mono ?_
      rintro e w4 ⟨rfl, rfl⟩
      rw [HK.out]
      have hcell := let_cell X3.out hk6
      have hk0 : (0 : Int) ≤ (k : Int) := by omega
      have hk1 : (k : Int) < 6 := by omega
      have hnl : ¬ 9223372036854775807 < (ltL t j).length + 1 := by rw [ltL_len]; omega
      go_wp2
      go_roundw
      case rel => exact ⟨j + 1, by omega, by go_num, by rw [hst.out]; exact congrArg Value.string (bytes_snoc _ _), X3.out, HB3.out⟩
      case measure => simp [intOf]; omega
    · obtain rfl : j = n := by omega
      go_wp2
      go_ret2
      exact ⟨rfl, HB.out⟩

theorem row_below {w w' : World} {b n : Nat} {t : TypeId} {g : Nat → Value} (h : w.rowIs b t n g) (hb : Below w.heap.size w w') : w'.rowIs b t n g := by
  obtain ⟨c, hc, hr⟩ := h
  exact ⟨c, (show Box w' b t c from (show Box w b t c from hc).below hb (show Box w b t c from hc).lt), hr⟩
/-- The bytes, the first j told. -/
def uptoB (S : List UInt8) (j i : Nat) : Value := .int .u8 (if i < j then ((S[i]?.getD 0).toNat : Int) else 0)
theorem uptoB_step (S : List UInt8) (j i : Nat) : (if i = j then .int .u8 ((S[j]?.getD 0).toNat : Int) else uptoB S j i) = uptoB S (j + 1) i := by
  unfold uptoB
  by_cases h : i = j
  · subst h; rw [if_pos rfl, if_pos (by omega)]
  · rw [if_neg h]
    by_cases h2 : i < j
    · rw [if_pos h2, if_pos (by omega)]
    · rw [if_neg h2, if_neg (by omega)]

set_option maxHeartbeats 1000000 in
theorem lettersFrom_calls (t n : Nat) (w : World) (h0 : 0 < t) (h1 : t ≤ 1000000000000) (hn : n ≤ 10000) (hT : Tab w) :
    Calls Tryd.prog 12 #[.int .i64 t, .int .i64 n] w fun e w' => e = .returned (.string ⟨(ltL t n).toArray⟩) ∧ Below w.heap.size w w' := by
  have HT := Lib.hid hT
  clear hT
  have hmk := run_make_row' (P := Tryd.prog) 37 5 (.int .u8 0) 1 Tryd.underlying37 Tryd.infoB rfl .i64 .i64 n (by omega) (by omega)
  go_enter Tryd.func12, Tryd.ntmps12
  go_wp2
  go_loopw [6, 10] (fun _ i wr => ∃ j : Nat, j ≤ n ∧ i = .int .i64 j ∧ wr.rowIs w.heap.size 5 n (uptoB (ltL t n) j) ∧ Below w.heap.size w wr) (fun _ i _ => n - (intOf i).toNat)
  case atStart => exact ⟨0, Nat.zero_le _, rfl, (World.rowIs_made _ _ _ _).congr (fun i _ => by simp [uptoB]), (Below.refl _ _).alloc (Nat.le_refl _) _⟩
  case round =>
    obtain ⟨j, hj, rfl, hrow, hb⟩ := hrel
    have HB := Lib.hid hb
    have HTr := Lib.hid (HT.out.below hb)
    have hsz := hb.size
    clear hb
    by_cases hlt : j < n
    · obtain ⟨d, hd⟩ : ∃ d, Hid (d = ctz (t + j)) := ⟨_, rfl⟩
      obtain ⟨F, hF⟩ : ∃ d, Hid (d = atF (t + j)) := ⟨_, rfl⟩
      obtain ⟨G, hG⟩ : ∃ d, Hid (d = atT (t + j)) := ⟨_, rfl⟩
      obtain ⟨x, hx⟩ : ∃ d, Hid (d = lett (t + j)) := ⟨_, rfl⟩
      have HLG : Hid (legB (F : Int) (G : Int) = true) := by unfold Hid; rw [hF.out, hG.out]; exact at_leg _
      have HLB : Hid (lbV (F : Int) (G : Int) = ((x.toNat : Nat) : Int)) := by
        unfold Hid
        rw [lb_yes HLG.out, hx.out, hF.out, hG.out, lettK_is]
        rfl
      have hat := Lib.hid (ltL_at t n hlt)
      have hst := Lib.hid (uptoB_step (ltL t n) j)
      have HR := Lib.hid hrow
      clear hrow
      go_wp2_with fail
      rw [show ((t : Int) + (j : Int)) = ((t + j : Nat) : Int) by omega]
      refine (moveAt_calls (t + j) d F G _ (by omega) (by omega) hd hF hG HTr.out).mono ?_
      rintro e w3 ⟨rfl, hb3⟩
      have hs3 := hb3.size
      have HR3 := Lib.hid (row_below HR.out hb3)
      have HB3 := Lib.hid (HB.out.trans (hb3.mono hsz))
      clear hb3
      go_wp2_with fail
      refine (letterOf_calls d F G _).mono ?_
      rintro e w4 ⟨rfl, hb4⟩
      rw [HLB.out, HLG.out]
      have HR4 := Lib.hid (row_below HR3.out hb4)
      have HB4 := Lib.hid (HB3.out.trans (hb4.mono (Nat.le_trans hsz hs3)))
      clear hb4
      have hold := HR4.out.cell hlt
      have hfz := HR4.out.frozen j
      go_wp2
      go_roundw
      case rel =>
        refine ⟨j + 1, by omega, by go_num, (HR4.out.set j _).congr (fun i _ => ?_), HB4.out.setCell (Nat.le_refl _) _⟩
        have := hst.out i
        rw [hat.out, ← hx.out] at this
        exact this
      case measure => simp [intOf]; omega
    · obtain rfl : j = n := by omega
      have hlen := Lib.hid (ltL_len t j)
      have hcv : (convert 37 9 (.slice (some ⟨w.heap.size, 0, none⟩) j j)).run Tryd.prog wr = .ok (.string ⟨(ltL t j).toArray⟩) wr := by
        have := run_convert_bytes_back (P := Tryd.prog) wr 37 9 5 ⟨w.heap.size, 0, none⟩ j (ltL t j) Tryd.underlying37 Tryd.underlying5 Tryd.underlying9 (fun i hi => by
          have e : (⟨w.heap.size, 0, none⟩ : Addr).add i = ⟨w.heap.size, i, none⟩ := by
            unfold Addr.add
            split
            · next h0 => rw [h0]
            · simp
          rw [hlen.out] at hi
          rw [e, hrow.cell hi]
          unfold uptoB
          rw [if_pos hi, List.getElem?_eq_getElem (by rw [hlen.out]; exact hi)]
          rfl)
        rw [hlen.out] at this
        exact this
      clear hrow
      go_wp2
      go_ret
      exact ⟨rfl, HB.out⟩

def lfB (t n : Int) : Bool := inB t 1 1000000000000 && inB n 0 400
def lfV (t n : Int) : ByteArray := if lfB t n = true then ⟨(ltL t.toNat n.toNat).toArray⟩ else ⟨#[]⟩
def lfE (t n : Int) : Int := if lfB t n = true then 0 else 2
theorem lf_yes {t n : Int} (h : lfB t n = true) : lfV t n = ⟨(ltL t.toNat n.toNat).toArray⟩ ∧ lfE t n = 0 := by unfold lfV lfE; rw [if_pos h, if_pos h]; exact ⟨rfl, rfl⟩
theorem lf_no {t n : Int} (h : lfB t n = false) : lfV t n = ⟨#[]⟩ ∧ lfE t n = 2 := by unfold lfV lfE; rw [h]; exact ⟨rfl, rfl⟩

set_option maxHeartbeats 1000000 in
theorem specLettersFrom_calls (t n : Int) (w : World) :
    Calls Tryd.prog 4 #[.int .i64 t, .int .i64 n] w fun e w' => e = .returned (.tuple #[.string (lfV t n), .int .i64 (lfE t n)]) ∧ Below w.heap.size w w' := by
  by_cases hb : inB t 1 1000000000000 = true
  · by_cases hc : inB n 0 400 = true
    · have h0 := inB_of hb
      have h1 := inB_of hc
      obtain ⟨m, rfl⟩ := Int.eq_ofNat_of_zero_le (a := t) (by omega)
      obtain ⟨k, rfl⟩ := Int.eq_ofNat_of_zero_le h1.1
      obtain ⟨q1, q2⟩ := lf_yes (t := m) (n := k) (by unfold lfB; rw [hb, hc]; rfl)
      rw [q1, q2, Int.toNat_natCast, Int.toNat_natCast]
      exact specLettersFrom_good m k w (by omega) (by omega) (by omega)
    · have hc' : inB n 0 400 = false := by simpa using hc
      have H := Lib.hid (lf_no (t := t) (n := n) (by unfold lfB; rw [hb, hc']; rfl))
      clear hc
      go_enter Tryd.func4, Tryd.ntmps4
      go_wp2_with fail
      refine (l01In_calls t 1 1000000000000 _).mono ?_
      rintro e w' ⟨rfl, rfl⟩
      go_wp2_with fail
      refine (l01In_calls n 0 400 _).mono ?_
      rintro e w' ⟨rfl, rfl⟩
      go_wp2
      go_ret2
      exact ⟨ret_se H.out.1 H.out.2, Below.refl _ _⟩
  · have hb' : inB t 1 1000000000000 = false := by simpa using hb
    have H := Lib.hid (lf_no (t := t) (n := n) (by unfold lfB; rw [hb']; rfl))
    clear hb
    go_enter Tryd.func4, Tryd.ntmps4
    go_wp2_with fail
    refine (l01In_calls t 1 1000000000000 _).mono ?_
    rintro e w' ⟨rfl, rfl⟩
    go_wp2
    go_ret2
    exact ⟨ret_se H.out.1 H.out.2, Below.refl _ _⟩

set_option maxHeartbeats 1000000 in
theorem implLettersFrom_calls (t n : Int) (w : World) (hT : Tab w) :
    Calls Tryd.prog 5 #[.int .i64 t, .int .i64 n] w fun e w' => e = .returned (.tuple #[.string (lfV t n), .int .i64 (lfE t n)]) ∧ Below w.heap.size w w' := by
  by_cases hb : inB t 1 1000000000000 = true
  · by_cases hc : inB n 0 400 = true
    · have h0 := inB_of hb
      have h1 := inB_of hc
      obtain ⟨m, rfl⟩ := Int.eq_ofNat_of_zero_le (a := t) (by omega)
      obtain ⟨k, rfl⟩ := Int.eq_ofNat_of_zero_le h1.1
      obtain ⟨q1, q2⟩ := lf_yes (t := m) (n := k) (by unfold lfB; rw [hb, hc]; rfl)
      rw [q1, q2, Int.toNat_natCast, Int.toNat_natCast]
      have HT := Lib.hid hT
      clear hT q1 q2
      go_enter Tryd.func5, Tryd.ntmps5
      go_wp2_with fail
      refine (isTime_calls m _).mono ?_
      rintro e w' ⟨rfl, rfl⟩
      go_wp2_with fail
      refine (isUpTo_calls k 400 _).mono ?_
      rintro e w' ⟨rfl, rfl⟩
      go_wp2_with fail
      refine (lettersFrom_calls m k _ (by omega) (by omega) (by omega) HT.out).mono ?_
      rintro e w3 ⟨rfl, hb3⟩
      have HB3 := Lib.hid hb3
      clear hb3
      go_wp2
      go_ret2
      exact ⟨rfl, HB3.out⟩
    · have hc' : inB n 0 400 = false := by simpa using hc
      have H := Lib.hid (lf_no (t := t) (n := n) (by unfold lfB; rw [hb, hc']; rfl))
      clear hc
      go_enter Tryd.func5, Tryd.ntmps5
      go_wp2_with fail
      refine (isTime_calls t _).mono ?_
      rintro e w' ⟨rfl, rfl⟩
      go_wp2_with fail
      refine (isUpTo_calls n 400 _).mono ?_
      rintro e w' ⟨rfl, rfl⟩
      go_wp2
      go_ret2
      exact ⟨ret_se H.out.1 H.out.2, Below.refl _ _⟩
  · have hb' : inB t 1 1000000000000 = false := by simpa using hb
    have H := Lib.hid (lf_no (t := t) (n := n) (by unfold lfB; rw [hb']; rfl))
    clear hb
    go_enter Tryd.func5, Tryd.ntmps5
    go_wp2_with fail
    refine (isTime_calls t _).mono ?_
    rintro e w' ⟨rfl, rfl⟩
    go_wp2
    go_ret2
    exact ⟨ret_se H.out.1 H.out.2, Below.refl _ _⟩

end Go.Proofs.YtgdkbplgonpelaaDoor
