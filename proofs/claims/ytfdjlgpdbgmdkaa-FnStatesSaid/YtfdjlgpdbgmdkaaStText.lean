/- Contracts: texts of states. -/
import Derived.Test.YtfdjlgpdbgmdkaaState1
import Derived.Test.YtfdjlgpdbgmdkaaDigit
import Derived.OwnWalk
import Derived.Maps.AppendAt
namespace Go.Proofs.Ytfdjlgpdbgmdkaa
open Go.RowKit
set_option linter.unusedVariables false
set_option maxRecDepth 100000

theorem Try.infoB : (Try.prog.info? 5).map (fun i => (i.zero, i.size, i.bytes)) = some (some (.int .u8 0), 1, 1) := by kernel_rfl

/-- The bytes of the text with k discs, the greatest first. -/
def stB (p : Int) (L : List Int) (k : Nat) : List UInt8 := [dg p, 58] ++ (List.range k).map (fun j => dg (L.getD (L.length - 1 - j) 0))
theorem stB_len (p : Int) (L : List Int) (k : Nat) : (stB p L k).length = k + 2 := by simp [stB]
theorem stB_succ (p : Int) (L : List Int) (k : Nat) : stB p L (k + 1) = stB p L k ++ [dg (L.getD (L.length - 1 - k) 0)] := by simp [stB, List.range_succ]
def tsS (p : Int) (L : List Int) (k : Nat) : ByteArray := ⟨(stB p L k).toArray⟩
theorem tsS_succ (p : Int) (L : List Int) (k : Nat) : tsS p L (k + 1) = tsS p L k ++ ⟨#[dg (L.getD (L.length - 1 - k) 0)]⟩ := by
  unfold tsS
  rw [stB_succ]
  apply ByteArray.ext
  simp
theorem tsS_zero (p : Int) (L : List Int) : tsS p L 0 = (⟨#[dg p]⟩ : ByteArray) ++ ⟨#[58]⟩ := by
  apply ByteArray.ext
  simp [tsS, stB]
theorem tsS_size (p : Int) (L : List Int) (k : Nat) : (tsS p L k).size = k + 2 := by
  show (stB p L k).toArray.size = k + 2
  rw [List.size_toArray, stB_len]

set_option maxHeartbeats 1000000 in
theorem l01Text_calls (A : Option Addr) (n c : Nat) (p : Int) (L : List Int) (w : World) (hL : L.length = n) (hI : Ints w A L) (hs : stateB p L = true) :
    Calls Try.prog 66 #[.agg #[.int .i64 p, .slice A n c]] w fun e w' => e = .returned (.string (tsS p L n)) ∧ Below w.heap.size w w' := by
  obtain ⟨h3, h5, h8, _⟩ := state_facts hs hL
  have HL : Hid (L.length = n) := hL
  have HS := Lib.hid hs
  have HI := Lib.hid hI
  have HB0 := Lib.hid ((Below.refl w.heap.size w).alloc (Nat.le_refl _) (.cells #[.int .i64 p, .slice A n c] 26))
  have X0 := Lib.hid (Box.new w 26 #[.int .i64 p, .slice A n c])
  clear hL hs hI
  go_enter Try.func66, Try.ntmps66
  go_wp2_with fail
  refine (l01Dec_calls p _ (by omega) (by omega)).mono ?_
  rintro e w1 ⟨rfl, hb1⟩
  have X1 := Lib.hid (Box.below X0.out hb1 (Box.lt X0.out))
  have HB1 := Lib.hid (HB0.out.trans (hb1.mono HB0.out.size))
  clear hb1
  obtain ⟨c0, c1, _, _⟩ := X1.out.two
  go_wp2
  go_loopw [3, 4] (fun s i wr => ∃ k m : Nat, m + k = n ∧ i = .int .i64 ((m : Int) - 1) ∧ s = .string (tsS p L k) ∧ Box wr w.heap.size 26 #[.int .i64 p, .slice A n c] ∧ Below w.heap.size w wr) (fun _ i _ => (intOf i + 1).toNat)
  case atStart => exact ⟨0, n, by omega, rfl, by rw [tsS_zero], X1.out, HB1.out⟩
  case round =>
    obtain ⟨k, m, hkm, rfl, rfl, hbx, hb⟩ := hrel
    have HKM := Lib.hid hkm
    have HX := Lib.hid hbx
    have HB := Lib.hid hb
    have hk8 : k ≤ 8 := by omega
    clear hbx hb
    obtain ⟨x0, x1, _, _⟩ := HX.out.two
    by_cases hm : 0 < m
    · obtain ⟨j, rfl⟩ : ∃ j, m = j + 1 := ⟨m - 1, by omega⟩
      have hj : j < n := by omega
      obtain ⟨ad, rfl, had, hc⟩ := (HI.out.below HB.out) j (by rw [HL.out]; exact hj)
      have hx := state_at HS.out j (by rw [HL.out]; exact hj)
      have hst : Hid (tsS p L (k + 1) = tsS p L k ++ ⟨#[dg (L[j]?.getD 0)]⟩) := by
        unfold Hid
        rw [tsS_succ, HL.out, show n - 1 - k = j by omega, List.getD_eq_getElem?_getD]
      have hsz : (tsS p L k).size ≤ 10 := by rw [tsS_size]; omega
      have hidx : ((j + 1 : Nat) : Int) - 1 = (j : Int) := by omega
      have hj1 : (j : Int) < (n : Int) := by omega
      rw [hidx]
      clear hidx hkm
      generalize tsS p L k = S at *
      go_wp2_with fail
      refine (l01Dec_calls (L[j]?.getD 0) _ (by omega) (by omega)).mono ?_
      rintro e w2 ⟨rfl, hb2⟩
      have HX2 := Lib.hid (Box.below HX.out hb2 (Box.lt HX.out))
      have HB2 := Lib.hid (HB.out.trans (hb2.mono HB.out.size))
      clear hb2
      go_wp2
      go_roundw
      case rel => exact ⟨k + 1, j, by have := HKM.out; omega, rfl, by rw [hst.out], HX2.out, HB2.out⟩
      case measure => simp [intOf]
    · obtain rfl : m = 0 := by omega
      obtain rfl : k = n := by omega
      go_wp2
      go_ret
      exact ⟨rfl, HB.out⟩

theorem own_shape2 {w : World} {B : Nat} {v : Value} {n : Nat} {xs : List Value} {e s : Nat} (h : w.ownsRow B e s v n xs) : ∃ A c, v = .slice A n c := by
  rcases h.2 with ⟨rfl, rfl⟩ | ⟨g, cap, cur, rfl, _⟩
  · exact ⟨_, _, rfl⟩
  · exact ⟨_, _, rfl⟩
/-- A row and a box of another type never share a block. -/
theorem own_box_ne2 {w : World} {B b t e s n : Nat} {v : Value} {xs : List Value} {cs : Array Value} (h : w.ownsRow B e s v n xs) (hb : Box w b t cs) (ht : t ≠ e) : some b ≠ v.ownBlock := by
  rcases h.2 with ⟨rfl, rfl⟩ | ⟨g, cap, cur, rfl, _, hh, _⟩
  · simp [Value.ownBlock]
  · simp only [Value.ownBlock, ne_eq, Option.some.injEq]
    rintro rfl
    unfold Box at hb
    rw [hb] at hh
    injection hh with hh
    injection hh with _ hh
    exact ht hh
theorem bytes_oneCell (bs : List UInt8) : ∀ u ∈ bs.map (fun b => Value.int .u8 (b.toNat : Int)), u.oneCell' = true := by
  intro u hu
  obtain ⟨b, _, rfl⟩ := List.mem_map.1 hu
  rfl
/-- string(b) where b is a row of the call's own. -/
theorem conv_own {w : World} {B n c : Nat} {A : Option Addr} {bs : List UInt8} (h : w.ownsRow B 5 1 (.slice A n c) n (bs.map (fun b => Value.int .u8 (b.toNat : Int)))) (hn : 0 < n) :
    (convert 22 9 (.slice A n c)).run Try.prog w = .ok (.string ⟨bs.toArray⟩) w := by
  have hl : bs.length = n := by have := h.1; simpa using this
  rcases h.2 with ⟨_, h0⟩ | ⟨g, cap, cur, hv, _⟩
  · omega
  · injection hv with h1 h2 h3
    subst h1
    have e0 := run_convert_bytes_back (P := Try.prog) w 22 9 5 ⟨g, 0, none⟩ c bs Try.underlying22 Try.underlying5 Try.underlying9 (fun j hj => by
      have e : (⟨g, 0, none⟩ : Addr).add j = ⟨g, j, none⟩ := by
        unfold Addr.add
        split
        · next h0 => rw [h0]
        · simp
      rw [e, World.ownsRow.cellAt h j (by omega)]
      simp [hj])
    rw [hl] at e0
    exact e0

/-- What StateText answers. -/
def sttV (p : Int) (L : List Int) : ByteArray := if stateB p L = true then tsS p L L.length else ⟨#[]⟩
theorem stt_yes {p : Int} {L : List Int} (h : stateB p L = true) : sttV p L = tsS p L L.length := by unfold sttV; rw [if_pos h]
theorem stt_no {p : Int} {L : List Int} (h : stateB p L = false) : sttV p L = ⟨#[]⟩ := by unfold sttV; rw [h]; rfl

set_option maxHeartbeats 400000 in
theorem specStateText_calls (A : Option Addr) (n c : Nat) (p : Int) (L : List Int) (w : World) (hL : L.length = n) (hn : n ≤ 1048576) (hI : Ints w A L) :
    Calls Try.prog 35 #[.agg #[.int .i64 p, .slice A n c]] w fun e w' => e = .returned (.tuple #[.string (sttV p L), .int .i64 (codeS p L)]) ∧ Below w.heap.size w w' := by
  have HL : Hid (L.length = n) := hL
  clear hL
  have hb0 : Below w.heap.size w (w.alloc (.cells #[.int .i64 p, .slice A n c] 26)) := (Below.refl _ _).alloc (Nat.le_refl _) _
  have hI0 := hI.below hb0
  by_cases hs : stateB p L = true
  · go_enter Try.func35, Try.ntmps35
    go_wp2_with fail
    refine (l01Is_calls A n c p L _ HL.out hn hI0).mono ?_
    rintro e w1 ⟨rfl, hb⟩
    have HB := Lib.hid hb
    have hI1 := hI0.below hb
    obtain ⟨c0, c1, hz⟩ := boxed2 (hb.mono (by simp))
    clear hb
    go_wp2_with fail
    refine (l01Text_calls A n c p L _ HL.out hI1 hs).mono ?_
    rintro e w2 ⟨rfl, hb2⟩
    have HB2 := Lib.hid hb2
    clear hb2
    go_wp2
    go_ret2
    exact ⟨ret_se (by rw [stt_yes hs, HL.out]) (codeS_yes hs), hb0.trans ((HB.out.mono (by simp)).trans (HB2.out.mono (by omega)))⟩
  · have hs' : stateB p L = false := by simpa using hs
    clear hs
    go_enter Try.func35, Try.ntmps35
    go_wp2_with fail
    refine (l01Is_calls A n c p L _ HL.out hn hI0).mono ?_
    rintro e w1 ⟨rfl, hb⟩
    have HB := Lib.hid hb
    clear hb
    go_wp2
    go_ret2
    exact ⟨ret_se (stt_no hs') (codeS_no hs'), hb0.trans (HB.out.mono (by simp))⟩

set_option maxHeartbeats 1000000 in
theorem implStateText_calls (A : Option Addr) (n c : Nat) (p : Int) (L : List Int) (w : World) (hL : L.length = n) (hn : n ≤ 1048576) (hI : Ints w A L) :
    Calls Try.prog 11 #[.agg #[.int .i64 p, .slice A n c]] w fun e w' => e = .returned (.tuple #[.string (sttV p L), .int .i64 (codeS p L)]) ∧ Below w.heap.size w w' := by
  obtain ⟨i0, hi, hz0, hz1, hz2⟩ := info_parts Try.infoB
  have HL : Hid (L.length = n) := hL
  have hb0 : Below w.heap.size w (w.alloc (.cells #[.int .i64 p, .slice A n c] 26)) := (Below.refl _ _).alloc (Nat.le_refl _) _
  have hI0 := hI.below hb0
  have X0 := Lib.hid (Box.new w 26 #[.int .i64 p, .slice A n c])
  by_cases hs : stateB p L = true
  · obtain ⟨h3, h5, h8, _⟩ := state_facts hs hL
    clear hL hI
    go_enter Try.func11, Try.ntmps11
    go_wp2_with fail
    refine (implIsState_calls A n c p L _ HL.out hn hI0).mono ?_
    rintro e w1 ⟨rfl, hb⟩
    have X1 := Lib.hid (Box.below X0.out hb (Box.lt X0.out))
    have HB1 := Lib.hid (hb0.trans (hb.mono hb0.size))
    have HI1 := Lib.hid (hI0.below hb)
    clear hb hI0 hb0
    obtain ⟨c0, c1, _, _⟩ := X1.out.two
    go_wp2_with fail
    refine (digit_calls p _ (by omega) (by omega)).mono ?_
    rintro e w' ⟨rfl, rfl⟩
    have HO1 : Hid ((w1.alloc (.cells #[.int .u8 (48 + p), .int .u8 58] 5)).ownsRow w1.heap.size 5 1 (.slice (some ⟨w1.heap.size, 0, none⟩) 2 2) 2 ((stB p L 0).map (fun b => Value.int .u8 (b.toNat : Int)))) := by
      have := World.ownsRow_lit (base := w1.heap.size) (e := 5) (size := 1) w1 #[.int .u8 (48 + p), .int .u8 58] 2 (Nat.le_refl _) (by unfold maxLen; omega) rfl
      unfold Hid
      simpa [stB, dg_val (n := p) (by omega) (by omega)] using this
    have X2 := Lib.hid (X1.out.alloc (.cells #[.int .u8 (48 + p), .int .u8 58] 5))
    have HB2 := Lib.hid (HB1.out.alloc HB1.out.size (.cells #[.int .u8 (48 + p), .int .u8 58] 5))
    have hz1' := X1.out.lt
    obtain ⟨d0, d1, _, _⟩ := X2.out.two
    have HSs := Lib.hid hs
    go_wp2
    go_loopw [4, 5] (fun v i wr => ∃ k m : Nat, m + k = n ∧ i = .int .i64 ((m : Int) - 1) ∧ wr.ownsRow w1.heap.size 5 1 v (k + 2) ((stB p L k).map (fun b => Value.int .u8 (b.toNat : Int))) ∧ Box wr w.heap.size 26 #[.int .i64 p, .slice A n c] ∧ Below w.heap.size w wr ∧ Below w1.heap.size w1 wr) (fun _ i _ => (intOf i + 1).toNat)
    case atStart => exact ⟨0, n, by omega, rfl, HO1.out, X2.out, HB2.out, (Below.refl _ _).alloc (Nat.le_refl _) _⟩
    case round =>
      obtain ⟨k, m, hkm, rfl, hown, hbx, hb, hbw⟩ := hrel
      obtain ⟨AA, cc, rfl⟩ := own_shape2 hown
      have HKM := Lib.hid hkm
      have HX := Lib.hid hbx
      have HB := Lib.hid hb
      have HBW := Lib.hid hbw
      have hk8 : k ≤ 8 := by omega
      have hsz := hbw.size
      clear hbx hb hbw c0 c1 d0 d1
      obtain ⟨x0, x1, _, _⟩ := HX.out.two
      by_cases hm : 0 < m
      · obtain ⟨j, rfl⟩ : ∃ j, m = j + 1 := ⟨m - 1, by omega⟩
        have hj : j < n := by omega
        obtain ⟨ad, rfl, had, hc⟩ := (HI1.out.below HBW.out) j (by rw [HL.out]; exact hj)
        have hx := state_at HSs.out j (by rw [HL.out]; exact hj)
        have hst : Hid (stB p L (k + 1) = stB p L k ++ [dg (L[j]?.getD 0)]) := by
          unfold Hid
          rw [stB_succ, HL.out, show n - 1 - k = j by omega, List.getD_eq_getElem?_getD]
        have hdv := Lib.hid (dg_val (n := L[j]?.getD 0) (by omega) (by omega))
        have hlen : Hid ((stB p L k).length = k + 2) := stB_len p L k
        have hidx : ((j + 1 : Nat) : Int) - 1 = (j : Int) := by omega
        have hj1 : (j : Int) < (n : Int) := by omega
        rw [hidx]
        clear hidx hkm
        generalize stB p L k = S at *
        go_wp2_with (first | (go_at_call 45; refine (digit_calls _ _ ?_ ?_).mono ?_; (omega); (omega); rintro e w' ⟨rfl, rfl⟩) | (at_builtin; refine wpList_append_own _ rfl _ _ 22 rfl w1.heap.size 5 i0 (.int .u8 0) 1 1 Try.underlying22 hi hz0 hz1 hz2 rfl (by decide) _ _ _ rfl (hown.alloc _) ⟨wr.heap.size, 0, none⟩ 1 1 [.int .u8 (48 + L[j]?.getD 0)] rfl rfl (cell_one_new _ _ _) (by simp [Value.oneCell']) (by unfold maxLen; omega) (by omega) (by simp; omega) ?_; intro v' w2 hown' hgrow _; have HO' := Lib.hid hown'; have HG := Lib.hid hgrow; clear hown' hgrow))
        go_roundw
        case rel =>
          refine ⟨k + 1, j, by have := HKM.out; omega, rfl, ?_, ?_, ?_, ?_⟩
          · rw [hst.out]
            have := HO'.out
            rw [List.map_append, List.map_cons, List.map_nil, hdv.out]
            exact this
          · exact (HX.out.alloc _).grown HG.out (own_box_ne2 hown HX.out (by decide))
          · exact (HB.out.alloc HB.out.size _).grown HG.out (by simp; have := HB.out.size; omega) (fun q hq => by have := (hown.lt q hq).1; have := HB1.out.size; omega)
          · exact (HBW.out.alloc hsz _).grown HG.out (by simp; omega) (fun q hq => (hown.lt q hq).1)
        case measure => simp [intOf]
      · obtain rfl : m = 0 := by omega
        obtain rfl : k = n := by omega
        have hcv := conv_own hown (by omega)
        go_wp2
        go_ret2
        exact ⟨ret_se (by rw [stt_yes HSs.out, HL.out]; rfl) (codeS_yes HSs.out), HB.out⟩
  · have hs' : stateB p L = false := by simpa using hs
    clear hs hL
    go_enter Try.func11, Try.ntmps11
    go_wp2_with fail
    refine (implIsState_calls A n c p L _ HL.out hn hI0).mono ?_
    rintro e w1 ⟨rfl, hb⟩
    have HB := Lib.hid hb
    clear hb
    go_wp2
    go_ret2
    exact ⟨ret_se (stt_no hs') (codeS_no hs'), hb0.trans (HB.out.mono (by simp))⟩

end Go.Proofs.Ytfdjlgpdbgmdkaa
