/- Contracts: slices.Reverse of an own list of integers. -/
import Derived.Test.YtpiglaolofddfaaDoorOwnG
import Derived.Test.YtpiglaolofddfaaDoorMark
namespace Go.Proofs.YtpiglaolofddfaaDoor
open Go.RowKit
set_option linter.unusedVariables false

/-- The list with its first i elements and its last i exchanged. -/
def rvL (L : List Int) (i : Nat) : List Int := (List.range L.length).map (fun k => if k < i ∨ L.length - 1 - k < i then L[L.length - 1 - k]?.getD 0 else L[k]?.getD 0)
theorem rvL_len (L : List Int) (i : Nat) : (rvL L i).length = L.length := by simp [rvL]
theorem rvL_get {L : List Int} {i k : Nat} (hk : k < L.length) : (rvL L i)[k]? = some (if k < i ∨ L.length - 1 - k < i then L[L.length - 1 - k]?.getD 0 else L[k]?.getD 0) := by simp [rvL, hk]
theorem rvL_zero (L : List Int) : rvL L 0 = L := by
  apply List.ext_getElem?
  intro k
  by_cases hk : k < L.length
  · rw [rvL_get hk, if_neg (by omega), List.getElem?_eq_getElem hk]; rfl
  · rw [List.getElem?_eq_none (by rw [rvL_len]; omega), List.getElem?_eq_none (by omega)]
theorem rvL_end {L : List Int} {i : Nat} (h : L.length ≤ 2 * i + 1) : rvL L i = L.reverse := by
  apply List.ext_getElem?
  intro k
  by_cases hk : k < L.length
  · rw [rvL_get hk, List.getElem?_reverse hk]
    split
    · rw [List.getElem?_eq_getElem (by omega)]; rfl
    · rw [show L.length - 1 - k = k by omega, List.getElem?_eq_getElem hk]; rfl
  · rw [List.getElem?_eq_none (by rw [rvL_len]; omega), List.getElem?_eq_none (by rw [List.length_reverse]; omega)]
theorem rvL_step {L : List Int} {i j : Nat} (hij : i + j + 1 = L.length) (h : i < j) : ((rvL L i).set i (L[j]?.getD 0)).set j (L[i]?.getD 0) = rvL L (i + 1) := by
  apply List.ext_getElem?
  intro k
  by_cases hk : k < L.length
  · rw [rvL_get hk, List.getElem?_set, List.getElem?_set]
    by_cases hj : j = k
    · subst hj
      rw [if_pos rfl, if_pos (by rw [List.length_set, rvL_len]; exact hk), if_pos (by omega), show L.length - 1 - j = i by omega]
    · rw [if_neg hj]
      by_cases hi : i = k
      · subst hi
        rw [if_pos rfl, if_pos (by rw [rvL_len]; exact hk), if_pos (by omega), show L.length - 1 - i = j by omega]
      · rw [if_neg hi, rvL_get hk]
        congr 1
        by_cases h1 : k < i ∨ L.length - 1 - k < i
        · rw [if_pos h1, if_pos (by omega)]
        · rw [if_neg h1, if_neg (by omega)]
  · rw [List.getElem?_eq_none (by rw [List.length_set, List.length_set, rvL_len]; omega), List.getElem?_eq_none (by rw [rvL_len]; omega)]
theorem grown_drewR {w w' : World} {r : Option Nat} (h : w.grownBy w' r) : w.grownBy w'.drew r := ⟨h.os, h.tape, h.output, h.size, h.block⟩
theorem grown_thenR {w w1 w2 : World} {r : Option Nat} (h : w.grownBy w1 r) (k : w1.grownBy w2 r) : w.grownBy w2 r :=
  ⟨k.os.trans h.os, k.tape.trans h.tape, k.output.trans h.output, Nat.le_trans h.size k.size, fun b hb hr => (k.block b (Nat.lt_of_lt_of_le hb h.size) hr).trans (h.block b hb hr)⟩
theorem set_mapI (L : List Int) (d : Nat) (x : Int) : (L.map (Value.int .i64)).set d (.int .i64 x) = (L.set d x).map (Value.int .i64) := by rw [List.map_set]

set_option maxHeartbeats 2000000 in
theorem reverse_calls (B : Nat) (A : Option Addr) (n c : Nat) (L : List Int) (w : World) (hn : n ≤ 1000) (hO : Own B w A n c L) (hB : B ≤ w.heap.size) :
    Calls Tryd.prog 43 #[.slice A n c] w fun e w' => e = .returned (.tuple #[]) ∧ Own B w' A n c L.reverse ∧ w.grownBy w' (Value.slice A n c).ownBlock := by
  have hLn := Own.len hO
  have HL := Lib.hid hLn
  have HO := Lib.hid hO
  clear hO hLn
  go_enter Tryd.func43, Tryd.ntmps43
  go_wp2
  go_loopw [2, 3] (fun i j wr => ∃ (a : Nat) (b : Int), i = .int .i64 a ∧ j = .int .i64 b ∧ (a : Int) + b = (n : Int) - 1 ∧ a ≤ n ∧ Own B wr A n c (rvL L a) ∧ w.grownBy wr (Value.slice A n c).ownBlock) (fun i _ _ => n - (intOf i).toNat)
  case atStart => exact ⟨0, (n : Int) - 1, rfl, by go_num, by omega, by omega, by rw [rvL_zero]; exact HO.out, World.grownBy.refl _ _⟩
  case round =>
    obtain ⟨a, b, rfl, rfl, hab, han, hOa, hg⟩ := hrel
    have HOa := Lib.hid hOa
    have HG := Lib.hid hg
    clear hOa hg
    by_cases hlt : (a : Int) < b
    · obtain ⟨j, rfl⟩ := Int.eq_ofNat_of_zero_le (show 0 ≤ b by omega)
      obtain ⟨g, rfl, hBg, hgs, ca⟩ := OwnG.cell HOa.out a (by omega)
      obtain ⟨g', hg', _, _, cb⟩ := OwnG.cell HOa.out j (by omega)
      injection hg' with hg'
      injection hg' with hg'
      subst hg'
      have fa := OwnG.frozen HOa.out rfl a
      have fb := OwnG.frozen HOa.out rfl j
      rw [List.getElem?_map, rvL_get (by rw [HL.out]; omega), if_neg (by rw [HL.out]; omega)] at ca cb
      simp only [Option.map_some] at ca cb
      have hj : j < n := by omega
      have ha : a < n := by omega
      go_wp2_with fail
      go_region
      go_wp2
      go_roundw
      case rel =>
        obtain ⟨s1, e1⟩ := World.ownsRow.stored HOa.out a (.int .i64 (L[j]?.getD 0))
        obtain ⟨s2, e2⟩ := World.ownsRow.stored s1 j (.int .i64 (L[a]?.getD 0))
        rw [set_mapI, set_mapI, rvL_step (by rw [HL.out]; omega) (by omega)] at s2
        exact ⟨a + 1, (j : Int) - 1, by go_num, by go_num, by omega, by omega, s2, grown_thenR HG.out (grown_drewR (grown_thenR e1 e2))⟩
      case measure => simp [intOf]; omega
    · go_wp2
      go_end0
      refine ⟨rfl, ?_, HG.out⟩
      have := HOa.out
      rwa [rvL_end (by rw [HL.out]; omega)] at this

end Go.Proofs.YtpiglaolofddfaaDoor
