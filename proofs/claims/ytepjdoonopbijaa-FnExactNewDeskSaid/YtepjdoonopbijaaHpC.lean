/- Contracts of the laws' functions over heaps: they copy, compare, mark, look for marks, count. -/
import Derived.Test.YtepjdoonopbijaaHpW
import Derived.Test.YtepjdoonopbijaaSSc
namespace Go.Proofs.Ytepjdoonopbijaa
open Go.RowKit
set_option linter.unusedVariables false

theorem madeRows_box (w : World) (n : Nat) : Box (w.alloc (.cells (madeCells #[Value.slice none 0 0] n) 22)) w.heap.size 22 (List.replicate n (Value.slice none 0 0)).toArray := by
  have e : madeCells #[Value.slice none 0 0] n = (List.replicate n (Value.slice none 0 0)).toArray := by
    apply Array.ext (by simp [madeCells])
    intro i h1 h2
    simp [madeCells, Nat.mod_one]
  rw [← e]
  exact Box.new w _ _

set_option maxHeartbeats 1000000 in
theorem eqHeap_calls (A A' : Option Addr) (n c n' c' : Nat) (rs rs' : List Rw) (w : World) (hL : rs.length = n) (hL' : rs'.length = n') (hn : n ≤ 1048576) (hn' : n' ≤ 1048576) (hb : ∀ r ∈ rs, r.n ≤ 1048576) (hb' : ∀ r ∈ rs', r.n ≤ 1048576) (hI : IntsSS w A rs) (hI' : IntsSS w A' rs') :
    Calls Try.prog 12 #[.agg #[.slice A n c], .agg #[.slice A' n' c']] w fun e w' => e = .returned (.bool (decide (LLof rs = LLof rs'))) ∧ Below w.heap.size w w' := by
  have HL := Lib.hid hL
  have HL' := Lib.hid hL'
  have HB := Lib.hid hb
  have HB' := Lib.hid hb'
  have hb0 : Below w.heap.size w ((w.alloc (.cells #[.slice A n c] 27)).alloc (.cells #[.slice A' n' c'] 27)) := ((Below.refl _ _).alloc (Nat.le_refl _) _).alloc (by simp) _
  have HI0 := Lib.hid (hI.below hb0)
  have HI0' := Lib.hid (hI'.below hb0)
  have HB0 := Lib.hid hb0
  clear hL hL' hb hb' hb0 hI hI'
  go_enter Try.func12, Try.ntmps12
  go_wp2_with fail
  refine (eqInt64SS_calls A A' n c n' c' rs rs' _ HL.out HL'.out hn hn' HB.out HB'.out HI0.out HI0'.out).mono ?_
  rintro e w1 ⟨rfl, m, rfl⟩
  by_cases he : LLof rs = LLof rs'
  · have hd : Hid (decide (LLof rs = LLof rs') = true) := by unfold Hid; simpa using he
    clear he
    rw [hd.out]
    go_wp2
    go_ret
    exact ⟨ret_bool hd.out.symm, belowDraws HB0.out m⟩
  · have hd : Hid (decide (LLof rs = LLof rs') = false) := by unfold Hid; simpa using he
    clear he
    rw [hd.out]
    go_wp2
    go_ret
    exact ⟨ret_bool hd.out.symm, belowDraws HB0.out m⟩

set_option maxHeartbeats 1000000 in
theorem markHeap_calls (B : Nat) (A : Option Addr) (n c : Nat) (rs : List Rw) (k : Int) (w : World) (hO : OwnSS B w A n c rs) (hBw : B ≤ w.heap.size) (hn : n ≤ 1048576) (hb : totN rs ≤ 1048576) (hk0 : 0 ≤ k) (hk1 : k ≤ 900000000000) :
    Calls Try.prog 14 #[.agg #[.slice A n c], .int .i64 k] w fun e w' => e = .returned (.int .i64 (k + totN rs)) ∧ OwnSS B w' A n c (mkSS k rs) ∧ Below B w w' := by
  have hb0 : Below w.heap.size w (w.alloc (.cells #[.slice A n c] 27)) := (Below.refl _ _).alloc (Nat.le_refl _) _
  have HO := Lib.hid (hO.below hb0)
  have HB0 : Hid (Below B w (w.alloc (.cells #[.slice A n c] 27))) := hb0.mono hBw
  clear hO hb0
  go_enter Try.func14, Try.ntmps14
  go_wp2_with fail
  refine (markInt64SS_calls B A n c rs k _ HO.out hn hb hk0 hk1).mono ?_
  rintro e w1 ⟨rfl, hO, hg⟩
  have HO1 := Lib.hid hO
  have HB1 := Lib.hid (HB0.out.trans hg)
  clear hO hg
  go_wp2
  go_ret
  exact ⟨rfl, HO1.out, HB1.out⟩

set_option maxHeartbeats 1000000 in
theorem heldHeap_calls (A : Option Addr) (n c : Nat) (rs : List Rw) (k : Int) (w : World) (hL : rs.length = n) (hI : IntsSS w A (mkSS k rs)) (hn : n ≤ 1048576) (hb : totN rs ≤ 1048576) (hk0 : 0 ≤ k) (hk1 : k ≤ 900000000000) :
    Calls Try.prog 16 #[.agg #[.slice A n c], .int .i64 k] w fun e w' => e = .returned (.int .i64 (k + totN rs)) ∧ Below w.heap.size w w' := by
  have hb0 : Below w.heap.size w (w.alloc (.cells #[.slice A n c] 27)) := (Below.refl _ _).alloc (Nat.le_refl _) _
  have HI := Lib.hid (hI.below hb0)
  have HB0 := Lib.hid hb0
  have HL := Lib.hid hL
  have hnn : ¬ (k + totN rs : Int) < 0 := by omega
  clear hI hb0 hL
  go_enter Try.func16, Try.ntmps16
  go_wp2_with fail
  refine (heldInt64SS_calls A n c rs k _ HL.out HI.out hn hb hk0 hk1).mono ?_
  rintro e w1 ⟨rfl, m, rfl⟩
  go_wp2
  go_ret
  exact ⟨rfl, belowDraws HB0.out m⟩

end Go.Proofs.Ytepjdoonopbijaa
