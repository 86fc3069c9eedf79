/- Contracts: what is a desk, by the specification's model and by the program. -/
import Derived.Test.YtepjdoonopbijaaDoorDk
import Derived.Test.YtepjdoonopbijaaDoorSpecIs
import Derived.Test.YtepjdoonopbijaaDoorCodeW
import Derived.Test.YtepjdoonopbijaaDoorHpIs
namespace Go.Proofs.YtepjdoonopbijaaDoor
open Go.RowKit
set_option linter.unusedVariables false

/-- What is a desk. -/
def deskB (p : Int) (L : List Int) (G : Int) (LL : List (List Int)) : Bool := stateB p L && decide (p = 3) && inB G 0 2 && heapB LL

set_option maxHeartbeats 2000000 in
theorem specIsDesk_calls (A H : Option Addr) (n c m d : Nat) (p G : Int) (L : List Int) (rs : List Rw) (w : World) (hL : L.length = n) (hn : n ≤ 1048576) (hl : rs.length = m) (hm : m ≤ 1048576) (hb : totN rs ≤ 1048576) (hI : Ints w A L) (hJ : IntsSS w H rs) :
    Calls Tryd.prog 5 #[.agg #[.int .i64 p, .slice A n c, .int .i64 G, .slice H m d]] w fun e w' => e = .returned (.bool (deskB p L G (LLof rs))) ∧ Below w.heap.size w w' := by
  have hb0 : Below w.heap.size w (w.alloc (.cells #[.int .i64 p, .slice A n c, .int .i64 G, .slice H m d] 35)) := (Below.refl _ _).alloc (Nat.le_refl _) _
  have X0 := Lib.hid (Box.new w 35 #[.int .i64 p, .slice A n c, .int .i64 G, .slice H m d])
  have HB0 := Lib.hid hb0
  have HL := Lib.hid hL
  have Hl := Lib.hid hl
  have HT := Lib.hid hb
  have HI := Lib.hid (hI.below hb0)
  have HJ := Lib.hid hJ
  clear hb0 hL hl hI hJ hb
  obtain ⟨x0, x1, x2, x3⟩ := X0.out.four
  cases hs : stateB p L with
  | false =>
    have HE : Hid (false = deskB p L G (LLof rs)) := by unfold Hid deskB; rw [hs]; simp
    have HS := Lib.hid hs
    clear hs
    go_enter Tryd.func5, Tryd.ntmps5
    go_wp2_with fail
    refine (l01Is_calls A n c p L _ HL.out hn HI.out).mono ?_
    rintro e w1 ⟨rfl, hb⟩
    have HB1 := Lib.hid (HB0.out.trans (hb.mono HB0.out.size))
    rw [HS.out]
    clear hb x0 x1 x2 x3
    go_wp2
    go_ret
    exact ⟨ret_bool HE.out, HB1.out⟩
  | true =>
    have HS := Lib.hid hs
    clear hs
    by_cases hp : p = 3
    · subst hp
      cases hg : inB G 0 2 with
      | false =>
        have HE : Hid (false = deskB 3 L G (LLof rs)) := by unfold Hid deskB; rw [hg]; simp
        have HG := Lib.hid hg
        clear hg
        go_enter Tryd.func5, Tryd.ntmps5
        go_wp2_with fail
        refine (l01Is_calls A n c 3 L _ HL.out hn HI.out).mono ?_
        rintro e w1 ⟨rfl, hb⟩
        have HB1 := Lib.hid (HB0.out.trans (hb.mono HB0.out.size))
        have X1 := Lib.hid (X0.out.below hb X0.out.lt)
        rw [HS.out]
        clear hb x0 x1 x2 x3
        obtain ⟨x0, x1, x2, x3⟩ := X1.out.four
        go_wp2_with fail
        refine (l01In_calls G 0 2 _).mono ?_
        rintro e w2 ⟨rfl, rfl⟩
        rw [HG.out]
        go_wp2
        go_ret
        exact ⟨ret_bool HE.out, HB1.out⟩
      | true =>
        have HE : Hid (heapB (LLof rs) = deskB 3 L G (LLof rs)) := by unfold Hid deskB; rw [hg, HS.out]; simp
        have HG := Lib.hid hg
        clear hg
        go_enter Tryd.func5, Tryd.ntmps5
        go_wp2_with fail
        refine (l01Is_calls A n c 3 L _ HL.out hn HI.out).mono ?_
        rintro e w1 ⟨rfl, hb⟩
        have HB1 := Lib.hid (HB0.out.trans (hb.mono HB0.out.size))
        have X1 := Lib.hid (X0.out.below hb X0.out.lt)
        have HJ1 := Lib.hid (HJ.out.below HB1.out)
        rw [HS.out]
        clear hb x0 x1 x2 x3
        obtain ⟨x0, x1, x2, x3⟩ := X1.out.four
        go_wp2_with fail
        refine (l01In_calls G 0 2 _).mono ?_
        rintro e w2 ⟨rfl, rfl⟩
        rw [HG.out]
        go_wp2_with fail
        refine (l06Is_calls H m d rs _ Hl.out hm HT.out HJ1.out).mono ?_
        rintro e w2 ⟨rfl, hb⟩
        have HB2 := Lib.hid (HB1.out.trans (hb.mono HB1.out.size))
        generalize heapB (LLof rs) = v at *
        clear hb x0 x1 x2 x3
        go_wp2
        go_ret
        exact ⟨ret_bool HE.out, HB2.out⟩
    · have hp' : (p == 3) = false := by simpa using hp
      have HE : Hid (false = deskB p L G (LLof rs)) := by unfold Hid deskB; simp [hp]
      clear hp
      go_enter Tryd.func5, Tryd.ntmps5
      go_wp2_with fail
      refine (l01Is_calls A n c p L _ HL.out hn HI.out).mono ?_
      rintro e w1 ⟨rfl, hb⟩
      have HB1 := Lib.hid (HB0.out.trans (hb.mono HB0.out.size))
      have X1 := Lib.hid (X0.out.below hb X0.out.lt)
      rw [HS.out]
      clear hb x0 x1 x2 x3
      obtain ⟨x0, x1, x2, x3⟩ := X1.out.four
      go_wp2
      go_ret
      exact ⟨ret_bool HE.out, HB1.out⟩

theorem codeW_eqz {p : Int} {L : List Int} {a : Int} : (codeW p L a == 0) = (stateB p L && decide (p = 3) && inB a 0 2) := by
  unfold codeW code1
  by_cases h1 : stateB p L = true
  · by_cases h2 : p = 3
    · subst h2
      rw [if_pos h1]
      simp only [if_true]
      cases h3 : inB a 0 2 <;> simp [h1]
    · simp [h1, h2]
  · simp [h1]
theorem Box.first2 {w : World} {g t t' : Nat} {u v : Value} (h : Box w g t #[u, v]) : w.cell? ⟨g, 0, none⟩ = some u ∧ w.cell? ⟨g, 1, none⟩ = some v := ⟨h.two.1, h.two.2.1⟩

set_option maxHeartbeats 2000000 in
theorem implIsDesk_calls (A H : Option Addr) (n c m d : Nat) (p G : Int) (L : List Int) (rs : List Rw) (ea : Addr) (w : World) (hL : L.length = n) (hn : n ≤ 1048576) (hl : rs.length = m) (hm : m ≤ 1048576) (hb : totN rs ≤ 1048576) (hI : Ints w A L) (hJ : IntsSS w H rs) (hS : Sent w ea) :
    Calls Tryd.prog 7 #[.agg #[.int .i64 p, .slice A n c, .int .i64 G, .slice H m d]] w fun e w' => e = .returned (.bool (deskB p L G (LLof rs))) ∧ Below w.heap.size w w' := by
  have hb1 : Below w.heap.size w (w.alloc (.cells #[.int .i64 p, .slice A n c, .int .i64 G, .slice H m d] 35)) := (Below.refl _ _).alloc (Nat.le_refl _) _
  have hb0 := hb1.alloc (by simp) (.cells #[.int .i64 p, .slice A n c] 32)
  have X0 := Lib.hid ((Box.new w 35 #[.int .i64 p, .slice A n c, .int .i64 G, .slice H m d]).alloc (.cells #[.int .i64 p, .slice A n c] 32))
  have Y0 : Hid (Box ((w.alloc (.cells #[.int .i64 p, .slice A n c, .int .i64 G, .slice H m d] 35)).alloc (.cells #[.int .i64 p, .slice A n c] 32)) (w.heap.size + 1) 32 #[.int .i64 p, .slice A n c]) := by
    have := Box.new (w.alloc (.cells #[.int .i64 p, .slice A n c, .int .i64 G, .slice H m d] 35)) 32 #[.int .i64 p, .slice A n c]
    exact Lib.hid (by simpa using this)
  have HB0 := Lib.hid hb0
  have HL := Lib.hid hL
  have Hl := Lib.hid hl
  have HT := Lib.hid hb
  have HI := Lib.hid (hI.below hb0)
  have HJ := Lib.hid hJ
  have HSe := Lib.hid hS
  have hZ := codeW_eqz (p := p) (L := L) (a := G)
  clear hb0 hb1 hL hl hI hJ hb hS
  obtain ⟨x0, x1, x2, x3⟩ := (Box.new w 35 #[.int .i64 p, .slice A n c, .int .i64 G, .slice H m d]).four
  cases hc : (codeW p L G == 0) with
  | false =>
    have HE : Hid (false = deskB p L G (LLof rs)) := by unfold Hid deskB; rw [← hZ, hc]; simp
    clear hZ
    go_enter Tryd.func7, Tryd.ntmps7
    go_wp2_with fail
    refine (codeOfPeg_one (w.heap.size + 1) A n c p L G _ Y0.out HL.out hn HI.out).mono ?_
    rintro e w1 ⟨rfl, hb⟩
    have HB1 := Lib.hid (HB0.out.trans (hb.mono HB0.out.size))
    clear hb x0 x1 x2 x3
    go_wp2
    go_ret
    exact ⟨ret_bool HE.out, HB1.out⟩
  | true =>
    have HE : Hid (heapB (LLof rs) = deskB p L G (LLof rs)) := by unfold Hid deskB; rw [← hZ, hc]; simp
    clear hZ
    go_enter Tryd.func7, Tryd.ntmps7
    go_wp2_with fail
    refine (codeOfPeg_one (w.heap.size + 1) A n c p L G _ Y0.out HL.out hn HI.out).mono ?_
    rintro e w1 ⟨rfl, hb⟩
    have HB1 := Lib.hid (HB0.out.trans (hb.mono HB0.out.size))
    have X1 := Lib.hid (X0.out.below hb X0.out.lt)
    have HJ1 := Lib.hid (HJ.out.below HB1.out)
    have HS1 := Lib.hid (HSe.out.below HB1.out)
    clear hb x0 x1 x2 x3
    obtain ⟨x0, x1, x2, x3⟩ := X1.out.four
    go_wp2_with fail
    refine (implIsHeap_h H m d rs ea _ Hl.out hm HT.out HJ1.out HS1.out).mono ?_
    rintro e w2 ⟨rfl, hb⟩
    have HB2 := Lib.hid (HB1.out.trans (hb.mono HB1.out.size))
    generalize heapB (LLof rs) = v at *
    clear hb x0 x1 x2 x3
    go_wp2
    go_ret
    exact ⟨ret_bool HE.out, HB2.out⟩

end Go.Proofs.YtepjdoonopbijaaDoor
