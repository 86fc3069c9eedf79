/- Contracts: whether a state is perfect. -/
import Derived.Test.YtfdjlgpdbgmdkaaPegs
import Derived.Test.YtfdjlgpdbgmdkaaPerfect
import Derived.Test.YtfdjlgpdbgmdkaaArrEq
import Derived.Deep.RegionHeld3
namespace Go.Proofs.Ytfdjlgpdbgmdkaa
open Go.RowKit
set_option linter.unusedVariables false

def allEq (L : List Int) : Bool := L.all (fun x => x == L.getD 0 0)
def ipV (p : Int) (L : List Int) : Bool := stateB p L && allEq L
theorem ret_bi {a b : Bool} {x y : Int} (h : a = b) (h' : x = y) : Ending.returned (.tuple #[.bool b, .int .i64 y]) = .returned (.tuple #[.bool a, .int .i64 x]) := by rw [h, h']
theorem allEq_no {L : List Int} {k : Nat} (hk : k < L.length) (h : L.getD k 0 ≠ L.getD 0 0) : allEq L = false := by
  unfold allEq
  rw [List.all_eq_false]
  refine ⟨L[k], List.getElem_mem hk, ?_⟩
  rw [List.getD_eq_getElem?_getD, List.getElem?_eq_getElem hk] at h
  simpa using h
theorem allEq_yes {L : List Int} (h : ∀ k, k < L.length → L.getD k 0 = L.getD 0 0) : allEq L = true := by
  unfold allEq
  rw [List.all_eq_true]
  intro x hx
  obtain ⟨i, hi, rfl⟩ := List.getElem_of_mem hx
  have := h i hi
  rw [List.getD_eq_getElem?_getD, List.getElem?_eq_getElem hi] at this
  simpa using this

theorem padI_bd {p : Int} {L : List Int} (h : stateB p L = true) (i : Nat) : 0 ≤ padI L i ∧ padI L i ≤ 4 := by
  obtain ⟨h3, h5, _, _⟩ := state_facts h rfl
  unfold padI
  by_cases hi : i < L.length
  · have := state_at h i hi; omega
  · rw [List.getElem?_eq_none (by omega)]; simp
theorem padI_rep (n : Nat) (a : Int) (i : Nat) : padI (List.replicate n a) i = if i < n then a else 0 := by
  unfold padI
  rw [List.getElem?_replicate]
  split <;> rfl
theorem wfOf {x : Int} (h : 0 ≤ x ∧ x ≤ 1000) : (Lit.int .i64 x).wf = true := WalkArith.wf_i64 (by omega)
theorem pad_ne {L : List Int} {n : Nat} {a : Int} (hL : L.length = n) (hn : n ≤ 8) (h : L ≠ List.replicate n a) : ∃ k, k < 8 ∧ padI L k ≠ padI (List.replicate n a) k := by
  apply Classical.byContradiction
  intro hc
  apply h
  apply List.ext_getElem (by simp [hL])
  intro i h1 h2
  have : padI L i = padI (List.replicate n a) i := by
    apply Classical.byContradiction
    intro hne
    exact hc ⟨i, by omega, hne⟩
  unfold padI at this
  rw [List.getElem?_eq_getElem h1, List.getElem?_eq_getElem h2] at this
  simpa using this
theorem rep_of_all {L : List Int} {n : Nat} (hL : L.length = n) (h : allEq L = true) : L = List.replicate n (L.getD 0 0) := by
  rw [List.eq_replicate_iff]
  refine ⟨hL, fun x hx => ?_⟩
  unfold allEq at h
  rw [List.all_eq_true] at h
  simpa using h x hx
theorem all_of_rep {L : List Int} {n : Nat} {a : Int} (h : L = List.replicate n a) : allEq L = true := by
  subst h
  unfold allEq
  rw [List.all_eq_true]
  intro x hx
  obtain ⟨h1, rfl⟩ := List.mem_replicate.1 hx
  simp
  cases n with
  | zero => exact absurd rfl h1
  | succ n => rfl

set_option maxHeartbeats 1000000 in
theorem specIsPerf_calls (A : Option Addr) (n c : Nat) (p : Int) (L : List Int) (w : World) (hL : L.length = n) (hn : n ≤ 1048576) (hI : Ints w A L) :
    Calls Try.prog 25 #[.agg #[.int .i64 p, .slice A n c]] w fun e w' => e = .returned (.tuple #[.bool (ipV p L), .int .i64 (codeS p L)]) ∧ Below w.heap.size w w' := by
  have HL : Hid (L.length = n) := hL
  clear hL
  have hb0 : Below w.heap.size w (w.alloc (.cells #[.int .i64 p, .slice A n c] 26)) := (Below.refl _ _).alloc (Nat.le_refl _) _
  have hI0 := hI.below hb0
  by_cases hs : stateB p L = true
  · go_enter Try.func25, Try.ntmps25
    go_wp2_with fail
    refine (l01Is_calls A n c p L _ HL.out hn hI0).mono ?_
    rintro e w1 ⟨rfl, hb⟩
    have HB := Lib.hid (hb0.trans (hb.mono (by simp)))
    have hI1 := Lib.hid (hI0.below hb)
    obtain ⟨c0, c1, hz⟩ := boxed2 (hb.mono (by simp))
    clear hb hI hI0 hb0
    go_wp2
    have HS := Lib.hid hs
    clear hs
    go_loopw [4] (fun i wr => ∃ k : Nat, k ≤ n ∧ i = .int .i64 k ∧ (∀ j, j < k → L.getD j 0 = L.getD 0 0) ∧ ∃ m, wr = w1.drewN m) (fun i _ => n - (intOf i).toNat)
    case atStart => exact ⟨0, Nat.zero_le _, rfl, fun j hj => absurd hj (by omega), 0, rfl⟩
    case round =>
      obtain ⟨k, hk, rfl, hall, m, rfl⟩ := hrel
      have HA := Lib.hid hall
      clear hall
      by_cases hlt : k < n
      · obtain ⟨ad, rfl, _, hc⟩ := hI1.out k (by rw [HL.out]; exact hlt)
        obtain ⟨ad', had', _, hc0⟩ := hI1.out 0 (by rw [HL.out]; omega)
        injection had' with had'
        subst had'
        have e0 : ad.add 0 = ad := by unfold Addr.add; rw [if_pos rfl]
        rw [e0] at hc0
        clear e0
        have hn0 : (0 : Int) < (n : Int) := by omega
        have hn0' : 0 < n := by omega
        by_cases hx : L[k]?.getD 0 = L[0]?.getD 0
        · have hb : (L[k]?.getD 0 != L[0]?.getD 0) = false := by simpa using hx
          have HX := Lib.hid hx
          clear hx
          go_wp2_with fail
          go_quiet (fail)
          go_wp2
          go_roundw
          case rel => exact ⟨k + 1, by omega, by go_num, fun j hj => by
            by_cases hjk : j = k
            · subst hjk; simpa using HX.out
            · exact HA.out j (by omega), by first | exact ⟨_, rfl⟩ | exact ⟨_, World.drewN_drewN _ _ _⟩⟩
          case measure => simp [intOf]; omega
        · have hb : (L[k]?.getD 0 != L[0]?.getD 0) = true := by simpa using hx
          have HX := Lib.hid hx
          clear hx
          go_wp2_with fail
          go_quiet (fail)
          go_wp2
          go_ret2
          exact ⟨ret_bi (by unfold ipV; rw [allEq_no (k := k) (by rw [HL.out]; exact hlt) (by simpa using HX.out), Bool.and_false]) (codeS_yes HS.out), by first | exact belowDraws HB.out _ | exact belowDraws (belowDraws HB.out _) _⟩
      · obtain rfl : k = n := by omega
        go_wp2
        go_ret2
        exact ⟨ret_bi (by unfold ipV; rw [HS.out, allEq_yes (by rw [HL.out]; exact HA.out)]; rfl) (codeS_yes HS.out), by first | exact belowDraws HB.out _ | exact belowDraws (belowDraws HB.out _) _⟩
  · have hs' : stateB p L = false := by simpa using hs
    clear hs
    go_enter Try.func25, Try.ntmps25
    go_wp2_with fail
    refine (l01Is_calls A n c p L _ HL.out hn hI0).mono ?_
    rintro e w1 ⟨rfl, hb⟩
    have HB := Lib.hid hb
    clear hb
    go_wp2
    go_ret2
    exact ⟨ret_bi (by unfold ipV; rw [hs']; rfl) (codeS_no hs'), hb0.trans (HB.out.mono (by simp))⟩

set_option maxHeartbeats 2000000 in
theorem implIsPerf_calls (A : Option Addr) (n c : Nat) (p : Int) (L : List Int) (w : World) (hL : L.length = n) (hn : n ≤ 1048576) (hI : Ints w A L) :
    Calls Try.prog 23 #[.agg #[.int .i64 p, .slice A n c]] w fun e w' => e = .returned (.tuple #[.bool (ipV p L), .int .i64 (codeS p L)]) ∧ Below w.heap.size w w' := by
  have HL : Hid (L.length = n) := hL
  have hb0 : Below w.heap.size w (w.alloc (.cells #[.int .i64 p, .slice A n c] 26)) := (Below.refl _ _).alloc (Nat.le_refl _) _
  have hI0 := hI.below hb0
  by_cases hs : stateB p L = true
  · obtain ⟨h3, h5, h8, _⟩ := state_facts hs hL
    clear hL
    go_enter Try.func23, Try.ntmps23
    go_wp2_with fail
    refine (implIsState_calls A n c p L _ HL.out hn hI0).mono ?_
    rintro e w1 ⟨rfl, hb⟩
    have X0 := Box.new w 26 #[.int .i64 p, .slice A n c]
    have X1 := Lib.hid (X0.below hb X0.lt)
    have HB1 := Lib.hid (hb0.trans (hb.mono (by simp)))
    have hI1 := hI0.below hb
    clear hb hI hI0 hb0 X0
    obtain ⟨c0, c1, _, _⟩ := X1.out.two
    go_wp2_with fail
    refine (pegsOf_calls A n c p L _ HL.out (by omega) hI1).mono ?_
    rintro e w2 ⟨rfl, hb2⟩
    have X2 := Lib.hid ((X1.out.below hb2 X1.out.lt).alloc (.cells #[.int .i64 (padI L 0), .int .i64 (padI L 1), .int .i64 (padI L 2), .int .i64 (padI L 3), .int .i64 (padI L 4), .int .i64 (padI L 5), .int .i64 (padI L 6), .int .i64 (padI L 7)] 80))
    have Y2 := Lib.hid (Box.new w2 80 #[.int .i64 (padI L 0), .int .i64 (padI L 1), .int .i64 (padI L 2), .int .i64 (padI L 3), .int .i64 (padI L 4), .int .i64 (padI L 5), .int .i64 (padI L 6), .int .i64 (padI L 7)])
    have HB2 := Lib.hid ((HB1.out.trans (hb2.mono HB1.out.size)).alloc (Nat.le_trans HB1.out.size hb2.size) (.cells #[.int .i64 (padI L 0), .int .i64 (padI L 1), .int .i64 (padI L 2), .int .i64 (padI L 3), .int .i64 (padI L 4), .int .i64 (padI L 5), .int .i64 (padI L 6), .int .i64 (padI L 7)] 80))
    have hwz : w.heap.size < w2.heap.size := by have := X1.out.lt; have := hb2.size; omega
    clear hb2 c0 c1
    obtain ⟨c0, c1, _, _⟩ := X2.out.two
    have HS := Lib.hid hs
    clear hs
    go_wp2
    go_loopw [5, 13] (fun _ i wr => ∃ a : Nat, (a : Int) ≤ p ∧ i = .int .i64 a ∧ (∀ b : Nat, b < a → L ≠ List.replicate n (b : Int)) ∧ Box wr w.heap.size 26 #[.int .i64 p, .slice A n c] ∧ Box wr w2.heap.size 80 #[.int .i64 (padI L 0), .int .i64 (padI L 1), .int .i64 (padI L 2), .int .i64 (padI L 3), .int .i64 (padI L 4), .int .i64 (padI L 5), .int .i64 (padI L 6), .int .i64 (padI L 7)] ∧ Below w.heap.size w wr) (fun _ i _ => p.toNat - (intOf i).toNat)
    case atStart => exact ⟨0, by omega, rfl, fun b hb => absurd hb (by omega), X2.out, Y2.out, HB2.out⟩
    case round =>
      obtain ⟨a, ha, rfl, hno, hbx, hby, hb⟩ := hrel
      have HN := Lib.hid hno
      have X := Lib.hid hbx
      have Y := Lib.hid hby
      have HB := Lib.hid hb
      clear hno hbx hby hb c0 c1
      obtain ⟨x0, x1, _, _⟩ := X.out.two
      obtain ⟨y0, y1, y2, y3, y4, y5, y6, y7⟩ := cells8 Y.out
      by_cases hlt : (a : Int) < p
      · have hfw : ∀ i, i < 8 → (Lit.int .i64 (padI L i)).wf = true := fun i _ => wfOf (by have := padI_bd HS.out i; omega)
        have hgw : ∀ i, i < 8 → (Lit.int .i64 (padI (List.replicate n (a : Int)) i)).wf = true := fun i _ => wfOf (by rw [padI_rep]; split <;> omega)
        by_cases hq : L = List.replicate n (a : Int)
        · have hEq := eq8_yes (padI L) (padI (List.replicate n (a : Int))) hfw hgw (fun i _ => congrArg (fun x => padI x i) hq)
          have HQ := Lib.hid hq
          clear hq hfw hgw
          go_wp2_with fail
          go_region_held3 (fun w' => (w'.cell? ⟨w.heap.size, 0, none⟩ = some (.int .i64 p) ∧ w'.cell? ⟨w.heap.size, 1, none⟩ = some (.slice A n c)) ∧ (w'.cell? ⟨w2.heap.size, 0, none⟩ = some (.int .i64 (padI L 0)) ∧ w'.cell? ⟨w2.heap.size, 1, none⟩ = some (.int .i64 (padI L 1)) ∧ w'.cell? ⟨w2.heap.size, 2, none⟩ = some (.int .i64 (padI L 2)) ∧ w'.cell? ⟨w2.heap.size, 3, none⟩ = some (.int .i64 (padI L 3)) ∧ w'.cell? ⟨w2.heap.size, 4, none⟩ = some (.int .i64 (padI L 4)) ∧ w'.cell? ⟨w2.heap.size, 5, none⟩ = some (.int .i64 (padI L 5)) ∧ w'.cell? ⟨w2.heap.size, 6, none⟩ = some (.int .i64 (padI L 6)) ∧ w'.cell? ⟨w2.heap.size, 7, none⟩ = some (.int .i64 (padI L 7))))
            (first | exact ⟨⟨X.out.two.1, X.out.two.2.1⟩, cells8 Y.out⟩ | exact ⟨⟨X3.out.two.1, X3.out.two.2.1⟩, cells8 Y3.out⟩ | exact ⟨⟨X4.out.two.1, X4.out.two.2.1⟩, cells8 Y4.out⟩ | go_keep)
            (first
            | (go_at_call 58; refine (perfectState_calls p (a : Int) n _ h8).mono ?_; rintro e w3 ⟨A3, c3, rfl, hO3, hb3⟩; have X3 := Lib.hid (Box.below X.out (undrew hb3) (Box.lt X.out)); have Y3 := Lib.hid (Box.below Y.out (undrew hb3) (Box.lt Y.out)))
            | (go_at_call 62; refine (pegsOf_calls A3 n c3 p (List.replicate n (a : Int)) _ ?_ h8 ?_).mono ?_; (simp); (exact hO3.ints); rintro e w4 ⟨rfl, hb4⟩; have X4 := Lib.hid (Box.below X3.out hb4 (Box.lt X3.out)); have Y4 := Lib.hid (Box.below Y3.out hb4 (Box.lt Y3.out))))
          go_wp2
          go_ret2
          have q3 := Below.size (undrew hb3)
          have q4 := Below.size hb4
          exact ⟨ret_bi (by unfold ipV; rw [HS.out, all_of_rep HQ.out]; rfl) (codeS_yes HS.out), by first | exact (HB.out.trans ((undrew hb3).mono HB.out.size)).trans (hb4.mono (Nat.le_trans HB.out.size q3)) | exact ((HB.out.trans ((undrew hb3).mono HB.out.size)).trans (hb4.mono (Nat.le_trans HB.out.size q3))).drew⟩
        · obtain ⟨kk, hk8, hkn⟩ := pad_ne HL.out h8 hq
          have hEq := eq8_no (padI L) (padI (List.replicate n (a : Int))) hfw hgw hk8 hkn
          have HQ := Lib.hid hq
          clear hq hfw hgw hkn hk8
          go_wp2_with fail
          go_region_held3 (fun w' => (w'.cell? ⟨w.heap.size, 0, none⟩ = some (.int .i64 p) ∧ w'.cell? ⟨w.heap.size, 1, none⟩ = some (.slice A n c)) ∧ (w'.cell? ⟨w2.heap.size, 0, none⟩ = some (.int .i64 (padI L 0)) ∧ w'.cell? ⟨w2.heap.size, 1, none⟩ = some (.int .i64 (padI L 1)) ∧ w'.cell? ⟨w2.heap.size, 2, none⟩ = some (.int .i64 (padI L 2)) ∧ w'.cell? ⟨w2.heap.size, 3, none⟩ = some (.int .i64 (padI L 3)) ∧ w'.cell? ⟨w2.heap.size, 4, none⟩ = some (.int .i64 (padI L 4)) ∧ w'.cell? ⟨w2.heap.size, 5, none⟩ = some (.int .i64 (padI L 5)) ∧ w'.cell? ⟨w2.heap.size, 6, none⟩ = some (.int .i64 (padI L 6)) ∧ w'.cell? ⟨w2.heap.size, 7, none⟩ = some (.int .i64 (padI L 7))))
            (first | exact ⟨⟨X.out.two.1, X.out.two.2.1⟩, cells8 Y.out⟩ | exact ⟨⟨X3.out.two.1, X3.out.two.2.1⟩, cells8 Y3.out⟩ | exact ⟨⟨X4.out.two.1, X4.out.two.2.1⟩, cells8 Y4.out⟩ | go_keep)
            (first
            | (go_at_call 58; refine (perfectState_calls p (a : Int) n _ h8).mono ?_; rintro e w3 ⟨A3, c3, rfl, hO3, hb3⟩; have X3 := Lib.hid (Box.below X.out (undrew hb3) (Box.lt X.out)); have Y3 := Lib.hid (Box.below Y.out (undrew hb3) (Box.lt Y.out)))
            | (go_at_call 62; refine (pegsOf_calls A3 n c3 p (List.replicate n (a : Int)) _ ?_ h8 ?_).mono ?_; (simp); (exact hO3.ints); rintro e w4 ⟨rfl, hb4⟩; have X4 := Lib.hid (Box.below X3.out hb4 (Box.lt X3.out)); have Y4 := Lib.hid (Box.below Y3.out hb4 (Box.lt Y3.out))))
          have q3 := Below.size (undrew hb3)
          have q4 := Below.size hb4
          have HB4 := Lib.hid ((HB.out.trans ((undrew hb3).mono HB.out.size)).trans (hb4.mono (Nat.le_trans HB.out.size q3)))
          clear hb3 hb4 q3 q4 hO3 x0 x1 y0 y1 y2 y3 y4 y5 y6 y7
          go_wp2
          go_roundw
          case rel => exact ⟨a + 1, by omega, by go_num, fun b hb => by
            by_cases hba : b = a
            · subst hba; exact HQ.out
            · exact HN.out b (by omega), X4.out, Y4.out, HB4.out⟩
          case measure => simp [intOf]; omega
      · have hap : (a : Int) = p := by omega
        have HAP := Lib.hid hap
        clear hap
        go_wp2
        go_ret2
        refine ⟨ret_bi ?_ (codeS_yes HS.out), HB.out⟩
        unfold ipV
        rw [HS.out, Bool.true_and]
        cases hall : allEq L with
        | false => rfl
        | true =>
          exfalso
          have hr := rep_of_all HL.out hall
          have hap := HAP.out
          by_cases hn0 : n = 0
          · exact HN.out 0 (by omega) (by rw [hn0] at hr ⊢; simpa using hr)
          · have hx := state_at HS.out 0 (by rw [HL.out]; omega)
            rw [List.getD_eq_getElem?_getD] at hr
            exact HN.out (L[0]?.getD 0).toNat (by omega) (by rw [Int.toNat_of_nonneg hx.1]; exact hr)
  · have hs' : stateB p L = false := by simpa using hs
    clear hs hL
    go_enter Try.func23, Try.ntmps23
    go_wp2_with fail
    refine (implIsState_calls A n c p L _ HL.out hn hI0).mono ?_
    rintro e w1 ⟨rfl, hb⟩
    have HB := Lib.hid hb
    clear hb
    go_wp2
    go_ret2
    exact ⟨ret_bi (by unfold ipV; rw [hs']; rfl) (codeS_no hs'), hb0.trans (HB.out.mono (by simp))⟩

end Go.Proofs.Ytfdjlgpdbgmdkaa
