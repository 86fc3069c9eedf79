/- Contracts of the specification: wrong pairs, regular heaps. -/
import Derived.Test.YtdifolaobgclgaaDoorHpWr
import Derived.Test.YtdifolaobgclgaaDoorHpSpec
import Derived.BigQuiet
namespace Go.Proofs.YtdifolaobgclgaaDoor
open Go.RowKit
set_option linter.unusedVariables false

set_option maxRecDepth 100000 in
set_option maxHeartbeats 4000000 in
theorem l06Wrong_calls (A : Option Addr) (n c : Nat) (rs : List Rw) (w : World) (hL : rs.length = n) (hI : IntsSS w A rs) (hh : heapB (LLof rs) = true) :
    Calls Tryd.prog 27 #[.agg #[.slice A n c]] w fun e w' => e = .returned (.int .i64 (wrongs (LLof rs))) ∧ Below w.heap.size w w' := by
  obtain ⟨h3, _, _⟩ := heapB_facts hh
  rw [LL_len] at h3
  obtain rfl : n = 3 := by omega
  have HL := Lib.hid hL
  have HH := Lib.hid hh
  have hb0 : Below w.heap.size w (w.alloc (.cells #[.slice A 3 c] 27)) := (Below.refl _ _).alloc (Nat.le_refl _) _
  have HI := Lib.hid (hI.below hb0)
  have HB0 := Lib.hid hb0
  have X0 := Lib.hid (Box.new w 27 #[.slice A 3 c])
  clear hL hI hb0 hh h3
  obtain ⟨W0, hW0⟩ : ∃ W0, W0 = w.alloc (.cells #[.slice A 3 c] 27) := ⟨_, rfl⟩
  rw [← hW0] at HI HB0 X0
  have HW := Lib.hid hW0
  clear hW0
  go_enter Tryd.func27, Tryd.ntmps27
  go_wp2
  rw [← HW.out]
  go_loopw [3, 4] (fun m i wr => ∃ a q : Nat, a ≤ 3 ∧ i = .int .i64 a ∧ m = .int .i64 q ∧ Hid (q = wrK (LLof rs) a) ∧ q ≤ 16 * a ∧ Below W0.heap.size W0 wr) (fun _ i _ => 3 - (intOf i).toNat)
  case atStart => exact ⟨0, 0, by omega, rfl, rfl, by unfold Hid wrK; simp, by omega, Below.refl _ _⟩
  case round =>
    obtain ⟨a, q, ha, rfl, rfl, hq, hqb, hbl⟩ := hrel
    have HBl := Lib.hid hbl
    have X1 := Lib.hid (X0.out.below hbl X0.out.lt)
    clear hbl
    obtain ⟨x0, _⟩ := X1.out.one
    by_cases hlt : a < 3
    · obtain ⟨r, hr⟩ := get_of_lt (rs := rs) (k := a) (by rw [HL.out]; exact hlt)
      obtain ⟨ad, hA, had, hc, hll, hi⟩ := (HI.out.below HBl.out) a r hr
      have HLa := Lib.hid (LL_at hr)
      have hs4 := (heap_stack HH.out HLa.out).1
      have hll := Lib.hid hll
      have HRr := Lib.hid hr
      have Hs := Lib.hid (wrK_succ HLa.out)
      clear hr hi
      obtain ⟨rA, rn, rc, rd, rL⟩ := r
      change Hid (rL.length = rn) at hll
      change rL.length ≤ 4 at hs4
      rw [hll.out] at hs4
      change Hid ((LLof rs)[a]? = some rL) at HLa
      change _ = some (Value.slice rA rn rc) at hc
      change Hid (wrK (LLof rs) (a + 1) = wrK (LLof rs) a + wP rL.reverse) at Hs
      have hlt2 : (a : Int) < 3 := by omega
      subst hA
      go_wp2
      go_loopw [3, 6] (fun m i wq => ∃ j p : Nat, j ≤ rn ∧ i = .int .i64 j ∧ m = .int .i64 ((q + p : Nat) : Int) ∧ Hid (p = wP (rL.take j).reverse) ∧ p ≤ 4 * j ∧ Below W0.heap.size W0 wq) (fun _ i _ => rn - (intOf i).toNat)
      case atStart => exact ⟨0, 0, by omega, rfl, by simp, by unfold Hid; simp [wP], by omega, HBl.out⟩
      case round =>
        obtain ⟨j, p, hj, rfl, rfl, hp, hpb, hbl⟩ := hrel
        have HB2 := Lib.hid hbl
        clear hbl
        by_cases hjl : j < rn
        · have hst := Lib.hid (wP_take (l := rL) (i := j) (by rw [hll.out]; exact hjl))
          have hjl2 : (j : Int) < (rn : Int) := by omega
          obtain ⟨x, hx⟩ : ∃ x, x = rL[j]?.getD 0 := ⟨_, rfl⟩
          rw [← hx] at hst
          have HX := Lib.hid hx
          clear hx
          go_wp2
          go_loopw [3, 7] (fun m i wx => ∃ k z : Nat, k ≤ j ∧ i = .int .i64 k ∧ m = .int .i64 ((q + p + z : Nat) : Int) ∧ Hid (z = lessN x (rL.take k)) ∧ z ≤ k ∧ Below W0.heap.size W0 wx) (fun _ i _ => j - (intOf i).toNat)
          case atStart => exact ⟨0, 0, by omega, rfl, by simp, by unfold Hid lessN; simp, by omega, HB2.out⟩
          case round =>
            obtain ⟨k, z, hk, rfl, rfl, hz, hzb, hbl⟩ := hrel
            have HB3 := Lib.hid hbl
            have hi : Ints wr rA rL := by
              obtain ⟨_, _, _, _, _, hi⟩ := (HI.out.below hbl) a _ HRr.out
              exact hi
            clear hbl
            by_cases hkj : k < j
            · have hkj2 : (k : Int) < (j : Int) := by omega
              obtain ⟨ae, hae, had2, hcj⟩ := hi j (by rw [hll.out]; exact hjl)
              obtain ⟨af, haf, had3, hck⟩ := hi k (by rw [hll.out]; omega)
              have hkr : (k : Int) < (rn : Int) := by omega
              subst hae
              injection haf with haf
              subst haf
              have hlk := Lib.hid (lessN_take (x := x) (l := rL) (k := k) (by rw [hll.out]; omega))
              rw [List.getD_eq_getElem?_getD] at hcj hck
              rw [← HX.out] at hcj
              clear hi
              generalize rL[k]?.getD 0 = y at *
              by_cases hgt : x > y
              · have hlk2 : Hid (lessN x (rL.take (k + 1)) = lessN x (rL.take k) + 1) := by unfold Hid; rw [hlk.out, if_pos hgt]
                clear hlk
                have hgt2 : y < x := hgt
                clear hgt
                go_wp2_with fail
                go_quiet (fail)
                go_wp2
                go_roundw
                case rel => exact ⟨k + 1, z + 1, by omega, by go_num, by go_num, by unfold Hid; rw [hlk2.out, ← hz.out], by omega, by first | exact belowDraws HB3.out _ | exact HB3.out⟩
                case measure => simp [intOf]; omega
              · have hlk2 : Hid (lessN x (rL.take (k + 1)) = lessN x (rL.take k)) := by unfold Hid; rw [hlk.out, if_neg hgt]; rfl
                clear hlk
                have hgt2 : ¬ y < x := hgt
                clear hgt
                go_wp2_with fail
                go_quiet (fail)
                go_wp2
                go_roundw
                case rel => exact ⟨k + 1, z, by omega, by go_num, by go_num, by unfold Hid; rw [hlk2.out, ← hz.out], by omega, by first | exact belowDraws HB3.out _ | exact HB3.out⟩
                case measure => simp [intOf]; omega
            · obtain rfl : k = j := by omega
              go_wp2
              go_roundw
              case rel => exact ⟨k + 1, p + z, by omega, by go_num, by go_num, by unfold Hid; rw [hst.out, ← hp.out, ← hz.out], by omega, HB3.out⟩
              case measure => simp [intOf]; omega
        · obtain rfl : j = rn := by omega
          have e : rL.take j = rL := List.take_of_length_le (by rw [hll.out]; exact Nat.le_refl _)
          rw [e] at hp
          go_wp2
          go_roundw
          case rel => exact ⟨a + 1, q + p, by omega, by go_num, by go_num, by unfold Hid; rw [Hs.out, ← hq.out, ← hp.out], by omega, HB2.out⟩
          case measure => simp [intOf]; omega
    · obtain rfl : a = 3 := by omega
      have e : Hid (wrongs (LLof rs) = q) := by unfold Hid wrongs; rw [LL_len, HL.out, hq.out]
      go_wp2
      go_ret
      exact ⟨ret_int (by rw [e.out]), HB0.out.trans (HBl.out.mono HB0.out.size)⟩

/-- Regular: a heap with no wrong pair. -/
def regV (LL : List (List Int)) : Bool := heapB LL && decide (wrongs LL = 0)
def wrongV (LL : List (List Int)) : Int := if heapB LL = true then (wrongs LL : Int) else 0

theorem reg_yes {LL : List (List Int)} (h : heapB LL = true) : regV LL = decide (wrongs LL = 0) ∧ wrongV LL = wrongs LL := ⟨by unfold regV; rw [h]; rfl, by unfold wrongV; rw [if_pos h]⟩
theorem reg_no {LL : List (List Int)} (h : heapB LL = false) : regV LL = false ∧ wrongV LL = 0 := ⟨by unfold regV; rw [h]; rfl, by unfold wrongV; rw [h]; rfl⟩
theorem wrongs_bound {LL : List (List Int)} (h : heapB LL = true) : wrongs LL ≤ 48 := by
  have h3 := (heapB_facts h).1
  have := wrongs_le h 3 (Nat.le_refl _)
  unfold wrongs
  rw [h3]
  omega

end Go.Proofs.YtdifolaobgclgaaDoor
