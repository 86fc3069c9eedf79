/- Contracts: slices.IndexFunc and slices.Delete over pegs. -/
import Derived.Test.YtfllbdpdfgkkaaaPm
import Derived.Test.YtfllbdpdfgkkaaaMark
import Derived.Deep.RegionLaw
import Derived.Lib.LazyBuf
import Derived.Lib.SliceRun
namespace Go.Proofs.Ytfllbdpdfgkkaaa
open Go.RowKit
set_option linter.unusedVariables false

theorem leadOther_calls (bu bv : Nat) (u v x : Int) (w : World) (hu : Box w bu 2 #[.int .i64 u]) (hv : Box w bv 2 #[.int .i64 v]) :
    Calls Try.prog 31 #[.int .i64 x, .pointer (some ⟨bu, 0, none⟩), .pointer (some ⟨bv, 0, none⟩)] w fun e w' => e = .returned (.bool (x != u && x != v)) ∧ w = w' := by
  obtain ⟨u0, _⟩ := hu.one
  obtain ⟨v0, _⟩ := hv.one
  by_cases h1 : (x != u) = true
  · rw [h1, Bool.true_and]
    go_enter Try.func31, Try.ntmps31
    go_wp2
    go_ret
    exact ⟨rfl, rfl⟩
  · have h1' : (x != u) = false := by simpa using h1
    rw [h1', Bool.false_and]
    clear h1
    go_enter Try.func31, Try.ntmps31
    go_wp2
    go_ret
    exact ⟨rfl, rfl⟩

set_option maxHeartbeats 1000000 in
theorem indexFunc_calls (bu bv : Nat) (u v : Int) (A : Option Addr) (n c p : Nat) (L : List Int) (w : World) (hL : L.length = n) (hn : n ≤ 5) (hI : Ints w A L) (hu : Box w bu 2 #[.int .i64 u]) (hv : Box w bv 2 #[.int .i64 v])
    (hp : p < n) (hbef : ∀ j, j < p → L[j]?.getD 0 = u ∨ L[j]?.getD 0 = v) (hpu : L[p]?.getD 0 ≠ u) (hpv : L[p]?.getD 0 ≠ v) :
    Calls Try.prog 30 #[.slice A n c, .func (.func 31) #[] #[.pointer (some ⟨bu, 0, none⟩), .pointer (some ⟨bv, 0, none⟩)]] w fun e w' => e = .returned (.int .i64 p) ∧ w = w' := by
  have HL := Lib.hid hL
  have HI := Lib.hid hI
  have HU := Lib.hid hu
  have HV := Lib.hid hv
  have HBF := Lib.hid hbef
  have HPU := Lib.hid hpu
  have HPV := Lib.hid hpv
  clear hL hI hu hv hbef hpu hpv
  go_enter Try.func30, Try.ntmps30
  go_wp2
  go_loop [8] (fun i => ∃ j : Nat, j ≤ p ∧ i = .int .i64 j) (fun i => p + 1 - (intOf i).toNat)
  case atStart => exact ⟨0, by omega, rfl⟩
  case round =>
    obtain ⟨j, hj, rfl⟩ := hrel
    obtain ⟨ad, rfl, had, hc⟩ := HI.out j (by rw [HL.out]; omega)
    rw [List.getD_eq_getElem?_getD] at hc
    have hjn : j < n := by omega
    by_cases hlt : j < p
    · have hb := HBF.out j hlt
      obtain ⟨x, ex⟩ : ∃ x, L[j]?.getD 0 = x := ⟨_, rfl⟩
      rw [ex] at hc hb
      have hbt : Hid ((x != u && x != v) = false) := by
        unfold Hid
        rcases hb with h | h <;> simp [h]
      clear ex hb
      go_wp2_with fail
      refine (leadOther_calls bu bv u v x _ HU.out HV.out).mono ?_
      rw [hbt.out]
      rintro e w' ⟨rfl, rfl⟩
      go_wp2
      go_round
      case rel => exact ⟨j + 1, by omega, by go_num⟩
      case measure => simp [intOf]; omega
    · obtain rfl : j = p := by omega
      obtain ⟨x, ex⟩ : ∃ x, L[j]?.getD 0 = x := ⟨_, rfl⟩
      have hbt : Hid ((x != u && x != v) = true) := by
        unfold Hid
        have h1 := HPU.out
        have h2 := HPV.out
        rw [ex] at h1 h2
        simp [h1, h2]
      rw [ex] at hc
      clear ex
      go_wp2_with fail
      refine (leadOther_calls bu bv u v x _ HU.out HV.out).mono ?_
      rw [hbt.out]
      rintro e w' ⟨rfl, rfl⟩
      go_wp2
      go_ret
      exact ⟨rfl, rfl⟩

theorem Kp.drew {X : Nat → Prop} {w w' : World} (h : Kp X w w') : Kp X w w'.drew := ⟨h.os, h.tape, h.output, h.size, h.block⟩
theorem kp_setCells {X : Nat → Prop} {w : World} {g : Nat} (hX : X g) : ∀ (vs : List Value) (o : Nat) (W : World), Kp X w W → Kp X w (W.setCells g o vs)
  | [], _, _, h => h
  | v :: r, o, W, h => kp_setCells hX r (o + 1) _ (h.set (a := ⟨g, o, none⟩) hX v)

set_option maxHeartbeats 1000000 in
theorem delete_calls (g n c p : Nat) (L : List Int) (f : Nat → Value) (w : World) (hrow : w.rowIs g 2 c f) (hf : ∀ j, j < n → f j = .int .i64 (L[j]?.getD 0)) (hL : L.length = n) (hp : p < n) (hn : n ≤ 5) (hnc : n ≤ c) :
    Calls Try.prog 32 #[.slice (some ⟨g, 0, none⟩) n c, .int .i64 p, .int .i64 ((p : Int) + 1)] w fun e w' => e = .returned (.slice (some ⟨g, 0, none⟩) (n - 1) c) ∧ Ints w' (some ⟨g, 0, none⟩) (L.take p ++ L.drop (p + 1)) ∧ Kp (fun k => k = g) w w' := by
  obtain ⟨i0, hi, hz0, hz1, hz2⟩ := info_parts Try.infoI
  have HR := Lib.hid hrow
  have HF := Lib.hid hf
  have HL := Lib.hid hL
  have s1 : Hid (((L.drop (p + 1)).map (Value.int .i64)).length = (n - (p + 1)) * 1) := by unfold Hid; simp [HL.out]
  have s2 : Hid (∀ u ∈ (L.drop (p + 1)).map (Value.int .i64), u.oneCell' = true) := by
    intro u hu
    obtain ⟨x, _, rfl⟩ := List.mem_map.1 hu
    rfl
  clear hrow hf hL
  by_cases hcp : c = p + 1
  · have HCP := Lib.hid hcp
    have hif : (if c = p + 1 then some (⟨g, 0, none⟩ : Addr) else some ⟨g, p + 1, none⟩) = some ⟨g, 0, none⟩ := if_pos hcp
    have hsrc : Hid (∀ t u, ((L.drop (p + 1)).map (Value.int .i64))[t]? = some u → w.drew.cell? ((⟨g, 0, none⟩ : Addr).add t) = some u) := by
      intro t u hu
      have ht := (List.getElem?_eq_some_iff.1 hu).1
      rw [List.length_map, List.length_drop, HL.out] at ht
      omega
    clear hcp
    have s3 : Hid (∀ t, t < ((L.drop (p + 1)).map (Value.int .i64)).length → (w.drew.cell? ⟨g, 0 + p * 1 + t, none⟩).isSome = true ∧ w.drew.frozen? ⟨g, 0 + p * 1 + t, none⟩ = false) := by
      intro t ht
      rw [List.length_map, List.length_drop, HL.out] at ht
      rw [show 0 + p * 1 + t = p + t by omega]
      exact ⟨by show (w.cell? _).isSome = true; rw [HR.out.cell (by omega)]; rfl, HR.out.frozen _⟩
    obtain ⟨W1, hW1⟩ : ∃ W1, W1 = w.drew.setCells g (0 + p * 1) ((L.drop (p + 1)).map (Value.int .i64)) := ⟨_, rfl⟩
    have hrow1 : W1.rowIs g 2 c (fun j => if 0 + p * 1 ≤ j ∧ j < 0 + p * 1 + ((L.drop (p + 1)).map (Value.int .i64)).length then ((L.drop (p + 1)).map (Value.int .i64))[j - (0 + p * 1)]?.getD default else f j) := by
      rw [hW1]; exact rowIs_setCells _ _ _ _ HR.out.drew
    have HR1 := Lib.hid hrow1
    have KP1 : Hid (Kp (fun k => k = g) w W1) := by rw [hW1]; exact kp_setCells (X := fun k => k = g) (w := w) rfl _ _ w.drew (Kp.refl _ _).drew
    have HW := Lib.hid hW1
    have hcl : ∀ ty, (Builtin.clear_ #[31] ty #[.slice (some ⟨g, n - 1, none⟩) 1 (c - (n - 1))]).run Try.prog W1 = .ok (.tuple #[]) (W1.setCells g (n - 1) (List.replicate 1 (.int .i64 0))) := fun ty =>
      Lib.run_clear_slice W1 31 2 ty (.int .i64 0) Try.underlying31 (fun _ => rfl) rfl rfl g (n - 1) 1 _ (by omega) (fun t ht => by rw [HR1.out.cell (i := n - 1 + t) (by omega)]; rfl) (fun t ht => HR1.out.frozen _)
    have hpc : p ≤ c := by omega
    have hp1c : p + 1 ≤ c := by omega
    have hp1n : p + 1 ≤ n := by omega
    have hz01 : (0 : Int) ≤ (p : Int) + 1 := by omega
    have hpi : (p : Int) + 1 ≤ (n : Int) := by omega
    have hpi2 : (p : Int) + 1 ≤ (c : Int) := by omega
    clear hW1 hrow1
    go_enter Try.func32, Try.ntmps32
    go_wp2_with fail
    go_region_law (refine step_append_room rfl (.tmp 22) (.tmp 25) 31 rfl 2 i0 1 Try.underlying31 hi hz1 g 0 p c (by simp [Act.eval, Act.put]) ⟨g, 0, none⟩ (n - (p + 1)) (c - (p + 1)) ((L.drop (p + 1)).map (Value.int .i64)) (by simp [Act.eval, Act.put]) s1.out hsrc.out s2.out (by omega) s3.out ?_; rw [← HW.out])
    have he1 : p + (n - (p + 1)) = n - 1 := by omega
    rw [he1]
    have hn1n : ((n - 1 : Nat) : Int) ≤ (n : Int) := by omega
    have hn1c : n - 1 ≤ c := by omega
    have hnc2 : ¬ c = n - 1 := by omega
    have hnn : n - (n - 1) = 1 := by omega
    clear HW
    go_wp2
    go_ret
    refine ⟨rfl, ?_, KP1.out.set (a := ⟨g, n - 1, none⟩) rfl _⟩
    have h2 := HR1.out.set (n - 1) (.int .i64 0)
    intro j hj
    rw [List.length_append, List.length_take, List.length_drop, HL.out] at hj
    refine ⟨_, rfl, h2.lt, ?_⟩
    rw [Addr.add_lit, Nat.zero_add]
    refine (h2.cell (i := j) (by omega)).trans (congrArg some ?_)
    rw [if_neg (by omega)]
    rw [List.length_map, List.length_drop, HL.out, List.getD_eq_getElem?_getD]
    by_cases hjp : j < p
    · rw [if_neg (by omega), HF.out j (by omega), List.getElem?_append_left (by rw [List.length_take, HL.out]; omega), List.getElem?_take_of_lt hjp]
    · rw [if_pos (by omega), List.getElem?_map, List.getElem?_append_right (by rw [List.length_take, HL.out]; omega), List.length_take, HL.out, List.getElem?_drop, List.getElem?_drop, show p + 1 + (j - (0 + p * 1)) = p + 1 + (j - min p n) by omega, List.getElem?_eq_getElem (by rw [HL.out]; omega)]
      rfl
  · have hsrc : Hid (∀ t u, ((L.drop (p + 1)).map (Value.int .i64))[t]? = some u → w.drew.cell? ((⟨g, p + 1, none⟩ : Addr).add t) = some u) := by
      intro t u hu
      have ht := (List.getElem?_eq_some_iff.1 hu).1
      rw [List.length_map, List.length_drop, HL.out] at ht
      rw [List.getElem?_map, List.getElem?_drop, List.getElem?_eq_getElem (by rw [HL.out]; omega)] at hu
      rw [Addr.add_lit]
      show w.cell? ⟨g, p + 1 + t, none⟩ = _
      rw [HR.out.cell (by omega), HF.out _ (by omega), List.getElem?_eq_getElem (by rw [HL.out]; omega)]
      exact hu
    have s3 : Hid (∀ t, t < ((L.drop (p + 1)).map (Value.int .i64)).length → (w.drew.cell? ⟨g, 0 + p * 1 + t, none⟩).isSome = true ∧ w.drew.frozen? ⟨g, 0 + p * 1 + t, none⟩ = false) := by
      intro t ht
      rw [List.length_map, List.length_drop, HL.out] at ht
      rw [show 0 + p * 1 + t = p + t by omega]
      exact ⟨by show (w.cell? _).isSome = true; rw [HR.out.cell (by omega)]; rfl, HR.out.frozen _⟩
    obtain ⟨W1, hW1⟩ : ∃ W1, W1 = w.drew.setCells g (0 + p * 1) ((L.drop (p + 1)).map (Value.int .i64)) := ⟨_, rfl⟩
    have hrow1 : W1.rowIs g 2 c (fun j => if 0 + p * 1 ≤ j ∧ j < 0 + p * 1 + ((L.drop (p + 1)).map (Value.int .i64)).length then ((L.drop (p + 1)).map (Value.int .i64))[j - (0 + p * 1)]?.getD default else f j) := by
      rw [hW1]; exact rowIs_setCells _ _ _ _ HR.out.drew
    have HR1 := Lib.hid hrow1
    have KP1 : Hid (Kp (fun k => k = g) w W1) := by rw [hW1]; exact kp_setCells (X := fun k => k = g) (w := w) rfl _ _ w.drew (Kp.refl _ _).drew
    have HW := Lib.hid hW1
    have hcl : ∀ ty, (Builtin.clear_ #[31] ty #[.slice (some ⟨g, n - 1, none⟩) 1 (c - (n - 1))]).run Try.prog W1 = .ok (.tuple #[]) (W1.setCells g (n - 1) (List.replicate 1 (.int .i64 0))) := fun ty =>
      Lib.run_clear_slice W1 31 2 ty (.int .i64 0) Try.underlying31 (fun _ => rfl) rfl rfl g (n - 1) 1 _ (by omega) (fun t ht => by rw [HR1.out.cell (i := n - 1 + t) (by omega)]; rfl) (fun t ht => HR1.out.frozen _)
    have hpc : p ≤ c := by omega
    have hp1c : p + 1 ≤ c := by omega
    have hp1n : p + 1 ≤ n := by omega
    have hz01 : (0 : Int) ≤ (p : Int) + 1 := by omega
    have hpi : (p : Int) + 1 ≤ (n : Int) := by omega
    have hpi2 : (p : Int) + 1 ≤ (c : Int) := by omega
    clear hW1 hrow1
    go_enter Try.func32, Try.ntmps32
    go_wp2_with fail
    go_region_law (refine step_append_room rfl (.tmp 22) (.tmp 25) 31 rfl 2 i0 1 Try.underlying31 hi hz1 g 0 p c (by simp [Act.eval, Act.put]) ⟨g, p + 1, none⟩ (n - (p + 1)) (c - (p + 1)) ((L.drop (p + 1)).map (Value.int .i64)) (by simp [Act.eval, Act.put]) s1.out hsrc.out s2.out (by omega) s3.out ?_; rw [← HW.out])
    have he1 : p + (n - (p + 1)) = n - 1 := by omega
    rw [he1]
    have hn1n : ((n - 1 : Nat) : Int) ≤ (n : Int) := by omega
    have hn1c : n - 1 ≤ c := by omega
    have hnc2 : ¬ c = n - 1 := by omega
    have hnn : n - (n - 1) = 1 := by omega
    clear HW
    go_wp2
    go_ret
    refine ⟨rfl, ?_, KP1.out.set (a := ⟨g, n - 1, none⟩) rfl _⟩
    have h2 := HR1.out.set (n - 1) (.int .i64 0)
    intro j hj
    rw [List.length_append, List.length_take, List.length_drop, HL.out] at hj
    refine ⟨_, rfl, h2.lt, ?_⟩
    rw [Addr.add_lit, Nat.zero_add]
    refine (h2.cell (i := j) (by omega)).trans (congrArg some ?_)
    rw [if_neg (by omega)]
    rw [List.length_map, List.length_drop, HL.out, List.getD_eq_getElem?_getD]
    by_cases hjp : j < p
    · rw [if_neg (by omega), HF.out j (by omega), List.getElem?_append_left (by rw [List.length_take, HL.out]; omega), List.getElem?_take_of_lt hjp]
    · rw [if_pos (by omega), List.getElem?_map, List.getElem?_append_right (by rw [List.length_take, HL.out]; omega), List.length_take, HL.out, List.getElem?_drop, List.getElem?_drop, show p + 1 + (j - (0 + p * 1)) = p + 1 + (j - min p n) by omega, List.getElem?_eq_getElem (by rw [HL.out]; omega)]
      rfl

end Go.Proofs.Ytfllbdpdfgkkaaa
