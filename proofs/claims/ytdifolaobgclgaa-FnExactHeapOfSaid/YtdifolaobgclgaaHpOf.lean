/- Contracts: the regular heap of a state. -/
import Derived.Test.YtdifolaobgclgaaStacks
import Derived.Test.YtdifolaobgclgaaCode
import Derived.Test.YtdifolaobgclgaaHpW
import Derived.Deep.RegionLaw
import Derived.Deep.RegionHeld3
namespace Go.Proofs.Ytdifolaobgclgaa
open Go.RowKit
set_option linter.unusedVariables false

theorem OwnG.drewH {e size B n c : Nat} {w : World} {A : Option Addr} {xs : List Value} (h : OwnG e size B w A n c xs) : OwnG e size B w.drew A n c xs := h
theorem grown_undrewH {w w' : World} {r : Option Nat} (h : w.drew.grownBy w' r) : w.grownBy w' r := ⟨h.os, h.tape, h.output, h.size, h.block⟩
/-- A heap and a code are the answer. -/
def RetHeap (w : World) (LL : List (List Int)) (E : Int) (e : Ending) (w' : World) : Prop :=
  ∃ A n c rs, e = .returned (.tuple #[.agg #[.slice A n c], .int .i64 E]) ∧ OwnSS w.heap.size w' A n c rs ∧ LLof rs = LL ∧ Below w.heap.size w w'
theorem retHeap_zero {w w' : World} {e : Ending} {E : Int} (he : e = .returned (.tuple #[.agg #[.slice none 0 0], .int .i64 E])) (hb : Below w.heap.size w w') : RetHeap w [] E e w' :=
  ⟨none, 0, 0, [], he, OwnSS.nilS _ _, rfl, hb⟩
/-- Three lists in three boxes of no cells, and the list of them. -/
theorem ownSS_three {B : Nat} {w : World} {a b c g : Nat} (ha : Box w a 2 #[]) (hb : Box w b 2 #[]) (hc : Box w c 2 #[]) (hg : Box w g 22 #[.slice (some ⟨a, 0, none⟩) 0 0, .slice (some ⟨b, 0, none⟩) 0 0, .slice (some ⟨c, 0, none⟩) 0 0])
    (hBa : B ≤ a) (hab : a < b) (hbc : b < c) (hBg : B ≤ g) : OwnSS B w (some ⟨g, 0, none⟩) 3 3 [⟨some ⟨a, 0, none⟩, 0, 0, 0, []⟩, ⟨some ⟨b, 0, none⟩, 0, 0, 0, []⟩, ⟨some ⟨c, 0, none⟩, 0, 0, 0, []⟩] := by
  refine ⟨⟨rfl, .inr ⟨g, 3, _, rfl, hBg, hg, Nat.le_refl _, by unfold maxLen; omega, rfl, rfl⟩⟩, ?_, ?_⟩
  · intro r hr
    simp only [List.mem_cons, List.not_mem_nil, or_false] at hr
    rcases hr with rfl | rfl | rfl
    · exact OwnG.emptyAt ha hBa
    · exact OwnG.emptyAt hb (by omega)
    · exact OwnG.emptyAt hc (by omega)
  · unfold Distinct
    rw [List.pairwise_cons, List.pairwise_cons]
    refine ⟨?_, ?_, List.pairwise_singleton _ _⟩
    · intro s hs g hA hB
      injection hA with hA
      injection hA with hA
      simp only [List.mem_cons, List.not_mem_nil, or_false] at hs
      rcases hs with rfl | rfl
      · injection hB with hB
        injection hB with hB
        omega
      · injection hB with hB
        injection hB with hB
        omega
    · intro s hs g hA hB
      injection hA with hA
      injection hA with hA
      rw [List.mem_singleton] at hs
      subst hs
      injection hB with hB
      injection hB with hB
      omega
theorem ops_get {α : Type} (l : List α) (i : Nat) (o : α) (h : l[i]? = some o) : l.toArray[i]? = some o := by rw [List.getElem?_toArray]; exact h
theorem stk_zero3 (L : List Int) : stacksL 3 L 0 = [[], [], []] := rfl

/-- A block that is laid at a known number, and those laid ahead of it. -/
theorem Box.newAt {w : World} {g t : Nat} {cs : Array Value} (hg : w.heap.size = g) : Box (w.alloc (.cells cs t)) g t cs := by subst hg; exact Box.new w t cs
theorem ofStart (w : World) : OwnSS (w.heap.size + 1) ((((((w.alloc (.cells #[.slice none 0 0] 28)).alloc (.cells #[] 2)).alloc (.cells #[] 2)).alloc (.cells #[] 2)).alloc (.cells #[.slice (some ⟨w.heap.size + 1, 0, none⟩) 0 0, .slice (some ⟨w.heap.size + 1 + 1, 0, none⟩) 0 0, .slice (some ⟨w.heap.size + 1 + 1 + 1, 0, none⟩) 0 0] 22)).alloc (.cells #[.slice (some ⟨w.heap.size + 1 + 1 + 1 + 1, 0, none⟩) 3 3] 28)) (some ⟨w.heap.size + 1 + 1 + 1 + 1, 0, none⟩) 3 3 [⟨some ⟨w.heap.size + 1, 0, none⟩, 0, 0, 0, []⟩, ⟨some ⟨w.heap.size + 1 + 1, 0, none⟩, 0, 0, 0, []⟩, ⟨some ⟨w.heap.size + 1 + 1 + 1, 0, none⟩, 0, 0, 0, []⟩]
    ∧ Box ((((((w.alloc (.cells #[.slice none 0 0] 28)).alloc (.cells #[] 2)).alloc (.cells #[] 2)).alloc (.cells #[] 2)).alloc (.cells #[.slice (some ⟨w.heap.size + 1, 0, none⟩) 0 0, .slice (some ⟨w.heap.size + 1 + 1, 0, none⟩) 0 0, .slice (some ⟨w.heap.size + 1 + 1 + 1, 0, none⟩) 0 0] 22)).alloc (.cells #[.slice (some ⟨w.heap.size + 1 + 1 + 1 + 1, 0, none⟩) 3 3] 28)) w.heap.size 28 #[.slice none 0 0] ∧ Box ((((((w.alloc (.cells #[.slice none 0 0] 28)).alloc (.cells #[] 2)).alloc (.cells #[] 2)).alloc (.cells #[] 2)).alloc (.cells #[.slice (some ⟨w.heap.size + 1, 0, none⟩) 0 0, .slice (some ⟨w.heap.size + 1 + 1, 0, none⟩) 0 0, .slice (some ⟨w.heap.size + 1 + 1 + 1, 0, none⟩) 0 0] 22)).alloc (.cells #[.slice (some ⟨w.heap.size + 1 + 1 + 1 + 1, 0, none⟩) 3 3] 28)) (w.heap.size + 1 + 1 + 1 + 1 + 1) 28 #[.slice (some ⟨w.heap.size + 1 + 1 + 1 + 1, 0, none⟩) 3 3] ∧ Below w.heap.size w ((((((w.alloc (.cells #[.slice none 0 0] 28)).alloc (.cells #[] 2)).alloc (.cells #[] 2)).alloc (.cells #[] 2)).alloc (.cells #[.slice (some ⟨w.heap.size + 1, 0, none⟩) 0 0, .slice (some ⟨w.heap.size + 1 + 1, 0, none⟩) 0 0, .slice (some ⟨w.heap.size + 1 + 1 + 1, 0, none⟩) 0 0] 22)).alloc (.cells #[.slice (some ⟨w.heap.size + 1 + 1 + 1 + 1, 0, none⟩) 3 3] 28)) := by
  refine ⟨ownSS_three ?_ ?_ ?_ ?_ (by omega) (by omega) (by omega) (by omega), ?_, ?_, ?_⟩
  · exact ((((Box.newAt (by simp)).alloc _).alloc _).alloc _).alloc _
  · exact (((Box.newAt (by simp)).alloc _).alloc _).alloc _
  · exact ((Box.newAt (by simp)).alloc _).alloc _
  · exact (Box.newAt (by simp)).alloc _
  · exact (((((Box.newAt rfl).alloc _).alloc _).alloc _).alloc _).alloc _
  · exact Box.newAt (by simp)
  · exact ((((((Below.refl _ _).alloc (Nat.le_refl _) _).alloc (by simp) _).alloc (by simp; omega) _).alloc (by simp; omega) _).alloc (by simp; omega) _).alloc (by simp; omega) _

set_option maxRecDepth 100000 in
set_option maxHeartbeats 8000000 in
theorem l06Of_calls (A : Option Addr) (n c : Nat) (L : List Int) (w : World) (hL : L.length = n) (hn : n ≤ 4) (hI : Ints w A L) (hst : ∀ j, j < L.length → 0 ≤ L[j]?.getD 0 ∧ L[j]?.getD 0 < 3) :
    Calls Try.prog 18 #[.slice A n c] w fun e w' => ∃ A' c' rs, e = .returned (.agg #[.slice A' 3 c']) ∧ OwnSS w.heap.size w' A' 3 c' rs ∧ LLof rs = stacksL 3 L n ∧ Below w.heap.size w w' := by
  obtain ⟨i0, hi, hz0, hz1, hz2⟩ := info_parts Try.infoI
  have HL := Lib.hid hL
  have HI := Lib.hid hI
  have hsa := Lib.hid hst
  clear hL hI hst
  go_enter Try.func18, Try.ntmps18
  have hstart := ofStart w
  have HSS0 := Lib.hid hstart.1
  have R0 := Lib.hid hstart.2.1
  have X0 := Lib.hid hstart.2.2.1
  have HB0 := Lib.hid hstart.2.2.2
  clear hstart
  go_wp2
  obtain ⟨W, hW⟩ : ∃ W, W = ((((((w.alloc (.cells #[.slice none 0 0] 28)).alloc (.cells #[] 2)).alloc (.cells #[] 2)).alloc (.cells #[] 2)).alloc (.cells #[.slice (some ⟨w.heap.size + 1, 0, none⟩) 0 0, .slice (some ⟨w.heap.size + 1 + 1, 0, none⟩) 0 0, .slice (some ⟨w.heap.size + 1 + 1 + 1, 0, none⟩) 0 0] 22)).alloc (.cells #[.slice (some ⟨w.heap.size + 1 + 1 + 1 + 1, 0, none⟩) 3 3] 28)) := ⟨_, rfl⟩
  rw [← hW] at HSS0 R0 X0 HB0
  rw [← hW]
  clear hW
  obtain ⟨gA, hgA⟩ : ∃ gA, gA = w.heap.size + 1 + 1 + 1 + 1 := ⟨_, rfl⟩
  rw [← hgA] at HSS0 X0
  rw [← hgA]
  have HGA := Lib.hid hgA
  clear hgA
  obtain ⟨rs0, hrs0⟩ : ∃ rs0, rs0 = ([⟨some ⟨w.heap.size + 1, 0, none⟩, 0, 0, 0, []⟩, ⟨some ⟨w.heap.size + 1 + 1, 0, none⟩, 0, 0, 0, []⟩, ⟨some ⟨w.heap.size + 1 + 1 + 1, 0, none⟩, 0, 0, 0, []⟩] : List Rw) := ⟨_, rfl⟩
  rw [← hrs0] at HSS0
  have hz0r : Hid (LLof rs0 = stacksL 3 L 0 ∧ ∀ r ∈ rs0, r.d = r.c) := by
    unfold Hid
    rw [hrs0]
    exact ⟨rfl, fun r hr => by simp only [List.mem_cons, List.not_mem_nil, or_false] at hr; rcases hr with rfl | rfl | rfl <;> rfl⟩
  clear hrs0
  go_loopw [4] (fun d wr => ∃ m k : Nat, m + k = n ∧ d = .int .i64 ((m : Int) - 1) ∧ (∃ rs, OwnSS (w.heap.size + 1) wr (some ⟨gA, 0, none⟩) 3 3 rs ∧ LLof rs = stacksL 3 L k ∧ ∀ r ∈ rs, r.d = r.c) ∧ Box wr (gA + 1) 28 #[.slice (some ⟨gA, 0, none⟩) 3 3] ∧ Box wr w.heap.size 28 #[.slice none 0 0] ∧ Below w.heap.size w wr) (fun d _ => (intOf d + 1).toNat)
  case atStart => exact ⟨n, 0, by omega, rfl, ⟨rs0, HSS0.out, hz0r.out.1, hz0r.out.2⟩, X0.out, R0.out, HB0.out⟩
  case round =>
    obtain ⟨m, k, hmk2, rfl, ⟨rs, hSS, hLL, hcd⟩, hX, hR, hbl⟩ := hrel
    have HSS := Lib.hid hSS
    have HLL := Lib.hid hLL
    have HCD := Lib.hid hcd
    have HX := Lib.hid hX
    have HR0 := Lib.hid hR
    have HB := Lib.hid hbl
    have hsz := hbl.size
    have HMK := Lib.hid hmk2
    have hk8 : k ≤ 4 := by omega
    clear hSS hLL hcd hX hbl hR
    obtain ⟨x0, xf⟩ := HX.out.one
    have hzx := HX.out.lt
    have hzg : gA < wr.heap.size := by omega
    by_cases hm : 0 < m
    · obtain ⟨j, rfl⟩ : ∃ j, m = j + 1 := ⟨m - 1, by omega⟩
      have hjn : j < n := by omega
      obtain ⟨ad, hAd, had, hc⟩ := HI.out j (by rw [HL.out]; exact hjn)
      have hxb := hsa.out j (by rw [HL.out]; exact hjn)
      obtain ⟨P, hP⟩ := Int.eq_ofNat_of_zero_le hxb.1
      have hPq : P < 3 := by omega
      obtain ⟨r, hr⟩ : ∃ r, rs[P]? = some r := ⟨_, List.getElem?_eq_getElem (by rw [HSS.out.len]; exact hPq)⟩
      obtain ⟨ad2, hA2, _, hcr, hlr, _⟩ := HSS.out.ints P r hr
      injection hA2 with hA2
      subst hA2
      rw [add_zero_at] at hcr
      have hro := HSS.out.2.1 r (List.mem_of_getElem? hr)
      have hrcd := HCD.out r (List.mem_of_getElem? hr)
      have hrL : Hid (r.L = stkL L P k) := by
        have h1 : (LLof rs)[P]? = some r.L := by unfold LLof; rw [List.getElem?_map, hr]; rfl
        rw [HLL.out] at h1
        unfold stacksL at h1
        rw [List.getElem?_map, List.getElem?_range hPq] at h1
        injection h1 with h1
        exact h1.symm
      have hrn8 : r.n ≤ 8 := by rw [← hlr, hrL.out]; have := stkL_len L P k; omega
      rw [hrcd] at hro
      have HR := Lib.hid hr
      have HRO := Lib.hid hro
      have HRL := Lib.hid hlr
      have HPe := Lib.hid hP
      have HP := Lib.hid hP
      obtain ⟨rA, rn, rc, rd, rL⟩ := r
      change _ = some (Value.slice rA rn rc) at hcr
      change rn ≤ 8 at hrn8
      rw [List.getD_eq_getElem?_getD, hP] at hc
      have HCx : Hid (∀ w4 : World, Below w.heap.size w w4 → w4.cell? (ad.add j) = some (.int .i64 P)) := fun w4 hb4 => (hb4.cell (p := ad.add j) (by rw [add_block]; exact had)).trans hc
      have hc2 := HCx.out _ HB.out
      have hc2a := HCx.out _ (HB.out.alloc hsz (.cells #[.int .i64 j] 2))
      have hc2b := HCx.out _ (HB.out.alloc hsz (.cells #[.int .i64 j] 2)).drew
      have hc2c := HCx.out _ (HB.out.drew.alloc hsz (.cells #[.int .i64 j] 2))
      have hidx : ((j + 1 : Nat) : Int) - 1 = (j : Int) := by omega
      have hj1 : (j : Int) < (n : Int) := by omega
      have hj0 : (0 : Int) ≤ (j : Int) := by omega
      have hP0 : (0 : Int) ≤ (P : Int) := by omega
      have hPq1 : (P : Int) < 3 := by omega
      subst hAd
      rw [hidx]
      clear hidx hmk2 hr hro hlr hrcd hP hxb hc
      go_wp2_with fail
      have hgAB : w.heap.size ≤ gA := by have := HGA.out; omega
      have HS0 : Hid (wr.drew.cell? ⟨gA + 1, 0, none⟩ = some (.slice (some ⟨gA, 0, none⟩) 3 3) ∧ wr.drew.cell? (ad.add j) = some (.int .i64 P)) := ⟨x0, hc2⟩
      have HS1 : Hid (wr.cell? ⟨gA + 1, 0, none⟩ = some (.slice (some ⟨gA, 0, none⟩) 3 3) ∧ wr.cell? (ad.add j) = some (.int .i64 P)) := ⟨x0, hc2⟩
      have hcrd : wr.drew.cell? ⟨gA, P, none⟩ = some (.slice rA rn rc) := hcr
      have hcra : (wr.drew.alloc (.cells #[.int .i64 j] 2)).cell? ⟨gA, P, none⟩ = some (.slice rA rn rc) := (World.cell?_alloc_lt wr.drew _ _ hzg).trans hcr
      have hcrb : (wr.alloc (.cells #[.int .i64 j] 2)).cell? ⟨gA, P, none⟩ = some (.slice rA rn rc) := (World.cell?_alloc_lt wr _ _ hzg).trans hcr
      refine wp_region_noPanic ?_
      refine wp_region_held_drew (S := (fun w' => w'.cell? ⟨gA + 1, 0, none⟩ = some (.slice (some ⟨gA, 0, none⟩) 3 3) ∧ w'.cell? (ad.add j) = some (.int .i64 P))) (by kernel_rfl) HS0.out (fun hHeld => ?_)
      refine wpAnyH_take (i := 0) (v := ?_) (ops_get _ _ _ rfl) (by kernel_rfl) (by kernel_rfl) (by kernel_rfl) (fun _ _ _ h => h) (Or.inl ⟨by rfl, ?_⟩) (by assumption) ?_
      rotate_left
      · intro w5 hSw
        (try dsimp only at hSw)
        go_simp
        all_goals (with_reducible rfl)
      try simp only [Act.put, List.setIfInBounds_toArray, List.set_cons_zero, List.set_cons_succ]
      refine wpAnyH_take (i := 1) (v := ?_) (ops_get _ _ _ rfl) (by kernel_rfl) (by kernel_rfl) (by kernel_rfl) (fun _ _ _ h => h) (Or.inl ⟨by rfl, ?_⟩) (by assumption) ?_
      rotate_left
      · intro w5 hSw
        (try dsimp only at hSw)
        go_simp
        all_goals (with_reducible rfl)
      try simp only [Act.put, List.setIfInBounds_toArray, List.set_cons_zero, List.set_cons_succ]
      refine wpAnyH_take (i := 2) (v := ?_) (ops_get _ _ _ rfl) (by kernel_rfl) (by kernel_rfl) (by kernel_rfl) (fun _ _ _ h => h) (Or.inl ⟨by rfl, ?_⟩) (by assumption) ?_
      rotate_left
      · intro w5 hSw
        (try dsimp only at hSw)
        go_simp
        all_goals (with_reducible rfl)
      try simp only [Act.put, List.setIfInBounds_toArray, List.set_cons_zero, List.set_cons_succ]
      refine wpAnyH_take (i := 3) (v := ?_) (ops_get _ _ _ rfl) (by kernel_rfl) (by kernel_rfl) (by kernel_rfl) (fun _ _ _ h => h) (Or.inl ⟨by rfl, ?_⟩) (by assumption) ?_
      rotate_left
      · intro w5 hSw
        (try dsimp only at hSw)
        go_simp
        all_goals (with_reducible rfl)
      try simp only [Act.put, List.setIfInBounds_toArray, List.set_cons_zero, List.set_cons_succ]
      refine wpAnyH_take (i := 4) (v := ?_) (ops_get _ _ _ rfl) (by kernel_rfl) (by kernel_rfl) (by kernel_rfl) (fun _ _ _ h => h) (Or.inl ⟨by rfl, ?_⟩) (by assumption) ?_
      rotate_left
      · intro w5 hSw
        (try dsimp only at hSw)
        go_simp
        all_goals (with_reducible rfl)
      try simp only [Act.put, List.setIfInBounds_toArray, List.set_cons_zero, List.set_cons_succ]
      refine wpAnyH_take (i := 5) (v := ?_) (ops_get _ _ _ rfl) (by kernel_rfl) (by kernel_rfl) (by kernel_rfl) (fun _ _ _ h => h) (Or.inl ⟨by rfl, ?_⟩) (by assumption) ?_
      rotate_left
      · intro w5 hSw
        (try dsimp only at hSw)
        go_simp
        all_goals (with_reducible rfl)
      try simp only [Act.put, List.setIfInBounds_toArray, List.set_cons_zero, List.set_cons_succ]
      refine wpAnyH_take (i := 6) (v := ?_) (ops_get _ _ _ rfl) (by kernel_rfl) (by kernel_rfl) (by kernel_rfl) (fun _ _ _ h => h) (Or.inl ⟨by rfl, ?_⟩) (by assumption) ?_
      rotate_left
      · intro w5 hSw
        (try dsimp only at hSw)
        go_simp
        all_goals (with_reducible rfl)
      try simp only [Act.put, List.setIfInBounds_toArray, List.set_cons_zero, List.set_cons_succ]
      refine wpAnyH_take (i := 7) (v := ?_) (ops_get _ _ _ rfl) (by kernel_rfl) (by kernel_rfl) (by kernel_rfl) (fun _ _ _ h => h) (Or.inl ⟨by rfl, ?_⟩) (by assumption) ?_
      rotate_left
      · intro w5 hSw
        (try dsimp only at hSw)
        go_simp
        all_goals (with_reducible rfl)
      try simp only [Act.put, List.setIfInBounds_toArray, List.set_cons_zero, List.set_cons_succ]
      refine wpAnyH_take (i := 8) (v := ?_) (ops_get _ _ _ rfl) (by kernel_rfl) (by kernel_rfl) (by kernel_rfl) (fun _ _ _ h => h) (Or.inl ⟨by rfl, ?_⟩) (by assumption) ?_
      rotate_left
      · intro w5 hSw
        (try dsimp only at hSw)
        go_simp
        all_goals (with_reducible rfl)
      try simp only [Act.put, List.setIfInBounds_toArray, List.set_cons_zero, List.set_cons_succ]
      refine wpAnyH_take (i := 9) (v := ?_) (ops_get _ _ _ rfl) (by kernel_rfl) (by kernel_rfl) (by kernel_rfl) (fun _ _ _ h => h) (Or.inl ⟨by rfl, ?_⟩) (by assumption) ?_
      rotate_left
      · intro w5 hSw
        (try dsimp only at hSw)
        go_simp
        all_goals (with_reducible rfl)
      try simp only [Act.put, List.setIfInBounds_toArray, List.set_cons_zero, List.set_cons_succ]
      refine wpAnyH_take (i := 10) (v := ?_) (ops_get _ _ _ rfl) (by kernel_rfl) (by kernel_rfl) (by kernel_rfl) (fun _ _ _ h => h) (Or.inl ⟨by rfl, ?_⟩) (by assumption) ?_
      rotate_left
      · intro w5 hSw
        (try dsimp only at hSw)
        go_simp
        all_goals (with_reducible rfl)
      try simp only [Act.put, List.setIfInBounds_toArray, List.set_cons_zero, List.set_cons_succ]
      refine wpAnyH_take (i := 11) (v := ?_) (ops_get _ _ _ rfl) (by kernel_rfl) (by kernel_rfl) (by kernel_rfl) (fun _ _ _ h => h) (Or.inl ⟨by rfl, ?_⟩) (by assumption) ?_
      rotate_left
      · intro w5 hSw
        (try dsimp only at hSw)
        go_simp
        all_goals (with_reducible rfl)
      try simp only [Act.put, List.setIfInBounds_toArray, List.set_cons_zero, List.set_cons_succ]
      refine wpAnyH_take (i := 12) (v := ?_) (ops_get _ _ _ rfl) (by kernel_rfl) (by kernel_rfl) (by kernel_rfl) (fun _ _ _ h => h) (Or.inl ⟨by rfl, ?_⟩) (by assumption) ?_
      rotate_left
      · intro w5 hSw
        (try dsimp only at hSw)
        go_simp
        all_goals (with_reducible rfl)
      try simp only [Act.put, List.setIfInBounds_toArray, List.set_cons_zero, List.set_cons_succ]
      refine wpAnyH_take (i := 14) (v := ?_) (ops_get _ _ _ rfl) (by kernel_rfl) (by kernel_rfl) (by kernel_rfl) (fun _ _ _ h => h) (Or.inl ⟨by rfl, ?_⟩) (by assumption) ?_
      rotate_left
      · intro w5 hSw
        (try dsimp only at hSw)
        go_simp
        all_goals (with_reducible rfl)
      try simp only [Act.put, List.setIfInBounds_toArray, List.set_cons_zero, List.set_cons_succ]
      refine wpAnyH_ready (rs := [13, 15]) (by kernel_rfl) (by simp) ?_
      refine AllReadyH.cons (ops_get _ _ _ rfl) (fun K hK => ?_) (AllReadyH.cons (ops_get _ _ _ rfl) (fun K hK => ?_) AllReadyH.nil)
      · go_simp
        refine hK.out _ _ ?_ (fun hHeld => ?_)
        · (try dsimp only)
          (first | exact HS0.out | exact HS1.out | exact HS4.out | exact HS5.out | go_keep)
        clear hK K
        refine wpAnyH_ready (rs := [15]) (by kernel_rfl) (by simp) ?_
        refine AllReadyH.cons (ops_get _ _ _ rfl) (fun K hK => ?_) AllReadyH.nil
        go_simp
        refine hK.out _ _ ?_ (fun hHeld => ?_)
        · (try dsimp only)
          (first | exact HS0.out | exact HS1.out | exact HS4.out | exact HS5.out | go_keep)
        clear hK K
        refine wpAnyH_ready (rs := [16]) (by kernel_rfl) (by simp) ?_
        refine AllReadyH.cons (ops_get _ _ _ rfl) (fun K hK => ?_) AllReadyH.nil
        (refine step_append_lies _ (by rfl) _ _ _ (by rfl) (w.heap.size + 1) 2 i0 (.int .i64 0) 1 8 Try.underlying22 hi hz0 hz1 hz2 rfl (by decide) (.slice rA rn rc) rn (rL.map (Value.int .i64)) (by rfl) ((OwnG.alloc HRO.out _).drewH) ⟨wr.heap.size, 0, none⟩ 1 1 [.int .i64 j] (by rfl) (by rfl) (World.news_of_block (cs := #[.int .i64 j]) (t := 2) (fr := (0, 0)) (heap_alloc_new wr _)) (by simp [Value.oneCell']) (by omega) (by unfold maxLen; omega) (by omega) (by simp; omega) (wr.heap.size + 1) (by simp) ?_; intro g cap w4 hown1 hgrow hat hlt; have HO4 := Lib.hid hown1; have HG4 := Lib.hid (grown_undrewH hgrow); have HAT := Lib.hid hat; have HOut := Lib.hid (OwnSS.outer HSS.out HR.out HG4.out); obtain ⟨_, e0, _, _, hcc⟩ := HOut.out.cell P (by omega); have hff := HOut.out.frozen rfl P; injection e0 with e0; injection e0 with e0; subst e0; have hcc4 : ∃ u, w4.cell? ⟨gA, P, none⟩ = some u := ⟨_, hcc.trans (List.getElem?_eq_getElem (by rw [HOut.out.len]; omega))⟩; obtain ⟨u4, hcu⟩ := hcc4; have HX4 := Lib.hid (OwnG.grown_box (show OwnG 2 1 (w.heap.size + 1) wr rA rn rc (rL.map (Value.int .i64)) from HRO.out) HG4.out HX.out (by decide)); obtain ⟨y0, yf⟩ := HX4.out.one; have HB4 := Lib.hid (HB.out.trans (OwnG.grown_below (show OwnG 2 1 (w.heap.size + 1) wr rA rn rc (rL.map (Value.int .i64)) from HRO.out) HG4.out (Nat.le_succ _) hsz)); have hc4 := HCx.out _ HB4.out; have HS4 : Hid (w4.cell? ⟨gA + 1, 0, none⟩ = some (.slice (some ⟨gA, 0, none⟩) 3 3) ∧ w4.cell? (ad.add j) = some (.int .i64 P)) := ⟨y0, hc4⟩; have HB5 := Lib.hid (HB4.out.setCell (p := ⟨gA, P, none⟩) hgAB (.slice (some ⟨g, 0, none⟩) (rn + 1) cap)); have HX5 := Lib.hid (HX4.out.other (a := ⟨gA, P, none⟩) (by show gA + 1 ≠ gA; omega) (.slice (some ⟨g, 0, none⟩) (rn + 1) cap)); have HS5 : Hid ((w4.setCell ⟨gA, P, none⟩ (.slice (some ⟨g, 0, none⟩) (rn + 1) cap)).cell? ⟨gA + 1, 0, none⟩ = some (.slice (some ⟨gA, 0, none⟩) 3 3) ∧ (w4.setCell ⟨gA, P, none⟩ (.slice (some ⟨g, 0, none⟩) (rn + 1) cap)).cell? (ad.add j) = some (.int .i64 P)) := ⟨HX5.out.one.1, HCx.out _ HB5.out⟩; clear hown1 hgrow hat hcc)
        refine hK.out _ _ ?_ (fun hHeld => ?_)
        · (try dsimp only)
          (first | exact HS0.out | exact HS1.out | exact HS4.out | exact HS5.out | go_keep)
        clear hK K
        refine wpAnyH_take (i := 17) (v := ?_) (ops_get _ _ _ rfl) (by kernel_rfl) (by kernel_rfl) (by kernel_rfl) (fun _ _ _ h => h) (Or.inl ⟨by rfl, ?_⟩) (by assumption) ?_
        rotate_left
        · intro w5 hSw
          (try dsimp only at hSw)
          go_simp
          all_goals (with_reducible rfl)
        try simp only [Act.put, List.setIfInBounds_toArray, List.set_cons_zero, List.set_cons_succ]
        refine wpAnyH_ready (rs := [18]) (by kernel_rfl) (by simp) ?_
        refine AllReadyH.cons (ops_get _ _ _ rfl) (fun K hK => ?_) AllReadyH.nil
        go_simp
        refine hK.out _ _ ?_ (fun hHeld => ?_)
        · (try dsimp only)
          (first | exact HS0.out | exact HS1.out | exact HS4.out | exact HS5.out | go_keep)
        clear hK K
        refine wpAnyH_done (by kernel_rfl) ?_ _
        refine NoPanic.normal ?_
        go_wp2
        go_roundw
        case rel =>
          refine ⟨j, k + 1, by have := HMK.out; omega, rfl, ⟨rs.set P ⟨some ⟨g, 0, none⟩, rn + 1, cap, cap, rL ++ [(j : Int)]⟩, ?_, ?_, ?_⟩, ?_, ?_, ?_⟩
          · have hO : Own (w.heap.size + 1) w4 (some ⟨g, 0, none⟩) (rn + 1) cap (rL ++ [(j : Int)]) := by
              have := HO4.out
              unfold Own
              rw [List.map_append]
              exact this
            exact OwnSS.pushed HSS.out HR.out hO HG4.out HAT.out
          · have h1 := stacks_step (q := 3) (k := k) (L := L) HL.out (by have := HMK.out; omega) HPe.out hPq
            have h2 : rL = stkL L P k := hrL.out
            unfold LLof
            rw [List.map_set, ← h1, ← h2]
            exact congrArg (fun t => t.set P (rL ++ [(j : Int)])) HLL.out
          · intro s hs
            rcases List.mem_or_eq_of_mem_set hs with hs | rfl
            · exact HCD.out s hs
            · rfl
          · exact HX4.out.other (by show gA + 1 ≠ gA; omega) _
          · exact (OwnG.grown_box (show OwnG 2 1 (w.heap.size + 1) wr rA rn rc (rL.map (Value.int .i64)) from HRO.out) HG4.out HR0.out (by decide)).other (by show w.heap.size ≠ gA; have := HGA.out; omega) _
          · exact HB.out.trans (OwnSS.pushed_below HSS.out HR.out HG4.out (Nat.le_succ _) hsz)
        case measure => simp [intOf]
      · go_simp
        refine hK.out _ _ ?_ (fun hHeld => ?_)
        · (try dsimp only)
          (first | exact HS0.out | exact HS1.out | exact HS4.out | exact HS5.out | go_keep)
        clear hK K
        refine wpAnyH_ready (rs := [13]) (by kernel_rfl) (by simp) ?_
        refine AllReadyH.cons (ops_get _ _ _ rfl) (fun K hK => ?_) AllReadyH.nil
        go_simp
        refine hK.out _ _ ?_ (fun hHeld => ?_)
        · (try dsimp only)
          (first | exact HS0.out | exact HS1.out | exact HS4.out | exact HS5.out | go_keep)
        clear hK K
        refine wpAnyH_ready (rs := [16]) (by kernel_rfl) (by simp) ?_
        refine AllReadyH.cons (ops_get _ _ _ rfl) (fun K hK => ?_) AllReadyH.nil
        (refine step_append_lies _ (by rfl) _ _ _ (by rfl) (w.heap.size + 1) 2 i0 (.int .i64 0) 1 8 Try.underlying22 hi hz0 hz1 hz2 rfl (by decide) (.slice rA rn rc) rn (rL.map (Value.int .i64)) (by rfl) ((OwnG.alloc HRO.out _).drewH) ⟨wr.heap.size, 0, none⟩ 1 1 [.int .i64 j] (by rfl) (by rfl) (World.news_of_block (cs := #[.int .i64 j]) (t := 2) (fr := (0, 0)) (heap_alloc_new wr _)) (by simp [Value.oneCell']) (by omega) (by unfold maxLen; omega) (by omega) (by simp; omega) (wr.heap.size + 1) (by simp) ?_; intro g cap w4 hown1 hgrow hat hlt; have HO4 := Lib.hid hown1; have HG4 := Lib.hid (grown_undrewH hgrow); have HAT := Lib.hid hat; have HOut := Lib.hid (OwnSS.outer HSS.out HR.out HG4.out); obtain ⟨_, e0, _, _, hcc⟩ := HOut.out.cell P (by omega); have hff := HOut.out.frozen rfl P; injection e0 with e0; injection e0 with e0; subst e0; have hcc4 : ∃ u, w4.cell? ⟨gA, P, none⟩ = some u := ⟨_, hcc.trans (List.getElem?_eq_getElem (by rw [HOut.out.len]; omega))⟩; obtain ⟨u4, hcu⟩ := hcc4; have HX4 := Lib.hid (OwnG.grown_box (show OwnG 2 1 (w.heap.size + 1) wr rA rn rc (rL.map (Value.int .i64)) from HRO.out) HG4.out HX.out (by decide)); obtain ⟨y0, yf⟩ := HX4.out.one; have HB4 := Lib.hid (HB.out.trans (OwnG.grown_below (show OwnG 2 1 (w.heap.size + 1) wr rA rn rc (rL.map (Value.int .i64)) from HRO.out) HG4.out (Nat.le_succ _) hsz)); have hc4 := HCx.out _ HB4.out; have HS4 : Hid (w4.cell? ⟨gA + 1, 0, none⟩ = some (.slice (some ⟨gA, 0, none⟩) 3 3) ∧ w4.cell? (ad.add j) = some (.int .i64 P)) := ⟨y0, hc4⟩; have HB5 := Lib.hid (HB4.out.setCell (p := ⟨gA, P, none⟩) hgAB (.slice (some ⟨g, 0, none⟩) (rn + 1) cap)); have HX5 := Lib.hid (HX4.out.other (a := ⟨gA, P, none⟩) (by show gA + 1 ≠ gA; omega) (.slice (some ⟨g, 0, none⟩) (rn + 1) cap)); have HS5 : Hid ((w4.setCell ⟨gA, P, none⟩ (.slice (some ⟨g, 0, none⟩) (rn + 1) cap)).cell? ⟨gA + 1, 0, none⟩ = some (.slice (some ⟨gA, 0, none⟩) 3 3) ∧ (w4.setCell ⟨gA, P, none⟩ (.slice (some ⟨g, 0, none⟩) (rn + 1) cap)).cell? (ad.add j) = some (.int .i64 P)) := ⟨HX5.out.one.1, HCx.out _ HB5.out⟩; clear hown1 hgrow hat hcc)
        refine hK.out _ _ ?_ (fun hHeld => ?_)
        · (try dsimp only)
          (first | exact HS0.out | exact HS1.out | exact HS4.out | exact HS5.out | go_keep)
        clear hK K
        refine wpAnyH_take (i := 17) (v := ?_) (ops_get _ _ _ rfl) (by kernel_rfl) (by kernel_rfl) (by kernel_rfl) (fun _ _ _ h => h) (Or.inl ⟨by rfl, ?_⟩) (by assumption) ?_
        rotate_left
        · intro w5 hSw
          (try dsimp only at hSw)
          go_simp
          all_goals (with_reducible rfl)
        try simp only [Act.put, List.setIfInBounds_toArray, List.set_cons_zero, List.set_cons_succ]
        refine wpAnyH_ready (rs := [18]) (by kernel_rfl) (by simp) ?_
        refine AllReadyH.cons (ops_get _ _ _ rfl) (fun K hK => ?_) AllReadyH.nil
        go_simp
        refine hK.out _ _ ?_ (fun hHeld => ?_)
        · (try dsimp only)
          (first | exact HS0.out | exact HS1.out | exact HS4.out | exact HS5.out | go_keep)
        clear hK K
        refine wpAnyH_done (by kernel_rfl) ?_ _
        refine NoPanic.normal ?_
        go_wp2
        go_roundw
        case rel =>
          refine ⟨j, k + 1, by have := HMK.out; omega, rfl, ⟨rs.set P ⟨some ⟨g, 0, none⟩, rn + 1, cap, cap, rL ++ [(j : Int)]⟩, ?_, ?_, ?_⟩, ?_, ?_, ?_⟩
          · have hO : Own (w.heap.size + 1) w4 (some ⟨g, 0, none⟩) (rn + 1) cap (rL ++ [(j : Int)]) := by
              have := HO4.out
              unfold Own
              rw [List.map_append]
              exact this
            exact OwnSS.pushed HSS.out HR.out hO HG4.out HAT.out
          · have h1 := stacks_step (q := 3) (k := k) (L := L) HL.out (by have := HMK.out; omega) HPe.out hPq
            have h2 : rL = stkL L P k := hrL.out
            unfold LLof
            rw [List.map_set, ← h1, ← h2]
            exact congrArg (fun t => t.set P (rL ++ [(j : Int)])) HLL.out
          · intro s hs
            rcases List.mem_or_eq_of_mem_set hs with hs | rfl
            · exact HCD.out s hs
            · rfl
          · exact HX4.out.other (by show gA + 1 ≠ gA; omega) _
          · exact (OwnG.grown_box (show OwnG 2 1 (w.heap.size + 1) wr rA rn rc (rL.map (Value.int .i64)) from HRO.out) HG4.out HR0.out (by decide)).other (by show w.heap.size ≠ gA; have := HGA.out; omega) _
          · exact HB.out.trans (OwnSS.pushed_below HSS.out HR.out HG4.out (Nat.le_succ _) hsz)
        case measure => simp [intOf]
    · obtain rfl : m = 0 := by omega
      obtain rfl : k = n := by omega
      obtain ⟨r0, rf⟩ := HR0.out.one
      go_wp2
      have R1 : Box _ w.heap.size 28 #[.slice (some ⟨gA, 0, none⟩) 3 3] := HR0.out.set 0 (.slice (some ⟨gA, 0, none⟩) 3 3)
      obtain ⟨z0, _⟩ := R1.one
      refine bodyPost_ret (v := .agg #[.slice (some ⟨gA, 0, none⟩) 3 3]) (by simp [results, Try.results18, go_sem, z0]) rfl ⟨_, 3, rs, rfl, ?_, HLL.out, HB.out.setCell (Nat.le_refl _) _⟩
      exact (HSS.out.setOld (a := ⟨w.heap.size, 0, none⟩) (Nat.lt_succ_self _) _).mono (Nat.le_succ _)

end Go.Proofs.Ytdifolaobgclgaa
