/- Contracts: the straight number and the detour numbers of two words, as a list. -/
import Derived.Test.YtnfjdggiaodhmaaDetour
import Derived.Test.YtnfjdggiaodhmaaOwnG
import Derived.Deep.RegionHeld3
namespace Go.Proofs.Ytnfjdggiaodhmaa
open Go.RowKit
open Go.RowKit (wrap64)
set_option linter.unusedVariables false

def strN (L M : List Int) (g : Nat) : Int := toE L (M[g]?.getD 0) g + toE M (L[g]?.getD 0) g + 1
def detN (L M : List Int) (g : Nat) (c : Int) : Int := toE L c g + toE M c g + pow2 g + 1
def numL (L M : List Int) (g : Nat) : Nat → List Int
  | 0 => [strN L M g]
  | c + 1 => numL L M g c ++ if (c : Int) = L[g]?.getD 0 ∨ (c : Int) = M[g]?.getD 0 then [] else [detN L M g c]
theorem strN_bd (L M : List Int) {g : Nat} (hg : g < 8) : 1 ≤ strN L M g ∧ strN L M g ≤ 600 := by
  have b1 := toE_bd L (M[g]?.getD 0) g (by omega)
  have b2 := toE_bd M (L[g]?.getD 0) g (by omega)
  have b3 := pow2_bd (k := g) (by omega)
  unfold strN
  omega
theorem detN_bd (L M : List Int) {g : Nat} (c : Int) (hg : g < 8) : 1 ≤ detN L M g c ∧ detN L M g c ≤ 1000 := by
  have b1 := toE_bd L c g (by omega)
  have b2 := toE_bd M c g (by omega)
  have b3 := pow2_bd (k := g) (by omega)
  unfold detN
  omega
theorem numL_len (L M : List Int) (g : Nat) : ∀ c, 1 ≤ (numL L M g c).length ∧ (numL L M g c).length ≤ c + 1
  | 0 => by simp [numL]
  | c + 1 => by
    have ih := numL_len L M g c
    unfold numL
    split <;> simp <;> omega
theorem numL_mem (L M : List Int) {g : Nat} (hg : g < 8) : ∀ c, ∀ x ∈ numL L M g c, 1 ≤ x ∧ x ≤ 1000
  | 0, x, hx => by
    simp [numL] at hx
    have := strN_bd L M hg
    omega
  | c + 1, x, hx => by
    unfold numL at hx
    rw [List.mem_append] at hx
    rcases hx with hx | hx
    · exact numL_mem L M hg c x hx
    · split at hx
      · simp at hx
      · simp at hx
        subst hx
        exact detN_bd L M c hg
theorem numL_skip {L M : List Int} {g c : Nat} (h : (c : Int) = L[g]?.getD 0 ∨ (c : Int) = M[g]?.getD 0) : numL L M g (c + 1) = numL L M g c := by rw [numL, if_pos h, List.append_nil]
theorem numL_more {L M : List Int} {g c : Nat} (h1 : ¬ (c : Int) = L[g]?.getD 0) (h2 : ¬ (c : Int) = M[g]?.getD 0) : numL L M g (c + 1) = numL L M g c ++ [detN L M g c] := by rw [numL, if_neg (by rintro (h | h) <;> contradiction)]
theorem OwnG.oneAt {w : World} {g e B : Nat} {v : Value} (hb : Box w g e #[v]) (hB : B ≤ g) : OwnG e 1 B w (some ⟨g, 0, none⟩) 1 1 [v] :=
  ⟨by simp, .inr ⟨g, 1, #[v], rfl, hB, hb, Nat.le_refl _, by unfold maxLen; omega, by simp, by simp⟩⟩
theorem stillC {P : Program} {f : FuncId} {args : Array Value} {w : World} {v : Value} (h : Calls P f args w fun e w' => e = .returned v ∧ w = w') : Calls P f args w fun e w' => e = .returned v ∧ w' = w := h.mono fun _ _ ⟨he, hm⟩ => ⟨he, hm.symm⟩
theorem Ints.drewS {w : World} {A : Option Addr} {L : List Int} (h : Ints w A L) (n : Nat) : Ints { w with drawn := n } A L := h

theorem OwnG.drewS {e size B : Nat} {w : World} {A : Option Addr} {n c : Nat} {xs : List Value} (h : OwnG e size B w A n c xs) : OwnG e size B w.drew A n c xs := h
theorem OwnG.grown_belowD {e size B : Nat} {w : World} {A : Option Addr} {n c : Nat} {xs : List Value} {w1 : World} {o : Obj} {B0 : Nat} (h : OwnG e size B w A n c xs) (hg : (w.alloc o).drew.grownBy w1 (Value.slice A n c).ownBlock) (h1 : B0 ≤ B) (h2 : B0 ≤ w.heap.size) : Below B0 w w1 :=
  h.grown_below (o := o) ⟨hg.os, hg.tape, hg.output, hg.size, hg.block⟩ h1 h2
theorem shl_u {g : Nat} (hg : g < 9) : IntKind.i64.wrap (2 ^ min (IntKind.u64.wrap (g : Int)).toNat 64) = pow2 g := by
  have : g = 0 ∨ g = 1 ∨ g = 2 ∨ g = 3 ∨ g = 4 ∨ g = 5 ∨ g = 6 ∨ g = 7 ∨ g = 8 := by omega
  rcases this with rfl | rfl | rfl | rfl | rfl | rfl | rfl | rfl | rfl <;> decide
theorem det_wrap {x y : Int} {g : Nat} (hg : g < 8) (hx : 0 ≤ x ∧ x ≤ 1000) (hy : 0 ≤ y ∧ y ≤ 1000) :
    IntKind.i64.wrap (IntKind.i64.wrap (IntKind.i64.wrap (x + y) + IntKind.i64.wrap (2 ^ min (IntKind.u64.wrap (g : Int)).toNat 64)) + 1) = x + y + pow2 g + 1 := by
  have hp := pow2_bd (k := g) (by omega)
  have e1 : IntKind.i64.wrap (x + y) = x + y := IntWalk.i64_in _ (by omega)
  have e2 : IntKind.i64.wrap (x + y + pow2 g) = x + y + pow2 g := IntWalk.i64_in _ (by omega)
  have e3 : IntKind.i64.wrap (x + y + pow2 g + 1) = x + y + pow2 g + 1 := IntWalk.i64_in _ (by omega)
  exact (congrArg (fun t => IntKind.i64.wrap (IntKind.i64.wrap (IntKind.i64.wrap (x + y) + t) + 1)) (shl_u (by omega))).trans ((congrArg (fun t => IntKind.i64.wrap (IntKind.i64.wrap (t + pow2 g) + 1)) e1).trans ((congrArg (fun t => IntKind.i64.wrap (t + 1)) e2).trans e3))

set_option maxHeartbeats 4000000 in
theorem l04Numbers_calls (K : Nat) (ad : Addr) (n c : Nat) (L : List Int) (ad' : Addr) (d : Nat) (M : List Int) (g : Nat) (w : World) (hK : K ≤ 5) (hL : L.length = n) (hM : M.length = n) (hn : n ≤ 8) (hg : grt L M n = g) (hc : n ≤ c) (hd : n ≤ d) (hI : Ints w (some ad) L) (hJ : Ints w (some ad') M) :
    Calls Try.prog 34 #[.int .i64 K, .slice (some ad) n c, .slice (some ad') n d] w fun e w' => ∃ A c', e = .returned (.slice A (numL L M g K).length c') ∧ OwnG 2 1 w.heap.size w' A (numL L M g K).length c' ((numL L M g K).map (Value.int .i64)) ∧ Below w.heap.size w w' := by
  have HL := Lib.hid hL
  have HM := Lib.hid hM
  obtain ⟨hgn, _⟩ := grt_at n hg
  have HI := Lib.hid hI
  have HJ := Lib.hid hJ
  obtain ⟨_, h0, had, hcl⟩ := HI.out g (by rw [HL.out]; omega)
  cases h0
  obtain ⟨_, h0, had', hcm⟩ := HJ.out g (by rw [HM.out]; omega)
  cases h0
  obtain ⟨i0, hi, hz0, hz1, hz2⟩ := info_parts Try.infoI
  have hi0 : (0 : Int) ≤ (g : Int) := by omega
  have hi1 : (g : Int) < (n : Int) := by omega
  have hg1 : (g : Int) ≤ (c : Int) := by omega
  have hg2 : (g : Int) ≤ (d : Int) := by omega
  have hbs := strN_bd L M (g := g) (by omega)
  clear hL hM hI hJ
  go_enter Try.func34, Try.ntmps34
  go_wp2_with fail
  refine (l04Place_calls (some ad) n c L (some ad') d M _ HL.out HM.out (by omega) HI.out HJ.out).mono ?_
  rintro e w1 ⟨rfl, k0, rfl⟩
  rw [hg]
  have HI1 := Lib.hid (HI.out.drawsN k0)
  have HJ1 := Lib.hid (HJ.out.drawsN k0)
  have HB1 := Lib.hid (belowDraws (Below.refl w.heap.size w) k0)
  have c1 : (w.drewN k0).cell? (ad.add g) = some (.int .i64 (L[g]?.getD 0)) := by simpa using hcl
  have c2 : (w.drewN k0).cell? (ad'.add g) = some (.int .i64 (M[g]?.getD 0)) := by simpa using hcm
  have hs1 : w.heap.size ≤ (w.drewN k0).heap.size := Nat.le_refl _
  clear hg
  generalize w.drewN k0 = w1 at *
  go_wp2_with fail
  go_still_tail 18, (by kernel_rfl)
  still_call (stillC (l04To_calls (some ad) g c L (M[g]?.getD 0) _ (by rw [HL.out]; omega) (by omega) (HI1.out.drewS _)))
  repeat still_step
  still_call (stillC (l04To_calls (some ad') g d M (L[g]?.getD 0) _ (by rw [HM.out]; omega) (by omega) (HJ1.out.drewS _)))
  repeat still_step
  refine wpStill_nil ?_
  change wpList _ _ _ _ _ w1.drew
  have HI2 := Lib.hid (HI1.out.drewS (w1.drawn + 1))
  have HJ2 := Lib.hid (HJ1.out.drewS (w1.drawn + 1))
  have HB2 : Hid (Below w.heap.size w w1.drew) := Lib.hid HB1.out.drew
  have d1 : w1.drew.cell? (ad.add g) = some (.int .i64 (L[g]?.getD 0)) := c1
  have d2 : w1.drew.cell? (ad'.add g) = some (.int .i64 (M[g]?.getD 0)) := c2
  have hs2 : w.heap.size ≤ w1.drew.heap.size := hs1
  change Hid (Ints w1.drew _ _) at HI2
  change Hid (Ints w1.drew _ _) at HJ2
  have b1 := toE_bd L (M[g]?.getD 0) g (by omega)
  have b2 := toE_bd M (L[g]?.getD 0) g (by omega)
  have b3 := pow2_bd (k := g) (by omega)
  clear HI1 HJ1 HB1 c1 c2 hs1
  generalize w1.drew = w2 at *
  go_wp2_with fail
  have hst0 : OwnG 2 1 w.heap.size (w2.alloc (.cells #[.int .i64 (strN L M g)] 2)) (some ⟨w2.heap.size, 0, none⟩) 1 1 [.int .i64 (strN L M g)] := OwnG.oneAt (Box.new w2 _ _) hs2
  have hbw0 := Lib.hid (HB2.out.alloc hs2 (.cells #[.int .i64 (strN L M g)] 2))
  have HST0 := Lib.hid hst0
  clear hst0 d1 d2 HI2 HJ2 b1 b2 b3
  go_loopw [8, 9] (fun o i wr => ∃ j : Nat, j ≤ K ∧ i = .int .i64 j ∧ (∃ A c', o = .slice A (numL L M g j).length c' ∧ OwnG 2 1 w.heap.size wr A (numL L M g j).length c' ((numL L M g j).map (Value.int .i64))) ∧ Below w.heap.size w wr) (fun _ i _ => K - (intOf i).toNat)
  case atStart => exact ⟨0, Nat.zero_le _, rfl, ⟨_, _, rfl, HST0.out⟩, hbw0.out⟩
  case round =>
    obtain ⟨j, hj, rfl, ⟨A0, c0, rfl, hO⟩, hb⟩ := hrel
    have HO := Lib.hid hO
    have HB := Lib.hid hb
    have hsz := hb.size
    have hln := numL_len L M g j
    have e1 : wr.cell? (ad.add g) = some (.int .i64 (L[g]?.getD 0)) := by rw [hb.cell (p := ad.add g) (by rw [add_block]; exact had)]; simpa using hcl
    have e2 : wr.cell? (ad'.add g) = some (.int .i64 (M[g]?.getD 0)) := by rw [hb.cell (p := ad'.add g) (by rw [add_block]; exact had')]; simpa using hcm
    have HIr := Lib.hid (HI.out.below hb)
    have HJr := Lib.hid (HJ.out.below hb)
    clear hO hb HST0 hbw0 HB2 hs2
    by_cases hlt : j < K
    · by_cases hx : (j : Int) = L[g]?.getD 0
      · have HS := Lib.hid (numL_skip (M := M) (Or.inl hx))
        have ht : ((j : Int) != L[g]?.getD 0) = false := by simpa using hx
        clear hx
        go_wp2
        go_roundw
        case rel => exact ⟨j + 1, by omega, by go_num, ⟨A0, c0, by rw [HS.out], by rw [HS.out]; exact HO.out⟩, HB.out⟩
        case measure => simp [intOf]; omega
      · by_cases hy : (j : Int) = M[g]?.getD 0
        · have HS := Lib.hid (numL_skip (L := L) (Or.inr hy))
          have ht : ((j : Int) != L[g]?.getD 0) = true := by simpa using hx
          have ht' : ((j : Int) != M[g]?.getD 0) = false := by simpa using hy
          clear hx hy
          go_wp2
          go_roundw
          case rel => exact ⟨j + 1, by omega, by go_num, ⟨A0, c0, by rw [HS.out], by rw [HS.out]; exact HO.out⟩, HB.out⟩
          case measure => simp [intOf]; omega
        · have HS := Lib.hid (numL_more hx hy)
          have ht : ((j : Int) != L[g]?.getD 0) = true := by simpa using hx
          have ht' : ((j : Int) != M[g]?.getD 0) = true := by simpa using hy
          have b1 := toE_bd L j g (by omega)
          have b2 := toE_bd M j g (by omega)
          have b3 := pow2_bd (k := g) (by omega)
          have HX := Lib.hid (det_wrap (g := g) (x := toE L j g) (y := toE M j g) (by omega) (by omega) (by omega))
          have hll : (numL L M g j).length ≤ 10 := by omega
          have hsh := shl_pow4 (k := g) (by omega)
          clear hx hy
          have HOd : Hid (OwnG 2 1 w.heap.size wr.drew A0 (numL L M g j).length c0 ((numL L M g j).map (Value.int .i64))) := HO.out
          have e1d : wr.drew.cell? (ad.add g) = some (.int .i64 (L[g]?.getD 0)) := e1
          go_wp2_with fail
          go_region_held3 (fun w' => w'.cell? (ad.add g) = some (.int .i64 (L[g]?.getD 0)))
            (first | exact e1d | go_keep | (rw [hbx.cell (p := ad.add g) (by rw [add_block]; exact had)]; simpa using hcl))
            (first
            | (go_at_call 30; (with_reducible refine (l04To_calls (some ad) g c L j _ ?_ ?_ ?_).mono ?_); (rw [HL.out]; clear hsh; omega); (clear hsh; omega); (exact HIr.out.drewS _); rintro e w3 ⟨rfl, rfl⟩)
            | (go_at_call 30; (with_reducible refine (l04To_calls (some ad') g d M j _ ?_ ?_ ?_).mono ?_); (rw [HM.out]; clear hsh; omega); (clear hsh; omega); (exact HJr.out.drewS _); rintro e w3 ⟨rfl, rfl⟩)
            | (refine step_append_lies _ (by rfl) _ _ _ (by rfl) w.heap.size 2 i0 (.int .i64 0) 1 8 Try.underlying22 hi hz0 hz1 hz2 rfl (by decide) (.slice A0 (numL L M g j).length c0) (numL L M g j).length _ (by rfl) ((HO.out.alloc _).drewS) ⟨wr.heap.size, 0, none⟩ 1 1 [.int .i64 (IntKind.i64.wrap (IntKind.i64.wrap (IntKind.i64.wrap (toE L j g + toE M j g) + IntKind.i64.wrap (2 ^ min (IntKind.u64.wrap (g : Int)).toNat 64)) + 1))] (by rfl) (by rfl) (World.news_of_block (cs := #[.int .i64 (IntKind.i64.wrap (IntKind.i64.wrap (IntKind.i64.wrap (toE L j g + toE M j g) + IntKind.i64.wrap (2 ^ min (IntKind.u64.wrap (g : Int)).toNat 64)) + 1))]) (t := 2) (fr := (0, 0)) (heap_alloc_new wr _)) (by simp [Value.oneCell']) (by omega) (by unfold maxLen; clear hsh; omega) (by clear hsh; omega) (by simp; clear hsh; omega) (wr.heap.size + 1) (by simp) ?_; intro gg cap w4 hown1 hgrow hat hlt; have hbx := HB.out.trans (HO.out.grown_belowD hgrow (Nat.le_refl _) hsz)))
          have HN : Hid (OwnG 2 1 w.heap.size w4 (some ⟨gg, 0, none⟩) ((numL L M g j).length + 1) cap ((numL L M g j).map (Value.int .i64) ++ [.int .i64 (detN L M g j)])) := by
            have h := hown1
            rw [HX.out] at h
            exact h
          have HB4 := Lib.hid hbx
          clear hown1 hgrow hat hbx HX hsh e1d
          go_wp2
          go_roundw
          case rel =>
            refine ⟨j + 1, by omega, by go_num, ⟨_, cap, by rw [HS.out, List.length_append]; rfl, ?_⟩, HB4.out⟩
            rw [HS.out, List.length_append, List.map_append]
            exact HN.out
          case measure => simp [intOf]; omega
    · obtain rfl : j = K := by omega
      go_wp2
      go_ret
      exact ⟨_, _, rfl, HO.out, HB.out⟩

end Go.Proofs.Ytnfjdggiaodhmaa
