/- Contracts: the rules that a law draws from its code. -/
import Derived.Test.YtfdjlgpdbgmdkacDrawOr
import Derived.Test.YtfdjlgpdbgmdkacRuTurn
import Derived.Test.YtfdjlgpdbgmdkacRuName
import Derived.Deep.Cut
namespace Go.Proofs.Ytfdjlgpdbgmdkac
open Go.RowKit
set_option linter.unusedVariables false

theorem results_row1 {P : Program} {fn : Func} {p : Tmp} {ty : TypeId} (h : fn.results = #[.cell p ty]) (tmps : Array Value) (w : World) (g : Nat) (t : TypeId) (cs : Array Value) (fr : Nat × Nat) (d : TypeDesc)
    (hp : tmps.getD p undef = .pointer (some ⟨g, 0, none⟩)) (hg : w.heap[g]? = some (.cells cs t fr))
    (hu : P.underlying ty = some d) (hd : (match d with | .struct _ | .array _ _ => true | _ => false) = true) (hi : (P.info? ty).map (·.size) = some cs.size) :
    (results fn tmps).run P w = .ok (.agg cs) w := by
  have hp' : tmps[p]?.getD undef = .pointer (some ⟨g, 0, none⟩) := by simpa using hp
  simp [results, h, hp', asAddr, run_loadVar_row w g t ty cs fr d hg hu hd hi]
/-- Rules whose numbers are small. -/
def RB (r : Nat → Int) : Prop := ∀ k, k < 9 → -1 ≤ r k ∧ r k ≤ 2
theorem RB.wf {r : Nat → Int} (h : RB r) : ∀ k, k < 9 → (Lit.int .i64 (r k)).wf = true := by
  intro k hk
  have := h k hk
  have hc : r k = -1 ∨ r k = 0 ∨ r k = 1 ∨ r k = 2 := by omega
  rcases hc with h | h | h | h <;> rw [h] <;> decide
theorem lst_RB (l : List Int) (h : ∀ x ∈ l, -1 ≤ x ∧ x ≤ 2) : RB (fun k => l[k]?.getD 0) := by
  intro k hk
  show -1 ≤ l[k]?.getD 0 ∧ l[k]?.getD 0 ≤ 2
  cases e : l[k]? with
  | none => exact ⟨by decide, by decide⟩
  | some x => exact h x (List.mem_of_getElem? e)
theorem nm_RB (s : ByteArray) : RB (nmR s).1 := by
  unfold nmR
  repeat' split
  all_goals first | exact lst_RB _ (by decide) | (intro k hk; exact (show -1 ≤ (0 : Int) ∧ (0 : Int) ≤ 2 by decide))
theorem tu_RB {r : Nat → Int} (h : RB r) : RB (tuR r) := by
  intro k hk
  unfold tuR
  split
  · exact h _ ((show ∀ k, k < 9 → ([0, 3, 6, 1, 4, 7, 2, 5, 8] : List Nat)[k]?.getD 0 < 9 by decide) k hk)
  · exact (show -1 ≤ (0 : Int) ∧ (0 : Int) ≤ 2 by decide)
theorem set_RB {r : Nat → Int} (h : RB r) (i : Nat) {v : Int} (hv : -1 ≤ v ∧ v ≤ 2) : RB (fun j => if j = i then v else r j) := by
  intro k hk
  show -1 ≤ (if k = i then v else r k) ∧ (if k = i then v else r k) ≤ 2
  split
  · exact hv
  · exact h k hk
theorem src_set9 {w : World} {g n c b : Nat} {A : Option Addr} (h : Src w g A n c) (hb : b ≠ g) (hlt : g < b) (r : Nat → Int) : Src (set9 w b r) g A n c :=
  (((((((((h.setNew hb hlt _).setNew hb hlt _).setNew hb hlt _).setNew hb hlt _).setNew hb hlt _).setNew hb hlt _).setNew hb hlt _).setNew hb hlt _).setNew hb hlt _)
theorem grown_set9 {w w1 : World} {row : Option Nat} {b : Nat} (h : w.grownBy w1 row) (hb : w.heap.size ≤ b) (r : Nat → Int) : w.grownBy (set9 w1 b r) row :=
  grown_setNew (grown_setNew (grown_setNew (grown_setNew (grown_setNew (grown_setNew (grown_setNew (grown_setNew (grown_setNew h hb _) hb _) hb _) hb _) hb _) hb _) hb _) hb _) hb _
theorem box_set9 {w : World} {b t b' : Nat} {cs : Array Value} (h : Box w b t cs) (hb : b ≠ b') (r : Nat → Int) : Box (set9 w b' r) b t cs :=
  ((((((((h.other hb _).other hb _).other hb _).other hb _).other hb _).other hb _).other hb _).other hb _).other hb _
/-- The names of rules, as values. -/
def nmsV : List Value := [.string ⟨#[97, 108, 108]⟩, .string ⟨#[99, 121, 99, 108, 105, 99]⟩, .string ⟨#[108, 105, 110, 101, 97, 114]⟩, .string ⟨#[112, 108, 117, 115]⟩, .string ⟨#[110, 101, 97, 114]⟩]
theorem nms_at {j : Nat} (h : j < 5) : ∃ s, nmsV[j]? = some (.string s) := by
  match j, h with
  | 0, _ => exact ⟨_, rfl⟩
  | 1, _ => exact ⟨_, rfl⟩
  | 2, _ => exact ⟨_, rfl⟩
  | 3, _ => exact ⟨_, rfl⟩
  | 4, _ => exact ⟨_, rfl⟩
theorem l07Names_calls (w : World) :
    Calls Try.prog 40 #[] w fun e w' => ∃ g, e = .returned (.slice (some ⟨g, 0, none⟩) 5 5) ∧ OwnG 9 1 w.heap.size w' (some ⟨g, 0, none⟩) 5 5 nmsV ∧ Below w.heap.size w w' ∧ w.heap.size ≤ g := by
  go_enter Try.func40, Try.ntmps40
  go_wp2
  go_ret
  refine ⟨w.heap.size, rfl, ⟨rfl, .inr ⟨w.heap.size, 5, _, rfl, Nat.le_refl _, Box.new w 9 nmsV.toArray, Nat.le_refl _, by unfold maxLen; omega, rfl, rfl⟩⟩, (Below.refl _ _).alloc (Nat.le_refl _) _, Nat.le_refl _⟩

set_option maxRecDepth 100000 in
set_option maxHeartbeats 1000000 in
theorem l07DrawOf_ret (g : Nat) (A : Option Addr) (n c : Nat) (w : World) (hn : n ≤ 4096) (h : Src w g A n c) :
    Calls Try.prog 46 #[.pointer (some ⟨g, 0, none⟩)] w fun e w' => ∃ r : Nat → Int, e = .returned (.agg (z9 r)) ∧ RB r ∧ Src w' g A n c ∧ w.grownBy w' (some g) := by
  have hgw := h.lt
  have HS0 := Lib.hid (h.alloc (.cells (z9 (fun _ => 0)) 26))
  have X0 := Lib.hid (Box.new w 26 (z9 (fun _ => 0)))
  have HG0 := Lib.hid (grown_alloc (World.grownBy.refl w (some g)) (.cells (z9 (fun _ => 0)) 26))
  have hs0 : (w.alloc (.cells (z9 (fun _ => 0)) 26)).heap.size = w.heap.size + 1 := by simp
  clear h
  go_enter Try.func46, Try.ntmps46
  go_wp2_with fail
  refine (l07Names_calls (w.alloc (.cells (z9 (fun _ => 0)) 26))).mono ?_
  rintro e w1 ⟨gN, rfl, hN, hb, hgN⟩
  rw [hs0] at hgN
  have HN1 := Lib.hid hN
  have X1 := Lib.hid (X0.out.below hb X0.out.lt)
  have HS1 := Lib.hid (HS0.out.below hb)
  have HG1 := Lib.hid (grown_then HG0.out (row2 := none) ⟨hb.os, hb.tape, hb.output, hb.size, fun k hk _ => hb.block k hk⟩ (fun k hk => by cases hk))
  clear hN hb X0 HS0 HG0 hs0
  go_wp2_with fail
  refine (l01Next_calls g A n c 5 _ hn HS1.out).mono ?_
  rintro e w2 ⟨x, rfl, hx, hS, hG⟩
  obtain ⟨j, rfl⟩ := Int.eq_ofNat_of_zero_le hx.1
  have hj : j < 5 := by omega
  have hN2 := HN1.out.kept hG (fun g' e he => by injection he with he; injection e with e; injection e with e; omega)
  obtain ⟨gq, hq1, _, hq3, hcell⟩ := hN2.cell j (by omega)
  obtain ⟨s, hs⟩ := nms_at hj
  rw [hs] at hcell
  obtain rfl : gN = gq := by injection hq1 with hq1; injection hq1
  have X2 := Lib.hid (X1.out.grown hG (by intro e; injection e with e; omega))
  have HS2 := Lib.hid hS
  have HG2 := Lib.hid (HG1.out.trans hG)
  obtain ⟨ad, had⟩ : ∃ ad : Addr, (⟨gN, 0, none⟩ : Addr) = ad := ⟨_, rfl⟩
  have hca : w2.cell? (ad.add j) = some (.string s) := by rw [← had]; unfold Addr.add; split <;> simp_all
  have hi0 : (0 : Int) ≤ (j : Int) := by omega
  have hi1 : (j : Int) < (5 : Int) := by omega
  rw [had]
  clear hx hS hG X1 HS1 HG1 hN2 hcell hs hq1 hq3 had HN1
  go_wp2_with fail
  refine (specNamedRules_calls s _).mono ?_
  rintro e w3 ⟨rfl, hb⟩
  obtain ⟨r, hr⟩ : ∃ r, (nmR s).1 = r := ⟨_, rfl⟩
  rw [hr]
  have RBr : Hid (RB r) := by unfold Hid; rw [← hr]; exact nm_RB s
  have O3 := Lib.hid (Box.new w3 26 (z9 r))
  have X3 := Lib.hid ((X2.out.below hb X2.out.lt).alloc (.cells (z9 r) 26))
  have HS3 := Lib.hid ((HS2.out.below hb).alloc (.cells (z9 r) 26))
  have HG3 := Lib.hid (grown_alloc (grown_then HG2.out (row2 := none) ⟨hb.os, hb.tape, hb.output, hb.size, fun k hk _ => hb.block k hk⟩ (fun k hk => by cases hk)) (.cells (z9 r) 26))
  have hob : w.heap.size < w3.heap.size := Nat.lt_of_lt_of_le X2.out.lt hb.size
  clear hb hr X2 HS2 HG2 hca hi0 hi1
  generalize (nmR s).2 = cc at *
  unfold z9
  go_wp2_with fail
  refine (l01Next_calls g A n c 3 (w3.alloc (.cells (z9 r) 26)) hn HS3.out).mono ?_
  rintro e w4 ⟨y, rfl, hy, hS, hG⟩
  generalize w3.heap.size = ob at *
  have O := Lib.hid (O3.out.grown hG (by intro e; injection e with e; omega))
  have X := Lib.hid (X3.out.grown hG (by intro e; injection e with e; omega))
  have HS := Lib.hid hS
  have HG := Lib.hid (HG3.out.trans hG)
  clear hS hG O3 X3 HS3 HG3
  by_cases hy0 : y = 0
  · subst hy0
    clear hy
    go_wp2
    go_loopw [6] (fun i wr => ∃ a : Nat, a ≤ 3 ∧ i = .int .i64 a ∧ ∃ r : Nat → Int, Box wr ob 26 (z9 r) ∧ RB r ∧ Box wr w.heap.size 26 (z9 (fun _ => 0)) ∧ Src wr g A n c ∧ w.grownBy wr (some g)) (fun i _ => 3 - (intOf i).toNat)
    case atStart => exact ⟨0, by omega, rfl, r, O.out, RBr.out, X.out, HS.out, HG.out⟩
    case round =>
      obtain ⟨a, ha, rfl, hI⟩ := hrel
      clear O RBr X HS HG
      by_cases hlt : a < 3
      · have hda : decide ((a : Int) < 3) = true := by simp; omega
        go_wp2
        try simp only [hda]
        clear hda
        go_loopw [7] (fun i wq => ∃ b : Nat, b ≤ 3 ∧ i = .int .i64 b ∧ ∃ r : Nat → Int, Box wq ob 26 (z9 r) ∧ RB r ∧ Box wq w.heap.size 26 (z9 (fun _ => 0)) ∧ Src wq g A n c ∧ w.grownBy wq (some g)) (fun i _ => 3 - (intOf i).toNat)
        case atStart => exact ⟨0, by omega, rfl, hI⟩
        case round =>
          clear hI
          obtain ⟨b, hb, rfl, hI⟩ := hrel
          by_cases hlb : b < 3
          · by_cases hab : a = b
            · have hab' : ((a : Int) != (b : Int)) = false := by rw [hab]; simp
              go_wp2
              go_roundw
              case rel => exact ⟨b + 1, by omega, by go_num, hI⟩
              case measure => simp [intOf]; omega
            · have hab' : ((a : Int) != (b : Int)) = true := by simp; omega
              obtain ⟨r, hO, hR, hX, hS, hG⟩ := hI
              have O := Lib.hid hO
              have RBr := Lib.hid hR
              have X := Lib.hid hX
              have HS := Lib.hid hS
              have HG := Lib.hid hG
              clear hO hR hX hS hG
              have hot := O.out.lt
              have hxt := X.out.lt
              have hgt := HS.out.lt
              have hk9 : a * 3 + b < 9 := by omega
              have hi0 : (0 : Int) ≤ (a : Int) := by omega
              have hi1 : (a : Int) < (3 : Int) := by omega
              have hj0 : (0 : Int) ≤ (b : Int) := by omega
              have hj1 : (b : Int) < (3 : Int) := by omega
              go_wp2
              go_region_law (go_simp; go_at_call 47; refine (l01Pick_calls g A n c _ 3 _ [0, 1, 1] _ hn (by omega) (by omega) rfl (ints_new _ 2 _) (fun ad e => by injection e with e; subst e; exact Nat.ne_of_gt hgt) ((Src.drews HS.out).alloc _)).mono ?_; rintro e w' ⟨v, rfl, hv, hS, hG⟩; have O2 : Box w' ob 26 (z9 r) := (hG.block ob (by simp; omega) (by intro e; injection e with e; omega)).trans ((Below.heap_alloc _ _ ob (by simp; omega)).trans O.out); have g2 := O2.get9 (k := a * 3 + b) hk9; have g3 := O2.frozen (a * 3 + b); try dsimp only)
              have hv2 : -1 ≤ v ∧ v ≤ 2 := by simp only [List.mem_cons, List.not_mem_nil, or_false] at hv; omega
              have X2 : Box w' w.heap.size 26 (z9 (fun _ => 0)) := (hG.block w.heap.size (by simp; omega) (by intro e; injection e with e; omega)).trans ((Below.heap_alloc _ _ w.heap.size (by simp; omega)).trans X.out)
              have hG2 := Lib.hid (grown_setNew ((grown_alloc (grown_drew HG.out) _).trans hG) (b := ob) (i := a * 3 + b) (by omega) (.int .i64 v))
              have hS2 := Lib.hid (hS.setNew (b := ob) (i := a * 3 + b) (by omega) (by omega) (.int .i64 v))
              have hO3 := Lib.hid (O2.setz hk9 v)
              have hX3 := Lib.hid (X2.other (a := ⟨ob, a * 3 + b, none⟩) (by simp; omega) (.int .i64 v))
              have HR2 := Lib.hid (set_RB RBr.out (a * 3 + b) hv2)
              clear g2 g3 O2 X2 hG hS hv hv2 O X HS HG RBr
              go_wp2
              go_roundw
              case rel => exact ⟨b + 1, by omega, by go_num, _, hO3.out, HR2.out, hX3.out, hS2.out, hG2.out⟩
              case measure => simp [intOf]; omega
          · obtain rfl : b = 3 := by omega
            go_wp2
            go_roundw
            case rel => exact ⟨a + 1, by omega, by go_num, hI⟩
            case measure => simp [intOf]; omega
      · obtain rfl : a = 3 := by omega
        obtain ⟨r, hO, hR, hX, hS, hG⟩ := hI
        have O := Lib.hid hO
        have RBr := Lib.hid hR
        have X := Lib.hid hX
        have HS := Lib.hid hS
        have HG := Lib.hid hG
        clear hO hR hX hS hG
        go_wp2_with fail
        refine (l01Next_calls g A n c 2 _ hn HS.out).mono ?_
        rintro e wt ⟨x, rfl, hx, hS, hG⟩
        have Ot := Lib.hid (O.out.grown hG (by intro e; injection e with e; omega))
        have Xt := Lib.hid (X.out.grown hG (by intro e; injection e with e; omega))
        have HSt := Lib.hid hS
        have HGt := Lib.hid (HG.out.trans hG)
        have hgt := hS.lt
        have hot := Ot.out.lt
        clear hS hG O X HS HG
        by_cases h0 : x = 0
        · subst h0
          clear hx
          obtain ⟨x0, x1, x2, x3, x4, x5, x6, x7, x8⟩ := Ot.out.nine
          go_wp2_with fail
          refine (specTurnRules_calls r wt).mono ?_
          rintro e wu ⟨rfl, hb⟩
          obtain ⟨q, hq⟩ : ∃ q, tuR r = q := ⟨_, rfl⟩
          rw [hq]
          have RBq : Hid (RB q) := by unfold Hid; rw [← hq]; exact tu_RB RBr.out
          have Ou := Lib.hid (Ot.out.below hb Ot.out.lt)
          have Xu := Lib.hid (Xt.out.below hb Xt.out.lt)
          have HSu := Lib.hid (HSt.out.below hb)
          have HGu := Lib.hid (grown_then HGt.out (row2 := none) ⟨hb.os, hb.tape, hb.output, hb.size, fun k hk _ => hb.block k hk⟩ (fun k hk => by cases hk))
          have hou := Ou.out.lt
          clear hb hq x0 x1 x2 x3 x4 x5 x6 x7 x8 Ot Xt HSt HGt
          obtain ⟨y0, y1, y2, y3, y4, y5, y6, y7, y8⟩ := Ou.out.nine
          obtain ⟨f0, f1, f2, f3, f4, f5, f6, f7, f8⟩ := Ou.out.frozen9
          unfold z9
          go_upto_region 14 with (fail)
          have Ov := Lib.hid (Ou.out.set9 q)
          have Xv := Lib.hid (box_set9 Xu.out (b' := ob) (by omega) q)
          have HSv := Lib.hid (src_set9 HSu.out (b := ob) (by omega) (by omega) q)
          have HGv := Lib.hid (grown_set9 HGu.out (b := ob) (by omega) q)
          clear y0 y1 y2 y3 y4 y5 y6 y7 y8 f0 f1 f2 f3 f4 f5 f6 f7 f8 Ou Xu HSu HGu
          change Code.wp _ _ _ _ (set9 _ ob q)
          generalize set9 _ ob q = wv at *
          obtain ⟨x0, x1, x2, x3, x4, x5, x6, x7, x8⟩ := Ov.out.nine
          obtain ⟨y0, y1, y2, y3, y4, y5, y6, y7, y8⟩ := Xv.out.nine
          obtain ⟨f0, f1, f2, f3, f4, f5, f6, f7, f8⟩ := Xv.out.frozen9
          go_wp2
          have hbx := Lib.hid (Xv.out.set9 q)
          have hsx := Lib.hid (src_set9 HSv.out (b := w.heap.size) (by omega) (by omega) q)
          have hgx := Lib.hid (grown_set9 HGv.out (b := w.heap.size) (Nat.le_refl _) q)
          clear x0 x1 x2 x3 x4 x5 x6 x7 x8 y0 y1 y2 y3 y4 y5 y6 y7 y8 f0 f1 f2 f3 f4 f5 f6 f7 f8
          change bodyPost _ _ _ _ _ (set9 _ w.heap.size q)
          generalize set9 _ w.heap.size q = w9 at *
          refine bodyPost_ret (results_row1 rfl _ _ w.heap.size 26 (z9 q) (0, 0) _ rfl hbx.out Try.underlying26 rfl (by kernel_rfl)) rfl ⟨q, rfl, RBq.out, hsx.out, hgx.out⟩
        · have hx0 : (x == 0) = false := by simpa using h0
          obtain ⟨x0, x1, x2, x3, x4, x5, x6, x7, x8⟩ := Ot.out.nine
          obtain ⟨y0, y1, y2, y3, y4, y5, y6, y7, y8⟩ := Xt.out.nine
          obtain ⟨f0, f1, f2, f3, f4, f5, f6, f7, f8⟩ := Xt.out.frozen9
          go_wp2
          have hbx := Lib.hid (Xt.out.set9 r)
          have hsx := Lib.hid (src_set9 HSt.out (b := w.heap.size) (by omega) (by omega) r)
          have hgx := Lib.hid (grown_set9 HGt.out (b := w.heap.size) (Nat.le_refl _) r)
          clear x0 x1 x2 x3 x4 x5 x6 x7 x8 y0 y1 y2 y3 y4 y5 y6 y7 y8 f0 f1 f2 f3 f4 f5 f6 f7 f8
          change bodyPost _ _ _ _ _ (set9 _ w.heap.size r)
          generalize set9 _ w.heap.size r = w9 at *
          refine bodyPost_ret (results_row1 rfl _ _ w.heap.size 26 (z9 r) (0, 0) _ rfl hbx.out Try.underlying26 rfl (by kernel_rfl)) rfl ⟨r, rfl, RBr.out, hsx.out, hgx.out⟩
  · have hyf : (y == 0) = false := by simpa using hy0
    go_wp2_with fail
    refine (l01Next_calls g A n c 2 _ hn HS.out).mono ?_
    rintro e wt ⟨x, rfl, hx, hS, hG⟩
    have Ot := Lib.hid (O.out.grown hG (by intro e; injection e with e; omega))
    have Xt := Lib.hid (X.out.grown hG (by intro e; injection e with e; omega))
    have HSt := Lib.hid hS
    have HGt := Lib.hid (HG.out.trans hG)
    have hgt := hS.lt
    have hot := Ot.out.lt
    clear hS hG O X HS HG
    by_cases h0 : x = 0
    · subst h0
      clear hx
      obtain ⟨x0, x1, x2, x3, x4, x5, x6, x7, x8⟩ := Ot.out.nine
      go_wp2_with fail
      refine (specTurnRules_calls r wt).mono ?_
      rintro e wu ⟨rfl, hb⟩
      obtain ⟨q, hq⟩ : ∃ q, tuR r = q := ⟨_, rfl⟩
      rw [hq]
      have RBq : Hid (RB q) := by unfold Hid; rw [← hq]; exact tu_RB RBr.out
      have Ou := Lib.hid (Ot.out.below hb Ot.out.lt)
      have Xu := Lib.hid (Xt.out.below hb Xt.out.lt)
      have HSu := Lib.hid (HSt.out.below hb)
      have HGu := Lib.hid (grown_then HGt.out (row2 := none) ⟨hb.os, hb.tape, hb.output, hb.size, fun k hk _ => hb.block k hk⟩ (fun k hk => by cases hk))
      have hou := Ou.out.lt
      clear hb hq x0 x1 x2 x3 x4 x5 x6 x7 x8 Ot Xt HSt HGt
      obtain ⟨y0, y1, y2, y3, y4, y5, y6, y7, y8⟩ := Ou.out.nine
      obtain ⟨f0, f1, f2, f3, f4, f5, f6, f7, f8⟩ := Ou.out.frozen9
      unfold z9
      go_upto_region 14 with (fail)
      have Ov := Lib.hid (Ou.out.set9 q)
      have Xv := Lib.hid (box_set9 Xu.out (b' := ob) (by omega) q)
      have HSv := Lib.hid (src_set9 HSu.out (b := ob) (by omega) (by omega) q)
      have HGv := Lib.hid (grown_set9 HGu.out (b := ob) (by omega) q)
      clear y0 y1 y2 y3 y4 y5 y6 y7 y8 f0 f1 f2 f3 f4 f5 f6 f7 f8 Ou Xu HSu HGu
      change Code.wp _ _ _ _ (set9 _ ob q)
      generalize set9 _ ob q = wv at *
      obtain ⟨x0, x1, x2, x3, x4, x5, x6, x7, x8⟩ := Ov.out.nine
      obtain ⟨y0, y1, y2, y3, y4, y5, y6, y7, y8⟩ := Xv.out.nine
      obtain ⟨f0, f1, f2, f3, f4, f5, f6, f7, f8⟩ := Xv.out.frozen9
      go_wp2
      have hbx := Lib.hid (Xv.out.set9 q)
      have hsx := Lib.hid (src_set9 HSv.out (b := w.heap.size) (by omega) (by omega) q)
      have hgx := Lib.hid (grown_set9 HGv.out (b := w.heap.size) (Nat.le_refl _) q)
      clear x0 x1 x2 x3 x4 x5 x6 x7 x8 y0 y1 y2 y3 y4 y5 y6 y7 y8 f0 f1 f2 f3 f4 f5 f6 f7 f8
      change bodyPost _ _ _ _ _ (set9 _ w.heap.size q)
      generalize set9 _ w.heap.size q = w9 at *
      refine bodyPost_ret (results_row1 rfl _ _ w.heap.size 26 (z9 q) (0, 0) _ rfl hbx.out Try.underlying26 rfl (by kernel_rfl)) rfl ⟨q, rfl, RBq.out, hsx.out, hgx.out⟩
    · have hx0 : (x == 0) = false := by simpa using h0
      obtain ⟨x0, x1, x2, x3, x4, x5, x6, x7, x8⟩ := Ot.out.nine
      obtain ⟨y0, y1, y2, y3, y4, y5, y6, y7, y8⟩ := Xt.out.nine
      obtain ⟨f0, f1, f2, f3, f4, f5, f6, f7, f8⟩ := Xt.out.frozen9
      go_wp2
      have hbx := Lib.hid (Xt.out.set9 r)
      have hsx := Lib.hid (src_set9 HSt.out (b := w.heap.size) (by omega) (by omega) r)
      have hgx := Lib.hid (grown_set9 HGt.out (b := w.heap.size) (Nat.le_refl _) r)
      clear x0 x1 x2 x3 x4 x5 x6 x7 x8 y0 y1 y2 y3 y4 y5 y6 y7 y8 f0 f1 f2 f3 f4 f5 f6 f7 f8
      change bodyPost _ _ _ _ _ (set9 _ w.heap.size r)
      generalize set9 _ w.heap.size r = w9 at *
      refine bodyPost_ret (results_row1 rfl _ _ w.heap.size 26 (z9 r) (0, 0) _ rfl hbx.out Try.underlying26 rfl (by kernel_rfl)) rfl ⟨r, rfl, RBr.out, hsx.out, hgx.out⟩

set_option maxRecDepth 100000 in
set_option maxHeartbeats 1000000 in
theorem l07Draw_ret (g : Nat) (A : Option Addr) (n c : Nat) (w : World) (hn : n ≤ 4096) (h : Src w g A n c) :
    Calls Try.prog 27 #[.pointer (some ⟨g, 0, none⟩)] w fun e w' => ∃ r : Nat → Int, e = .returned (.agg (z9 r)) ∧ RB r ∧ Src w' g A n c ∧ w.grownBy w' (some g) := by
  have hgw := h.lt
  have HS0 := Lib.hid (h.alloc (.cells (z9 (fun _ => 0)) 26))
  have X0 := Lib.hid (Box.new w 26 (z9 (fun _ => 0)))
  have HG0 := Lib.hid (grown_alloc (World.grownBy.refl w (some g)) (.cells (z9 (fun _ => 0)) 26))
  clear h
  go_enter Try.func27, Try.ntmps27
  go_wp2_with fail
  refine (l07DrawOf_ret g A n c (w.alloc (.cells (z9 (fun _ => 0)) 26)) hn HS0.out).mono ?_
  rintro e w1 ⟨r, rfl, hR, hS, hG⟩
  have RBr := Lib.hid hR
  have hx1 := hG.size
  rw [World.size_alloc] at hx1
  have O1 := Lib.hid (Box.new w1 26 (z9 r))
  have X1 := Lib.hid ((X0.out.grown hG (by intro e; injection e with e; omega)).alloc (.cells (z9 r) 26))
  have HS1 := Lib.hid (hS.alloc (.cells (z9 r) 26))
  have HG1 := Lib.hid (grown_alloc (HG0.out.trans hG) (.cells (z9 r) 26))
  clear hR hS hG X0 HS0 HG0
  unfold z9
  go_wp2_with fail
  refine (l01Next_calls g A n c 40 (w1.alloc (.cells (z9 r) 26)) hn HS1.out).mono ?_
  rintro e w2 ⟨y, rfl, hy, hS, hG⟩
  have hob : w.heap.size < w1.heap.size := by omega
  generalize w1.heap.size = ob at *
  have O := Lib.hid (O1.out.grown hG (by intro e; injection e with e; omega))
  have X := Lib.hid (X1.out.grown hG (by intro e; injection e with e; omega))
  have HS := Lib.hid hS
  have HG := Lib.hid (HG1.out.trans hG)
  have hot := O.out.lt
  clear hS hG O1 X1 HS1 HG1 hx1
  by_cases h0 : y = 0
  · subst h0
    clear hy
    go_wp2_with fail
    refine wp_region_noPanic ?_
    refine wp_region_held_drew (S := (fun _ => True)) (by kernel_rfl) trivial (fun hHeld => ?_)
    have On := Lib.hid (show Box w2.drew ob 26 (z9 r) from O.out)
    have Xn := Lib.hid (show Box w2.drew w.heap.size 26 (z9 (fun _ => 0)) from X.out)
    have HSn := Lib.hid (Src.drews HS.out)
    have HGn := Lib.hid (grown_drew HG.out)
    clear O X HS HG
    have O := On
    have X := Xn
    have HS := HSn
    have HG := HGn
    clear On Xn HSn HGn
    generalize w2.drew = V0 at *
    refine wpAnyH_take (i := 0) (v := ?_) (ops_getP _ _ _ rfl) (by kernel_rfl) (by kernel_rfl) (by kernel_rfl) (fun _ _ _ h => h) (Or.inl ⟨by rfl, ?_⟩) (by assumption) ?_
    rotate_left
    · intro w5 hSw
      (try dsimp only at hSw)
      go_simp
      all_goals (with_reducible rfl)
    try simp only [Act.put, List.setIfInBounds_toArray, List.set_cons_zero, List.set_cons_succ]
    refine wpAnyH_take (i := 2) (v := ?_) (ops_getP _ _ _ rfl) (by kernel_rfl) (by kernel_rfl) (by kernel_rfl) (fun _ _ _ h => h) (Or.inl ⟨by rfl, ?_⟩) (by assumption) ?_
    rotate_left
    · intro w5 hSw
      (try dsimp only at hSw)
      go_simp
      all_goals (with_reducible rfl)
    try simp only [Act.put, List.setIfInBounds_toArray, List.set_cons_zero, List.set_cons_succ]
    refine wpAnyH_take (i := 4) (v := ?_) (ops_getP _ _ _ rfl) (by kernel_rfl) (by kernel_rfl) (by kernel_rfl) (fun _ _ _ h => h) (Or.inl ⟨by rfl, ?_⟩) (by assumption) ?_
    rotate_left
    · intro w5 hSw
      (try dsimp only at hSw)
      go_simp
      all_goals (with_reducible rfl)
    try simp only [Act.put, List.setIfInBounds_toArray, List.set_cons_zero, List.set_cons_succ]
    refine wpAnyH_ready (rs := [1, 5]) (by kernel_rfl) (by simp) ?_
    refine AllReadyH.cons (ops_getP _ _ _ rfl) (fun K hK => ?_) (AllReadyH.cons (ops_getP _ _ _ rfl) (fun K hK => ?_) AllReadyH.nil)
    · go_simp
      refine (l01Next_calls g A n c 3 _ hn HS.out).mono ?_
      rintro e V1 ⟨x, rfl, hx, hS, hG⟩
      obtain ⟨a, rfl⟩ := Int.eq_ofNat_of_zero_le hx.1
      have hla : a < 3 := by omega
      have hia : (0 : Int) ≤ (a : Int) := by omega
      have hja : (a : Int) < (3 : Int) := by omega
      clear hx
      have On := Lib.hid (O.out.grown hG (by intro e; injection e with e; omega))
      clear O
      have O := On
      clear On
      have Xn := Lib.hid (X.out.grown hG (by intro e; injection e with e; omega))
      clear X
      have X := Xn
      clear Xn
      have HGn := Lib.hid (HG.out.trans hG)
      clear HG
      have HG := HGn
      clear HGn
      clear HS
      have HS := Lib.hid hS
      clear hS hG
      try go_simp
      refine hK.out _ _ ?_ (fun hHeld => ?_)
      · exact trivial
      clear hK K
      refine wpAnyH_take (i := 7) (v := ?_) (ops_getP _ _ _ rfl) (by kernel_rfl) (by kernel_rfl) (by kernel_rfl) (fun _ _ _ h => h) (Or.inl ⟨by rfl, ?_⟩) (by assumption) ?_
      rotate_left
      · intro w5 hSw
        (try dsimp only at hSw)
        go_simp
        all_goals (with_reducible rfl)
      try simp only [Act.put, List.setIfInBounds_toArray, List.set_cons_zero, List.set_cons_succ]
      refine wpAnyH_ready (rs := [3, 5]) (by kernel_rfl) (by simp) ?_
      refine AllReadyH.cons (ops_getP _ _ _ rfl) (fun K hK => ?_) (AllReadyH.cons (ops_getP _ _ _ rfl) (fun K hK => ?_) AllReadyH.nil)
      · go_simp
        refine (l01Next_calls g A n c 3 _ hn HS.out).mono ?_
        rintro e V2 ⟨x, rfl, hx, hS, hG⟩
        obtain ⟨b, rfl⟩ := Int.eq_ofNat_of_zero_le hx.1
        have hlb : b < 3 := by omega
        have hib : (0 : Int) ≤ (b : Int) := by omega
        have hjb : (b : Int) < (3 : Int) := by omega
        clear hx
        have On := Lib.hid (O.out.grown hG (by intro e; injection e with e; omega))
        clear O
        have O := On
        clear On
        have Xn := Lib.hid (X.out.grown hG (by intro e; injection e with e; omega))
        clear X
        have X := Xn
        clear Xn
        have HGn := Lib.hid (HG.out.trans hG)
        clear HG
        have HG := HGn
        clear HGn
        clear HS
        have HS := Lib.hid hS
        clear hS hG
        try go_simp
        refine hK.out _ _ ?_ (fun hHeld => ?_)
        · exact trivial
        clear hK K
        refine wpAnyH_ready (rs := [5]) (by kernel_rfl) (by simp) ?_
        refine AllReadyH.cons (ops_getP _ _ _ rfl) (fun K hK => ?_) AllReadyH.nil
        go_simp
        have hgp : V2.heap.size ≠ g := Nat.ne_of_gt HS.out.lt
        have P : Hid (Ints (V2.alloc (.cells #[.int .i64 2, .int .i64 (-1)] 2)) (some ⟨V2.heap.size, 0, none⟩) [2, -1]) := ints_new V2 2 [2, -1]
        have On := Lib.hid (O.out.alloc (.cells #[.int .i64 2, .int .i64 (-1)] 2))
        clear O
        have O := On
        clear On
        have Xn := Lib.hid (X.out.alloc (.cells #[.int .i64 2, .int .i64 (-1)] 2))
        clear X
        have X := Xn
        clear Xn
        have HSn := Lib.hid (HS.out.alloc (.cells #[.int .i64 2, .int .i64 (-1)] 2))
        clear HS
        have HS := HSn
        clear HSn
        have HGn := Lib.hid (grown_alloc HG.out (.cells #[.int .i64 2, .int .i64 (-1)] 2))
        clear HG
        have HG := HGn
        clear HGn
        generalize V2.alloc (.cells #[.int .i64 2, .int .i64 (-1)] 2) = V3 at *
        generalize V2.heap.size = gp at *
        refine hK.out _ _ ?_ (fun hHeld => ?_)
        · exact trivial
        clear hK K
        refine wpAnyH_ready (rs := [6]) (by kernel_rfl) (by simp) ?_
        refine AllReadyH.cons (ops_getP _ _ _ rfl) (fun K hK => ?_) AllReadyH.nil
        go_simp
        refine (l01Pick_calls g A n c _ 2 _ [2, -1] _ hn (by omega) (by omega) rfl P.out (fun ad e => by injection e with e; subst e; exact hgp) HS.out).mono ?_
        rintro e V4 ⟨v, rfl, hv, hS, hG⟩
        have On := Lib.hid (O.out.grown hG (by intro e; injection e with e; omega))
        clear O
        have O := On
        clear On
        have Xn := Lib.hid (X.out.grown hG (by intro e; injection e with e; omega))
        clear X
        have X := Xn
        clear Xn
        have HGn := Lib.hid (HG.out.trans hG)
        clear HG
        have HG := HGn
        clear HGn
        clear HS
        have HS := Lib.hid hS
        clear hS hG
        try go_simp
        refine hK.out _ _ ?_ (fun hHeld => ?_)
        · exact trivial
        clear hK K
        refine wpAnyH_take (i := 8) (v := ?_) (ops_getP _ _ _ rfl) (by kernel_rfl) (by kernel_rfl) (by kernel_rfl) (fun _ _ _ h => h) (Or.inl ⟨by rfl, ?_⟩) (by assumption) ?_
        rotate_left
        · intro w5 hSw
          (try dsimp only at hSw)
          go_simp
          all_goals (with_reducible rfl)
        try simp only [Act.put, List.setIfInBounds_toArray, List.set_cons_zero, List.set_cons_succ]
        refine wpAnyH_ready (rs := [9]) (by kernel_rfl) (by simp) ?_
        refine AllReadyH.cons (ops_getP _ _ _ rfl) (fun K hK => ?_) AllReadyH.nil
        have hk9 : a * 3 + b < 9 := by omega
        have g2 := O.out.get9 (k := a * 3 + b) hk9
        have g3 := O.out.frozen (a * 3 + b)
        go_simp
        clear g2 g3
        have hv2 : -1 ≤ v ∧ v ≤ 2 := by simp only [List.mem_cons, List.not_mem_nil, or_false] at hv; omega
        have On := Lib.hid (O.out.setz hk9 v)
        have Xn := Lib.hid (X.out.other (a := ⟨ob, a * 3 + b, none⟩) (by simp; omega) (.int .i64 v))
        have HSn := Lib.hid (HS.out.setNew (b := ob) (i := a * 3 + b) (by omega) (by omega) (.int .i64 v))
        have HGn := Lib.hid (grown_setNew HG.out (b := ob) (i := a * 3 + b) (by omega) (.int .i64 v))
        have RBn := Lib.hid (set_RB RBr.out (a * 3 + b) hv2)
        clear O X HS HG hv RBr
        have O := On
        have X := Xn
        have HS := HSn
        have HG := HGn
        have RBr := RBn
        clear On Xn HSn HGn RBn
        obtain ⟨q, hq⟩ : ∃ q, (fun j => if j = a * 3 + b then v else r j) = q := ⟨_, rfl⟩
        rw [hq] at O RBr
        clear hq
        generalize (V4.setCell ⟨ob, a * 3 + b, none⟩ (.int .i64 v)) = V5 at *
        refine hK.out _ _ ?_ (fun hHeld => ?_)
        · exact trivial
        clear hK K
        refine wpAnyH_done (by kernel_rfl) ?_ _
        refine NoPanic.normal ?_
        have hgt := HS.out.lt
        have hot := O.out.lt
        obtain ⟨x0, x1, x2, x3, x4, x5, x6, x7, x8⟩ := O.out.nine
        obtain ⟨y0, y1, y2, y3, y4, y5, y6, y7, y8⟩ := X.out.nine
        obtain ⟨f0, f1, f2, f3, f4, f5, f6, f7, f8⟩ := X.out.frozen9
        go_wp2
        have hbx := Lib.hid (X.out.set9 q)
        have hsx := Lib.hid (src_set9 HS.out (b := w.heap.size) (by omega) (by omega) q)
        have hgx := Lib.hid (grown_set9 HG.out (b := w.heap.size) (Nat.le_refl _) q)
        clear x0 x1 x2 x3 x4 x5 x6 x7 x8 y0 y1 y2 y3 y4 y5 y6 y7 y8 f0 f1 f2 f3 f4 f5 f6 f7 f8
        change bodyPost _ _ _ _ _ (set9 _ w.heap.size q)
        generalize set9 _ w.heap.size q = w9 at *
        refine bodyPost_ret (results_row1 rfl _ _ w.heap.size 26 (z9 q) (0, 0) _ rfl hbx.out Try.underlying26 rfl (by kernel_rfl)) rfl ⟨q, rfl, RBr.out, hsx.out, hgx.out⟩
      · go_simp
        have hgp : V1.heap.size ≠ g := Nat.ne_of_gt HS.out.lt
        have P : Hid (Ints (V1.alloc (.cells #[.int .i64 2, .int .i64 (-1)] 2)) (some ⟨V1.heap.size, 0, none⟩) [2, -1]) := ints_new V1 2 [2, -1]
        have On := Lib.hid (O.out.alloc (.cells #[.int .i64 2, .int .i64 (-1)] 2))
        clear O
        have O := On
        clear On
        have Xn := Lib.hid (X.out.alloc (.cells #[.int .i64 2, .int .i64 (-1)] 2))
        clear X
        have X := Xn
        clear Xn
        have HSn := Lib.hid (HS.out.alloc (.cells #[.int .i64 2, .int .i64 (-1)] 2))
        clear HS
        have HS := HSn
        clear HSn
        have HGn := Lib.hid (grown_alloc HG.out (.cells #[.int .i64 2, .int .i64 (-1)] 2))
        clear HG
        have HG := HGn
        clear HGn
        generalize V1.alloc (.cells #[.int .i64 2, .int .i64 (-1)] 2) = V2 at *
        generalize V1.heap.size = gp at *
        refine hK.out _ _ ?_ (fun hHeld => ?_)
        · exact trivial
        clear hK K
        refine wpAnyH_ready (rs := [3]) (by kernel_rfl) (by simp) ?_
        refine AllReadyH.cons (ops_getP _ _ _ rfl) (fun K hK => ?_) AllReadyH.nil
        go_simp
        refine (l01Next_calls g A n c 3 _ hn HS.out).mono ?_
        rintro e V3 ⟨x, rfl, hx, hS, hG⟩
        obtain ⟨b, rfl⟩ := Int.eq_ofNat_of_zero_le hx.1
        have hlb : b < 3 := by omega
        have hib : (0 : Int) ≤ (b : Int) := by omega
        have hjb : (b : Int) < (3 : Int) := by omega
        clear hx
        have On := Lib.hid (O.out.grown hG (by intro e; injection e with e; omega))
        clear O
        have O := On
        clear On
        have Xn := Lib.hid (X.out.grown hG (by intro e; injection e with e; omega))
        clear X
        have X := Xn
        clear Xn
        have HGn := Lib.hid (HG.out.trans hG)
        clear HG
        have HG := HGn
        clear HGn
        have Pn := Lib.hid (Ints.grown P.out hG (fun ad e => by injection e with e; subst e; exact hgp))
        clear P
        have P := Pn
        clear Pn
        clear HS
        have HS := Lib.hid hS
        clear hS hG
        try go_simp
        refine hK.out _ _ ?_ (fun hHeld => ?_)
        · exact trivial
        clear hK K
        refine wpAnyH_ready (rs := [6]) (by kernel_rfl) (by simp) ?_
        refine AllReadyH.cons (ops_getP _ _ _ rfl) (fun K hK => ?_) AllReadyH.nil
        go_simp
        refine (l01Pick_calls g A n c _ 2 _ [2, -1] _ hn (by omega) (by omega) rfl P.out (fun ad e => by injection e with e; subst e; exact hgp) HS.out).mono ?_
        rintro e V4 ⟨v, rfl, hv, hS, hG⟩
        have On := Lib.hid (O.out.grown hG (by intro e; injection e with e; omega))
        clear O
        have O := On
        clear On
        have Xn := Lib.hid (X.out.grown hG (by intro e; injection e with e; omega))
        clear X
        have X := Xn
        clear Xn
        have HGn := Lib.hid (HG.out.trans hG)
        clear HG
        have HG := HGn
        clear HGn
        clear HS
        have HS := Lib.hid hS
        clear hS hG
        try go_simp
        refine hK.out _ _ ?_ (fun hHeld => ?_)
        · exact trivial
        clear hK K
        refine wpAnyH_take (i := 8) (v := ?_) (ops_getP _ _ _ rfl) (by kernel_rfl) (by kernel_rfl) (by kernel_rfl) (fun _ _ _ h => h) (Or.inl ⟨by rfl, ?_⟩) (by assumption) ?_
        rotate_left
        · intro w5 hSw
          (try dsimp only at hSw)
          go_simp
          all_goals (with_reducible rfl)
        try simp only [Act.put, List.setIfInBounds_toArray, List.set_cons_zero, List.set_cons_succ]
        refine wpAnyH_ready (rs := [9]) (by kernel_rfl) (by simp) ?_
        refine AllReadyH.cons (ops_getP _ _ _ rfl) (fun K hK => ?_) AllReadyH.nil
        have hk9 : a * 3 + b < 9 := by omega
        have g2 := O.out.get9 (k := a * 3 + b) hk9
        have g3 := O.out.frozen (a * 3 + b)
        go_simp
        clear g2 g3
        have hv2 : -1 ≤ v ∧ v ≤ 2 := by simp only [List.mem_cons, List.not_mem_nil, or_false] at hv; omega
        have On := Lib.hid (O.out.setz hk9 v)
        have Xn := Lib.hid (X.out.other (a := ⟨ob, a * 3 + b, none⟩) (by simp; omega) (.int .i64 v))
        have HSn := Lib.hid (HS.out.setNew (b := ob) (i := a * 3 + b) (by omega) (by omega) (.int .i64 v))
        have HGn := Lib.hid (grown_setNew HG.out (b := ob) (i := a * 3 + b) (by omega) (.int .i64 v))
        have RBn := Lib.hid (set_RB RBr.out (a * 3 + b) hv2)
        clear O X HS HG hv RBr
        have O := On
        have X := Xn
        have HS := HSn
        have HG := HGn
        have RBr := RBn
        clear On Xn HSn HGn RBn
        obtain ⟨q, hq⟩ : ∃ q, (fun j => if j = a * 3 + b then v else r j) = q := ⟨_, rfl⟩
        rw [hq] at O RBr
        clear hq
        generalize (V4.setCell ⟨ob, a * 3 + b, none⟩ (.int .i64 v)) = V5 at *
        refine hK.out _ _ ?_ (fun hHeld => ?_)
        · exact trivial
        clear hK K
        refine wpAnyH_done (by kernel_rfl) ?_ _
        refine NoPanic.normal ?_
        have hgt := HS.out.lt
        have hot := O.out.lt
        obtain ⟨x0, x1, x2, x3, x4, x5, x6, x7, x8⟩ := O.out.nine
        obtain ⟨y0, y1, y2, y3, y4, y5, y6, y7, y8⟩ := X.out.nine
        obtain ⟨f0, f1, f2, f3, f4, f5, f6, f7, f8⟩ := X.out.frozen9
        go_wp2
        have hbx := Lib.hid (X.out.set9 q)
        have hsx := Lib.hid (src_set9 HS.out (b := w.heap.size) (by omega) (by omega) q)
        have hgx := Lib.hid (grown_set9 HG.out (b := w.heap.size) (Nat.le_refl _) q)
        clear x0 x1 x2 x3 x4 x5 x6 x7 x8 y0 y1 y2 y3 y4 y5 y6 y7 y8 f0 f1 f2 f3 f4 f5 f6 f7 f8
        change bodyPost _ _ _ _ _ (set9 _ w.heap.size q)
        generalize set9 _ w.heap.size q = w9 at *
        refine bodyPost_ret (results_row1 rfl _ _ w.heap.size 26 (z9 q) (0, 0) _ rfl hbx.out Try.underlying26 rfl (by kernel_rfl)) rfl ⟨q, rfl, RBr.out, hsx.out, hgx.out⟩
    · go_simp
      have hgp : V0.heap.size ≠ g := Nat.ne_of_gt HS.out.lt
      have P : Hid (Ints (V0.alloc (.cells #[.int .i64 2, .int .i64 (-1)] 2)) (some ⟨V0.heap.size, 0, none⟩) [2, -1]) := ints_new V0 2 [2, -1]
      have On := Lib.hid (O.out.alloc (.cells #[.int .i64 2, .int .i64 (-1)] 2))
      clear O
      have O := On
      clear On
      have Xn := Lib.hid (X.out.alloc (.cells #[.int .i64 2, .int .i64 (-1)] 2))
      clear X
      have X := Xn
      clear Xn
      have HSn := Lib.hid (HS.out.alloc (.cells #[.int .i64 2, .int .i64 (-1)] 2))
      clear HS
      have HS := HSn
      clear HSn
      have HGn := Lib.hid (grown_alloc HG.out (.cells #[.int .i64 2, .int .i64 (-1)] 2))
      clear HG
      have HG := HGn
      clear HGn
      generalize V0.alloc (.cells #[.int .i64 2, .int .i64 (-1)] 2) = V1 at *
      generalize V0.heap.size = gp at *
      refine hK.out _ _ ?_ (fun hHeld => ?_)
      · exact trivial
      clear hK K
      refine wpAnyH_ready (rs := [1]) (by kernel_rfl) (by simp) ?_
      refine AllReadyH.cons (ops_getP _ _ _ rfl) (fun K hK => ?_) AllReadyH.nil
      go_simp
      refine (l01Next_calls g A n c 3 _ hn HS.out).mono ?_
      rintro e V2 ⟨x, rfl, hx, hS, hG⟩
      obtain ⟨a, rfl⟩ := Int.eq_ofNat_of_zero_le hx.1
      have hla : a < 3 := by omega
      have hia : (0 : Int) ≤ (a : Int) := by omega
      have hja : (a : Int) < (3 : Int) := by omega
      clear hx
      have On := Lib.hid (O.out.grown hG (by intro e; injection e with e; omega))
      clear O
      have O := On
      clear On
      have Xn := Lib.hid (X.out.grown hG (by intro e; injection e with e; omega))
      clear X
      have X := Xn
      clear Xn
      have HGn := Lib.hid (HG.out.trans hG)
      clear HG
      have HG := HGn
      clear HGn
      have Pn := Lib.hid (Ints.grown P.out hG (fun ad e => by injection e with e; subst e; exact hgp))
      clear P
      have P := Pn
      clear Pn
      clear HS
      have HS := Lib.hid hS
      clear hS hG
      try go_simp
      refine hK.out _ _ ?_ (fun hHeld => ?_)
      · exact trivial
      clear hK K
      refine wpAnyH_take (i := 7) (v := ?_) (ops_getP _ _ _ rfl) (by kernel_rfl) (by kernel_rfl) (by kernel_rfl) (fun _ _ _ h => h) (Or.inl ⟨by rfl, ?_⟩) (by assumption) ?_
      rotate_left
      · intro w5 hSw
        (try dsimp only at hSw)
        go_simp
        all_goals (with_reducible rfl)
      try simp only [Act.put, List.setIfInBounds_toArray, List.set_cons_zero, List.set_cons_succ]
      refine wpAnyH_ready (rs := [3]) (by kernel_rfl) (by simp) ?_
      refine AllReadyH.cons (ops_getP _ _ _ rfl) (fun K hK => ?_) AllReadyH.nil
      go_simp
      refine (l01Next_calls g A n c 3 _ hn HS.out).mono ?_
      rintro e V3 ⟨x, rfl, hx, hS, hG⟩
      obtain ⟨b, rfl⟩ := Int.eq_ofNat_of_zero_le hx.1
      have hlb : b < 3 := by omega
      have hib : (0 : Int) ≤ (b : Int) := by omega
      have hjb : (b : Int) < (3 : Int) := by omega
      clear hx
      have On := Lib.hid (O.out.grown hG (by intro e; injection e with e; omega))
      clear O
      have O := On
      clear On
      have Xn := Lib.hid (X.out.grown hG (by intro e; injection e with e; omega))
      clear X
      have X := Xn
      clear Xn
      have HGn := Lib.hid (HG.out.trans hG)
      clear HG
      have HG := HGn
      clear HGn
      have Pn := Lib.hid (Ints.grown P.out hG (fun ad e => by injection e with e; subst e; exact hgp))
      clear P
      have P := Pn
      clear Pn
      clear HS
      have HS := Lib.hid hS
      clear hS hG
      try go_simp
      refine hK.out _ _ ?_ (fun hHeld => ?_)
      · exact trivial
      clear hK K
      refine wpAnyH_ready (rs := [6]) (by kernel_rfl) (by simp) ?_
      refine AllReadyH.cons (ops_getP _ _ _ rfl) (fun K hK => ?_) AllReadyH.nil
      go_simp
      refine (l01Pick_calls g A n c _ 2 _ [2, -1] _ hn (by omega) (by omega) rfl P.out (fun ad e => by injection e with e; subst e; exact hgp) HS.out).mono ?_
      rintro e V4 ⟨v, rfl, hv, hS, hG⟩
      have On := Lib.hid (O.out.grown hG (by intro e; injection e with e; omega))
      clear O
      have O := On
      clear On
      have Xn := Lib.hid (X.out.grown hG (by intro e; injection e with e; omega))
      clear X
      have X := Xn
      clear Xn
      have HGn := Lib.hid (HG.out.trans hG)
      clear HG
      have HG := HGn
      clear HGn
      clear HS
      have HS := Lib.hid hS
      clear hS hG
      try go_simp
      refine hK.out _ _ ?_ (fun hHeld => ?_)
      · exact trivial
      clear hK K
      refine wpAnyH_take (i := 8) (v := ?_) (ops_getP _ _ _ rfl) (by kernel_rfl) (by kernel_rfl) (by kernel_rfl) (fun _ _ _ h => h) (Or.inl ⟨by rfl, ?_⟩) (by assumption) ?_
      rotate_left
      · intro w5 hSw
        (try dsimp only at hSw)
        go_simp
        all_goals (with_reducible rfl)
      try simp only [Act.put, List.setIfInBounds_toArray, List.set_cons_zero, List.set_cons_succ]
      refine wpAnyH_ready (rs := [9]) (by kernel_rfl) (by simp) ?_
      refine AllReadyH.cons (ops_getP _ _ _ rfl) (fun K hK => ?_) AllReadyH.nil
      have hk9 : a * 3 + b < 9 := by omega
      have g2 := O.out.get9 (k := a * 3 + b) hk9
      have g3 := O.out.frozen (a * 3 + b)
      go_simp
      clear g2 g3
      have hv2 : -1 ≤ v ∧ v ≤ 2 := by simp only [List.mem_cons, List.not_mem_nil, or_false] at hv; omega
      have On := Lib.hid (O.out.setz hk9 v)
      have Xn := Lib.hid (X.out.other (a := ⟨ob, a * 3 + b, none⟩) (by simp; omega) (.int .i64 v))
      have HSn := Lib.hid (HS.out.setNew (b := ob) (i := a * 3 + b) (by omega) (by omega) (.int .i64 v))
      have HGn := Lib.hid (grown_setNew HG.out (b := ob) (i := a * 3 + b) (by omega) (.int .i64 v))
      have RBn := Lib.hid (set_RB RBr.out (a * 3 + b) hv2)
      clear O X HS HG hv RBr
      have O := On
      have X := Xn
      have HS := HSn
      have HG := HGn
      have RBr := RBn
      clear On Xn HSn HGn RBn
      obtain ⟨q, hq⟩ : ∃ q, (fun j => if j = a * 3 + b then v else r j) = q := ⟨_, rfl⟩
      rw [hq] at O RBr
      clear hq
      generalize (V4.setCell ⟨ob, a * 3 + b, none⟩ (.int .i64 v)) = V5 at *
      refine hK.out _ _ ?_ (fun hHeld => ?_)
      · exact trivial
      clear hK K
      refine wpAnyH_done (by kernel_rfl) ?_ _
      refine NoPanic.normal ?_
      have hgt := HS.out.lt
      have hot := O.out.lt
      obtain ⟨x0, x1, x2, x3, x4, x5, x6, x7, x8⟩ := O.out.nine
      obtain ⟨y0, y1, y2, y3, y4, y5, y6, y7, y8⟩ := X.out.nine
      obtain ⟨f0, f1, f2, f3, f4, f5, f6, f7, f8⟩ := X.out.frozen9
      go_wp2
      have hbx := Lib.hid (X.out.set9 q)
      have hsx := Lib.hid (src_set9 HS.out (b := w.heap.size) (by omega) (by omega) q)
      have hgx := Lib.hid (grown_set9 HG.out (b := w.heap.size) (Nat.le_refl _) q)
      clear x0 x1 x2 x3 x4 x5 x6 x7 x8 y0 y1 y2 y3 y4 y5 y6 y7 y8 f0 f1 f2 f3 f4 f5 f6 f7 f8
      change bodyPost _ _ _ _ _ (set9 _ w.heap.size q)
      generalize set9 _ w.heap.size q = w9 at *
      refine bodyPost_ret (results_row1 rfl _ _ w.heap.size 26 (z9 q) (0, 0) _ rfl hbx.out Try.underlying26 rfl (by kernel_rfl)) rfl ⟨q, rfl, RBr.out, hsx.out, hgx.out⟩
  · have hy0 : (y == 0) = false := by simpa using h0
    by_cases h1 : y = 1
    · subst h1
      clear hy h0
      go_wp2_with fail
      refine (l01Next_calls g A n c 3 _ hn HS.out).mono ?_
      rintro e w3 ⟨x, rfl, hx, hS, hG⟩
      obtain ⟨a, rfl⟩ := Int.eq_ofNat_of_zero_le hx.1
      have hk9 : a * 3 + a < 9 := by omega
      have hi0 : (0 : Int) ≤ (a : Int) := by omega
      have hi1 : (a : Int) < (3 : Int) := by omega
      have O3 := Lib.hid (O.out.grown hG (by intro e; injection e with e; omega))
      have X3 := Lib.hid (X.out.grown hG (by intro e; injection e with e; omega))
      have HS3 := Lib.hid hS
      have HG3 := Lib.hid (HG.out.trans hG)
      clear hx hS hG O X HS HG
      have g2 := O3.out.get9 (k := a * 3 + a) hk9
      have g3 := O3.out.frozen (a * 3 + a)
      have hgt := HS3.out.lt
      go_upto_region 8 with (fail)
      have hS2 := Lib.hid (HS3.out.setNew (b := ob) (i := a * 3 + a) (by omega) (by omega) (.int .i64 1))
      have hG2 := Lib.hid (grown_setNew HG3.out (b := ob) (i := a * 3 + a) (by omega) (.int .i64 1))
      have hO3 := Lib.hid (O3.out.setz hk9 1)
      have hX3 := Lib.hid (X3.out.other (a := ⟨ob, a * 3 + a, none⟩) (by simp; omega) (.int .i64 1))
      have HR2 := Lib.hid (set_RB RBr.out (a * 3 + a) (v := 1) (by omega))
      clear g2 g3 O3 X3 HS3 HG3 RBr
      generalize w3.setCell ⟨ob, a * 3 + a, none⟩ (.int .i64 1) = w4 at *
      obtain ⟨q, hq⟩ : ∃ q, (fun j => if j = a * 3 + a then 1 else r j) = q := ⟨_, rfl⟩
      rw [hq] at hO3 HR2
      clear hq
      obtain ⟨x0, x1, x2, x3, x4, x5, x6, x7, x8⟩ := hO3.out.nine
      obtain ⟨y0, y1, y2, y3, y4, y5, y6, y7, y8⟩ := hX3.out.nine
      obtain ⟨f0, f1, f2, f3, f4, f5, f6, f7, f8⟩ := hX3.out.frozen9
      go_wp2
      have hbx := Lib.hid (hX3.out.set9 q)
      have hsx := Lib.hid (src_set9 hS2.out (b := w.heap.size) (by omega) (by omega) q)
      have hgx := Lib.hid (grown_set9 hG2.out (b := w.heap.size) (Nat.le_refl _) q)
      clear x0 x1 x2 x3 x4 x5 x6 x7 x8 y0 y1 y2 y3 y4 y5 y6 y7 y8 f0 f1 f2 f3 f4 f5 f6 f7 f8
      change bodyPost _ _ _ _ _ (set9 _ w.heap.size q)
      generalize set9 _ w.heap.size q = w9 at *
      refine bodyPost_ret (results_row1 rfl _ _ w.heap.size 26 (z9 q) (0, 0) _ rfl hbx.out Try.underlying26 rfl (by kernel_rfl)) rfl ⟨q, rfl, HR2.out, hsx.out, hgx.out⟩
    · have hy1 : (y == 1) = false := by simpa using h1
      obtain ⟨x0, x1, x2, x3, x4, x5, x6, x7, x8⟩ := O.out.nine
      obtain ⟨y0, y1, y2, y3, y4, y5, y6, y7, y8⟩ := X.out.nine
      obtain ⟨f0, f1, f2, f3, f4, f5, f6, f7, f8⟩ := X.out.frozen9
      go_wp2
      have hbx := Lib.hid (X.out.set9 r)
      have hsx := Lib.hid (src_set9 HS.out (b := w.heap.size) (by omega) (by omega) r)
      have hgx := Lib.hid (grown_set9 HG.out (b := w.heap.size) (Nat.le_refl _) r)
      clear x0 x1 x2 x3 x4 x5 x6 x7 x8 y0 y1 y2 y3 y4 y5 y6 y7 y8 f0 f1 f2 f3 f4 f5 f6 f7 f8
      change bodyPost _ _ _ _ _ (set9 _ w.heap.size r)
      generalize set9 _ w.heap.size r = w9 at *
      refine bodyPost_ret (results_row1 rfl _ _ w.heap.size 26 (z9 r) (0, 0) _ rfl hbx.out Try.underlying26 rfl (by kernel_rfl)) rfl ⟨r, rfl, RBr.out, hsx.out, hgx.out⟩

end Go.Proofs.Ytfdjlgpdbgmdkac
