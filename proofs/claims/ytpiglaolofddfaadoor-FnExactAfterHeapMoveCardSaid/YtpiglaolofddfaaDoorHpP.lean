/- Contracts: the heap of piles. -/
import Derived.Test.YtpiglaolofddfaaDoorRev
import Derived.Test.YtpiglaolofddfaaDoorHpI
import Derived.Test.YtpiglaolofddfaaDoorHpC
import Derived.Test.YtpiglaolofddfaaDoorHpReg
import Derived.Test.YtpiglaolofddfaaDoorDone
namespace Go.Proofs.YtpiglaolofddfaaDoor
open Go.RowKit
set_option linter.unusedVariables false

/-- The discs of the first k places of pile a, from the top on. -/
def pkL (Z : Nat → Int) (a k : Nat) : List Int := ((List.range k).map (fun i => Z (a * 4 + i))).filter (fun x => x != 4)
def pstL (Z : Nat → Int) (a : Nat) : List Int := (pkL Z a 4).reverse
def hpL (Z : Nat → Int) (a : Nat) : List (List Int) := (List.range a).map (pstL Z)
theorem pkL_len (Z : Nat → Int) (a k : Nat) : (pkL Z a k).length ≤ k := by
  have := List.length_filter_le (fun x : Int => x != 4) ((List.range k).map (fun i => Z (a * 4 + i)))
  simpa [pkL] using this
theorem pkL_yes {Z : Nat → Int} {a k : Nat} (h : Z (a * 4 + k) ≠ 4) : pkL Z a (k + 1) = pkL Z a k ++ [Z (a * 4 + k)] := by
  unfold pkL
  rw [List.range_succ, List.map_append, List.filter_append]
  simp [h]
theorem pkL_no {Z : Nat → Int} {a k : Nat} (h : Z (a * 4 + k) = 4) : pkL Z a (k + 1) = pkL Z a k := by
  unfold pkL
  rw [List.range_succ, List.map_append, List.filter_append]
  simp [h]
theorem hpL_succ (Z : Nat → Int) (a : Nat) : hpL Z (a + 1) = hpL Z a ++ [pstL Z a] := by unfold hpL; rw [List.range_succ, List.map_append]; rfl
theorem hpL_len (Z : Nat → Int) (a : Nat) : (hpL Z a).length = a := by simp [hpL]

set_option maxRecDepth 100000 in
set_option maxHeartbeats 8000000 in
theorem heapOfPiles_calls (Z : Nat → Int) (w : World) :
    Calls Tryd.prog 29 #[.agg (zA Z)] w fun e w' => ∃ g rs, e = .returned (.agg #[.slice (some ⟨g, 0, none⟩) 3 3]) ∧ w.heap.size ≤ g ∧ OwnSS w.heap.size w' (some ⟨g, 0, none⟩) 3 3 rs ∧ LLof rs = hpL Z 3 ∧ Below w.heap.size w w' := by
  obtain ⟨i0, hi, hz0, hz1, hz2⟩ := info_parts Tryd.infoI
  have hmk := run_make_row' (P := Tryd.prog) 22 61 (.slice none 0 0) 24 Tryd.underlying22 Tryd.infoSS rfl .i64 .i64 3 (by omega) (by omega)
  rw [show ((3 : Nat) : Int) = 3 from rfl] at hmk
  have HIX : Hid (∀ a : Nat, a < 3 → ∀ w, (Instr.index 50 (.agg (zA Z)) (.int .i64 (a : Int))).run Tryd.prog w = .ok (.agg #[.int .i64 (Z (a * 4)), .int .i64 (Z (a * 4 + 1)), .int .i64 (Z (a * 4 + 2)), .int .i64 (Z (a * 4 + 3))]) w) := fun a ha w => ix_piles Z a ha w
  have HIP : Hid (∀ a j : Nat, j < 4 → ∀ w, (Instr.index 48 (.agg #[.int .i64 (Z (a * 4)), .int .i64 (Z (a * 4 + 1)), .int .i64 (Z (a * 4 + 2)), .int .i64 (Z (a * 4 + 3))]) (.int .i64 (j : Int))).run Tryd.prog w = .ok (.int .i64 (Z (a * 4 + j))) w) := fun a j hj w => by
    have h := ix_pile (Z (a * 4)) (Z (a * 4 + 1)) (Z (a * 4 + 2)) (Z (a * 4 + 3)) j hj w
    match j, hj with
    | 0, _ => exact h
    | 1, _ => exact h
    | 2, _ => exact h
    | 3, _ => exact h
  simp only [zA] at HIX
  unfold zA
  go_enter Tryd.func29, Tryd.ntmps29
  go_wp2
  go_loopw [4, 5, 6, 8, 12] (fun _ _ _ _ i wr => ∃ a : Nat, a ≤ 3 ∧ i = .int .i64 a ∧ (∃ rk, OwnSS (w.heap.size + 1 + 1) wr (some ⟨w.heap.size + 1 + 1, 0, none⟩) 3 3 (rk ++ List.replicate (3 - a) nilRw) ∧ LLof rk = hpL Z a) ∧ (Box wr (w.heap.size + 1 + 1 + 1) 29 #[.slice (some ⟨w.heap.size + 1 + 1, 0, none⟩) 3 3] ∧ Box wr (w.heap.size + 1) 29 #[.slice none 0 0]) ∧ Below w.heap.size w wr) (fun _ _ _ _ i _ => 3 - (intOf i).toNat)
  case atStart =>
    have hb := madeRows_box ((w.alloc (.cells #[.int .i64 (Z 0), .int .i64 (Z 1), .int .i64 (Z 2), .int .i64 (Z 3), .int .i64 (Z 4), .int .i64 (Z 5), .int .i64 (Z 6), .int .i64 (Z 7), .int .i64 (Z 8), .int .i64 (Z 9), .int .i64 (Z 10), .int .i64 (Z 11)] 50)).alloc (.cells #[.slice none 0 0] 29)) 3
    have hx := Box.new (((w.alloc (.cells #[.int .i64 (Z 0), .int .i64 (Z 1), .int .i64 (Z 2), .int .i64 (Z 3), .int .i64 (Z 4), .int .i64 (Z 5), .int .i64 (Z 6), .int .i64 (Z 7), .int .i64 (Z 8), .int .i64 (Z 9), .int .i64 (Z 10), .int .i64 (Z 11)] 50)).alloc (.cells #[.slice none 0 0] 29)).alloc (.cells (madeCells #[Value.slice none 0 0] 3) 61)) 29 #[.slice (some ⟨w.heap.size + 1 + 1, 0, none⟩) 3 3]
    have hy := ((Box.new (w.alloc (.cells #[.int .i64 (Z 0), .int .i64 (Z 1), .int .i64 (Z 2), .int .i64 (Z 3), .int .i64 (Z 4), .int .i64 (Z 5), .int .i64 (Z 6), .int .i64 (Z 7), .int .i64 (Z 8), .int .i64 (Z 9), .int .i64 (Z 10), .int .i64 (Z 11)] 50)) 29 #[.slice none 0 0]).alloc (.cells (madeCells #[Value.slice none 0 0] 3) 61)).alloc (.cells #[.slice (some ⟨w.heap.size + 1 + 1, 0, none⟩) 3 3] 29)
    simp only [World.size_alloc] at hb hx hy
    refine ⟨0, by omega, rfl, ⟨[], ?_, rfl⟩, ⟨hx, hy⟩, ((((Below.refl _ _).alloc (Nat.le_refl _) _).alloc (by simp) _).alloc (by simp; omega) _).alloc (by simp; omega) _⟩
    rw [List.nil_append]
    exact ownSS_madeN (hb.alloc _) (Nat.le_refl _) (by omega)
  case round =>
    obtain ⟨a, ha, rfl, ⟨rk, hO, hLL⟩, ⟨hbx, hb1⟩, hbl⟩ := hrel
    have HO := Lib.hid hO
    have HLL := Lib.hid hLL
    have HBl := Lib.hid hbl
    have HX := Lib.hid hbx
    have HX1 := Lib.hid hb1
    have hsz := hbl.size
    have hzx := hbx.lt
    have hrk : rk.length = a := by have := congrArg List.length hLL; rw [LL_len, hpL_len] at this; exact this
    have HRK := Lib.hid hrk
    clear hO hLL hbl hrk hbx hb1
    by_cases hlt : a < 3
    · have hlt2 : (a : Int) < 3 := by omega
      have hix := HIX.out a hlt
      have hal : Below wr.heap.size wr (wr.alloc (.cells #[.int .i64 (Z (a * 4)), .int .i64 (Z (a * 4 + 1)), .int .i64 (Z (a * 4 + 2)), .int .i64 (Z (a * 4 + 3))] 48)) := (Below.refl _ _).alloc (Nat.le_refl _) _
      obtain ⟨wo, hwo⟩ : ∃ wo, wo = wr.alloc (.cells #[.int .i64 (Z (a * 4)), .int .i64 (Z (a * 4 + 1)), .int .i64 (Z (a * 4 + 2)), .int .i64 (Z (a * 4 + 3))] 48) := ⟨_, rfl⟩
      rw [← hwo] at hal
      have HWO := Lib.hid hwo
      have HO1 := Lib.hid (HO.out.below hal)
      have HX2 := Lib.hid (HX.out.below hal HX.out.lt)
      have HX3 := Lib.hid (HX1.out.below hal HX1.out.lt)
      have HB1 := Lib.hid (HBl.out.trans (hal.mono hsz))
      have hso := HB1.out.size
      have hzo := HX2.out.lt
      have hrs := hal.size
      have hip := HIP.out a
      clear hal hwo HO HX HX1 HBl
      go_wp2
      rw [← HWO.out]
      go_loopw [6, 8, 17] (fun l _ i wi => ∃ k : Nat, k ≤ 4 ∧ i = .int .i64 k ∧ ∃ A m c, l = .slice A m c ∧ Own wo.heap.size wi A m c (pkL Z a k) ∧ Below wo.heap.size wo wi) (fun _ _ i _ => 4 - (intOf i).toNat)
      case atStart => exact ⟨0, by omega, rfl, none, 0, 0, rfl, Own.nilS _ _, Below.refl _ _⟩
      case round =>
        obtain ⟨k, hk, rfl, A, m, c, rfl, hQ, hBi⟩ := hrel
        have HQ := Lib.hid hQ
        have HBi := Lib.hid hBi
        have hszi := hBi.size
        have hm : m ≤ 4 := by have h1 := Own.len hQ; have h2 := pkL_len Z a k; omega
        clear hQ hBi
        by_cases hk4 : k < 4
        · have hk5 : (k : Int) < 4 := by omega
          have hiz := hip k hk4
          by_cases h : Z (a * 4 + k) = 4
          · have HT := Lib.hid (pkL_no (Z := Z) (a := a) (k := k) h)
            have h4 : (Z (a * 4 + k) != 4) = false := by simpa using h
            clear h
            go_wp2
            go_roundw
            case rel => exact ⟨k + 1, by omega, by go_num, A, m, c, rfl, by rw [HT.out]; exact HQ.out, HBi.out⟩
            case measure => simp [intOf]; omega
          · have HT := Lib.hid (pkL_yes (Z := Z) (a := a) (k := k) h)
            have h4 : (Z (a * 4 + k) != 4) = true := by simpa using h
            clear h
            go_wp2_with (at_builtin; refine wpList_append_own _ rfl _ _ 61 rfl wo.heap.size 2 i0 (.int .i64 0) 1 8 Tryd.underlying61 hi hz0 hz1 hz2 rfl (by decide) _ _ _ rfl (OwnG.alloc (show OwnG 2 1 wo.heap.size wr A m c ((pkL Z a k).map (Value.int .i64)) from HQ.out) _) ⟨wr.heap.size, 0, none⟩ 1 1 [.int .i64 (Z (a * 4 + k))] rfl rfl (cell_one_new _ _ _) (by simp [Value.oneCell']) (by unfold maxLen; omega) (by omega) (by simp; omega) ?_; intro v' w4 hown' hgrow _; obtain ⟨A4, c4, rfl⟩ := ownG_shape hown'; obtain ⟨o4, _, _, b4⟩ := Own.pushed HQ.out hgrow hown'; have HQ4 := Lib.hid o4; have HB4 := Lib.hid (HBi.out.trans (b4 _ (Nat.le_refl _) hszi)); clear hown' hgrow o4 b4)
            go_roundw
            case rel => exact ⟨k + 1, by omega, by go_num, A4, m + 1, c4, rfl, by rw [HT.out]; exact HQ4.out, HB4.out⟩
            case measure => simp [intOf]; omega
        · obtain rfl : k = 4 := by omega
          clear hk4
          go_wp2_with fail
          refine (reverse_calls wo.heap.size A m c (pkL Z a 4) wr (by omega) HQ.out HBi.out.size).mono ?_
          rintro e w5 ⟨rfl, hR, hg5⟩
          have hbelow : Below wo.heap.size wr w5 := own_below HQ.out hg5 (Nat.le_refl _) hszi
          have HB5 := Lib.hid (HBi.out.trans hbelow)
          have HR := Lib.hid (show Own (w.heap.size + 1 + 1) w5 A m c (pstL Z a) from OwnG.mono hR (by omega))
          have hAg : ∀ g, A = some ⟨g, 0, none⟩ → wo.heap.size ≤ g := fun g hg => by
            rcases OwnG.form hR with ⟨h1, _⟩ | ⟨g', h1, h2, _⟩
            · rw [h1] at hg; cases hg
            · rw [h1] at hg; injection hg with hg; injection hg with hg; omega
          have HAG := Lib.hid hAg
          have HO5 := Lib.hid (HO1.out.below HB5.out)
          have HX5 := Lib.hid (HX2.out.below HB5.out HX2.out.lt)
          have HX6 := Lib.hid (HX3.out.below HB5.out HX3.out.lt)
          have HB6 := Lib.hid (HB1.out.trans (HB5.out.mono hso))
          have HOld := Lib.hid HO1.out.old
          have hk2 : a < (rk ++ List.replicate (3 - a) nilRw).length := by rw [List.length_append, HRK.out, List.length_replicate]; omega
          have HP := Lib.hid (OwnSS.placed (r := ⟨A, m, c, c, pstL Z a⟩) HO5.out hk2 HR.out (b := wo.heap.size) HAG.out HOld.out)
          obtain ⟨gx, p1, _, hgx, p4⟩ := HO5.out.1.cell a (by omega)
          have p2 := HO5.out.1.frozen rfl a
          simp only [Option.some.injEq, Addr.mk.injEq, and_true] at p1
          subst p1
          obtain ⟨u4, hcu⟩ : ∃ u, w5.cell? ⟨w.heap.size + 1 + 1, a, none⟩ = some u := ⟨_, p4.trans (List.getElem?_eq_getElem (by rw [HO5.out.1.len]; omega))⟩
          obtain ⟨x0, xf⟩ := HX5.out.one
          clear hR hg5 hbelow hAg p4 hk2 HQ HBi HO1 HX2 HX3 HB1
          go_wp2
          go_roundw
          case rel =>
            refine ⟨a + 1, by omega, by go_num, ⟨rk ++ [⟨A, m, c, c, pstL Z a⟩], ?_, ?_⟩, ⟨HX5.out.other (by simp) _, HX6.out.other (by simp) _⟩, HB6.out.setCell (by simp; omega) _⟩
            · have e : (rk ++ List.replicate (3 - a) nilRw).set a ⟨A, m, c, c, pstL Z a⟩ = rk ++ [⟨A, m, c, c, pstL Z a⟩] ++ List.replicate (3 - (a + 1)) nilRw := by
                rw [List.set_append_right _ _ (by rw [HRK.out]; exact Nat.le_refl _), HRK.out, Nat.sub_self]
                obtain ⟨j, hj⟩ : ∃ j, 3 - a = j + 1 := ⟨3 - a - 1, by omega⟩
                rw [hj, List.replicate_succ, List.set_cons_zero, List.append_assoc]
                congr 2
                rw [show 3 - (a + 1) = j by omega]
                rfl
              rw [← e]
              exact HP.out
            · rw [hpL_succ, ← HLL.out]
              simp [LLof]
          case measure => simp [intOf]; omega
    · obtain rfl : a = 3 := by omega
      have e1 : rk ++ List.replicate (3 - 3) nilRw = rk := by simp
      rw [e1] at HO
      obtain ⟨x0, xf⟩ := HX.out.one
      obtain ⟨y0, yf⟩ := HX1.out.one
      go_wp2
      refine bodyPost_ret (v := .agg #[.slice (some ⟨w.heap.size + 1 + 1, 0, none⟩) 3 3]) (by simp [results, Tryd.results29, go_sem, y0]) rfl ⟨w.heap.size + 1 + 1, rk, rfl, by omega, ?_, HLL.out, HBl.out.setCell (by simp) _⟩
      exact OwnSS.mono (OwnSS.setOld HO.out (by simp) _) (by omega)

end Go.Proofs.YtpiglaolofddfaaDoor
