/- Contracts: the table of presumed numbers of the specification. -/
import Derived.Test.YtfllbdpdfgkkaaaPn
import Derived.Test.YtfllbdpdfgkkaaaMark
import Derived.Test.YtfllbdpdfgkkaaaOwnG
namespace Go.Proofs.Ytfllbdpdfgkkaaa
open Go.RowKit
set_option linter.unusedVariables false

/-- The first m of a function. -/
def tabL (f : Nat → Int) (m : Nat) : List Int := (List.range m).map f
theorem tabL_len (f : Nat → Int) (m : Nat) : (tabL f m).length = m := by unfold tabL; simp
theorem tabL_succ (f : Nat → Int) (m : Nat) : tabL f (m + 1) = tabL f m ++ [f m] := by unfold tabL; rw [List.range_succ]; simp
theorem tabL_at (f : Nat → Int) {m i : Nat} (h : i < m) : (tabL f m)[i]? = some (f i) := by unfold tabL; simp [h]
theorem tabL_more {f : Nat → Int} {m : Nat} {x : Int} (h : f m = x) : (tabL f (m + 1)).map (Value.int .i64) = (tabL f m).map (Value.int .i64) ++ [.int .i64 x] := by rw [tabL_succ, List.map_append, h]; rfl
theorem tabL_cell {w : World} {A : Option Addr} {B n c m i : Nat} {f : Nat → Int} (h : OwnG 2 1 B w A n c ((tabL f m).map (Value.int .i64))) (hn : i < n) (hm : i < m) : ∃ g, A = some ⟨g, 0, none⟩ ∧ B ≤ g ∧ g < w.heap.size ∧ w.cell? ⟨g, i, none⟩ = some (.int .i64 (f i)) := by
  obtain ⟨g, h1, h2, h3, h4⟩ := h.cell i (by omega)
  refine ⟨g, h1, h2, h3, h4.trans ?_⟩
  rw [List.getElem?_map, tabL_at f hm]
  rfl
theorem pn_fin {a0 : Int} {r k j : Nat} (ha : ((k : Int) ≤ 1 → a0 = k) ∧ (1 < (k : Int) → a0 = 1)) (h1 : j + 1 ≤ k ∨ j = 0) (h2 : ¬ j + 1 < k) : lstN a0 (sN (pnF (r + 1)) (pnF r) k) j = pnF (r + 1) k := by
  match k with
  | 0 =>
    obtain rfl : j = 0 := by omega
    rw [pnF_zero]
    exact ha.1 (by omega)
  | 1 =>
    obtain rfl : j = 0 := by omega
    rw [pnF_one]
    exact ha.1 (by omega)
  | m + 2 =>
    obtain rfl : j = m + 1 := by omega
    rw [pnF_succ]
    exact lstN_start _ (by omega)

set_option maxRecDepth 100000 in
set_option maxHeartbeats 8000000 in
theorem l08Table_calls (q n : Nat) (w : World) (hq : q < 8) (hn : n ≤ 60) :
    Calls Try.prog 41 #[.int .i64 ((q : Int) + 3), .int .i64 n] w fun e w' => ∃ A c, e = .returned (.slice A (n + 1) c) ∧ OwnG 2 1 w.heap.size w' A (n + 1) c ((tabL (pnF q) (n + 1)).map (Value.int .i64)) ∧ Below w.heap.size w w' := by
  obtain ⟨i0, hi, hz0, hz1, hz2⟩ := info_parts Try.infoI
  go_enter Try.func41, Try.ntmps41
  go_wp2
  go_loopw [5, 6] (fun o i wr => ∃ j : Nat, j ≤ n + 1 ∧ i = .int .i64 j ∧ ∃ A c, o = .slice A j c ∧ OwnG 2 1 w.heap.size wr A j c ((tabL (pnF 0) j).map (Value.int .i64)) ∧ Below w.heap.size w wr) (fun _ i _ => n + 1 - (intOf i).toNat)
  case atStart => exact ⟨0, Nat.zero_le _, rfl, _, _, rfl, OwnG.emptyAt (Box.new w 2 #[]) (Nat.le_refl _), (Below.refl _ _).alloc (Nat.le_refl _) _⟩
  case round =>
    obtain ⟨j, hj, rfl, A0, c0, rfl, hO, hb⟩ := hrel
    have HO := Lib.hid hO
    have HB := Lib.hid hb
    have hsz := hb.size
    clear hO hb
    by_cases hlt : j < n + 1
    · have hsh := shl60 (s := j) (by omega)
      have hx := pn_lim (q := 0) (n := j) (by omega)
      have HX := Lib.hid (show pnF 0 j = (2 : Int) ^ j - 1 by show ((2 ^ j : Nat) : Int) - 1 = _; simp)
      rw [HX.out] at hx
      obtain ⟨X, eX⟩ : ∃ X, (2 : Int) ^ j = X := ⟨_, rfl⟩
      rw [eX] at hx HX
      have hsh' : wrap64 ((2 : Int) ^ j) = X := hsh.trans eX
      clear hsh eX
      go_wp2_with (at_builtin; refine wpList_append_own _ rfl _ _ 31 rfl w.heap.size 2 i0 (.int .i64 0) 1 8 Try.underlying31 hi hz0 hz1 hz2 rfl (by decide) _ _ _ rfl (HO.out.alloc _) ⟨wr.heap.size, 0, none⟩ 1 1 [.int .i64 (X - 1)] rfl rfl (cell_one_new _ _ _) (by simp [Value.oneCell']) (by unfold maxLen; clear hsh'; omega) (by clear hsh'; omega) (by simp; clear hsh'; omega) ?_; intro v' w4 hown' hgrow _; obtain ⟨A4, c4, rfl⟩ := ownG_shape hown'; have HO4 := Lib.hid hown'; have HB4 := Lib.hid (HB.out.trans (HO.out.grown_below hgrow (Nat.le_refl _) hsz)); clear hown' hgrow)
      clear hsh'
      go_roundw
      case rel =>
        exact ⟨j + 1, by omega, by go_num, A4, c4, rfl, by rw [tabL_more HX.out]; exact HO4.out, HB4.out⟩
      case measure => simp [intOf]; omega
    · obtain rfl : j = n + 1 := by omega
      go_wp2
      go_loopw [5, 7] (fun o i wo => ∃ r : Nat, r ≤ q ∧ i = .int .i64 ((r : Int) + 4) ∧ ∃ A c, o = .slice A (n + 1) c ∧ OwnG 2 1 w.heap.size wo A (n + 1) c ((tabL (pnF r) (n + 1)).map (Value.int .i64)) ∧ Below w.heap.size w wo) (fun _ i _ => q + 5 - (intOf i).toNat)
      case atStart => exact ⟨0, Nat.zero_le _, rfl, _, _, rfl, HO.out, HB.out⟩
      case round =>
        obtain ⟨wo, rfl⟩ : ∃ x, x = wr := ⟨wr, rfl⟩
        obtain ⟨r, hr, rfl, A5, c5, rfl, hO, hb⟩ := hrel
        have HO := Lib.hid hO
        have HB := Lib.hid hb
        have hsz := hb.size
        clear hO hb
        by_cases hlt : r < q
        · have hrq : (r : Int) + 4 ≤ (q : Int) + 3 := by omega
          go_wp2
          go_loopw [8, 9] (fun o i wm => ∃ k : Nat, k ≤ n + 1 ∧ i = .int .i64 k ∧ ∃ A c, o = .slice A k c ∧ OwnG 2 1 wo.heap.size wm A k c ((tabL (pnF (r + 1)) k).map (Value.int .i64)) ∧ Below wo.heap.size wo wm) (fun _ i _ => n + 1 - (intOf i).toNat)
          case atStart => exact ⟨0, Nat.zero_le _, rfl, _, _, rfl, OwnG.emptyAt (Box.new wo 2 #[]) (Nat.le_refl _), (Below.refl _ _).alloc (Nat.le_refl _) _⟩
          case round =>
            obtain ⟨wm, rfl⟩ : ∃ x, x = wr := ⟨wr, rfl⟩
            obtain ⟨k, hk, rfl, A8, c8, rfl, hO8, hb8⟩ := hrel
            have HO8 := Lib.hid hO8
            have HB8 := Lib.hid hb8
            have hz8 := hb8.size
            clear hO8 hb8
            by_cases hkn : k < n + 1
            · have hkn' : (k : Int) ≤ (n : Int) := by omega
              obtain ⟨a0, ha0⟩ : ∃ a0 : Int, Hid (((k : Int) ≤ 1 → a0 = k) ∧ (1 < (k : Int) → a0 = 1)) := ⟨if (k : Int) ≤ 1 then k else 1, fun h => if_pos h, fun h => if_neg (by omega)⟩
              go_wp2_with fail
              · go_loopw [10, 11] (fun b i wj => ∃ j : Nat, (j + 1 ≤ k ∨ j = 0) ∧ i = .int .i64 ((j : Int) + 1) ∧ b = .int .i64 (lstN a0 (sN (pnF (r + 1)) (pnF r) k) j) ∧ Below wm.heap.size wm wj) (fun _ i _ => k + 1 - (intOf i).toNat)
                case atStart => exact ⟨0, by omega, rfl, by rw [show lstN a0 (sN (pnF (r + 1)) (pnF r) k) 0 = a0 from rfl]; first | rw [ha0.out.1 (by omega)] | rw [ha0.out.2 (by omega)], Below.refl _ _⟩
                case round =>
                  obtain ⟨wj, rfl⟩ : ∃ x, x = wr := ⟨wr, rfl⟩
                  obtain ⟨j, hj, rfl, rfl, hbj⟩ := hrel
                  have HBJ := Lib.hid hbj
                  have hzj := hbj.size
                  clear hbj
                  by_cases hjk : j + 1 < k
                  · obtain ⟨d, hd⟩ : ∃ d, k = j + 1 + d := ⟨k - (j + 1), by omega⟩
                    obtain ⟨g8, rfl, _, hl8, hc8⟩ := tabL_cell (i := j + 1) (HO8.out.below HBJ.out) (by omega) (by omega)
                    obtain ⟨g5, rfl, _, hl5, hc5⟩ := tabL_cell (i := d) ((HO.out.below HB8.out).below HBJ.out) (by omega) (by omega)
                    have b8 := pn_lim (q := r + 1) (n := j + 1) (by omega)
                    have b5 := pn_lim (q := r) (n := d) (by omega)
                    have HSN := Lib.hid (show sN (pnF (r + 1)) (pnF r) k (j + 1) = 2 * pnF (r + 1) (j + 1) + pnF r d by unfold sN; rw [show k - (j + 1) = d by omega])
                    obtain ⟨x8, e8⟩ : ∃ x, pnF (r + 1) (j + 1) = x := ⟨_, rfl⟩
                    obtain ⟨x5, e5⟩ : ∃ x, pnF r d = x := ⟨_, rfl⟩
                    rw [e8] at hc8 b8 HSN
                    rw [e5] at hc5 b5 HSN
                    have hdk : (k : Int) - ((j : Int) + 1) = (d : Int) := by omega
                    have hcap8 := HO8.out.cap
                    have hcap5 := HO.out.cap
                    have hjk' : (j : Int) + 1 < (k : Int) := by omega
                    have HD := Lib.hid hd
                    clear e8 e5 hd
                    obtain ⟨L, hL⟩ : ∃ L, Hid (lstN a0 (sN (pnF (r + 1)) (pnF r) k) j = L) := ⟨_, rfl⟩
                    rw [hL.out]
                    by_cases hj0 : j = 0
                    · have HN := Lib.hid (show lstN a0 (sN (pnF (r + 1)) (pnF r) k) (j + 1) = 2 * x8 + x5 by rw [lstN, if_pos (Or.inl hj0), HSN.out])
                      subst hj0
                      have hc8 : wj.cell? ⟨g8, 1, none⟩ = some (.int .i64 x8) := hc8
                      have hdk : (k : Int) - 1 = (d : Int) := by omega
                      have hjk' : (1 : Int) < (k : Int) := by omega
                      go_wp2_with fail
                      go_quiet (fail)
                      go_wp2
                      go_roundw
                      case rel => exact ⟨1, by omega, by go_num, by rw [HN.out], belowDraws HBJ.out _⟩
                      case measure => simp [intOf]; omega
                    · have hj1 : (((j : Int) + 1) == 1) = false := by rw [beq_eq_false_iff_ne]; omega
                      by_cases hlt2 : 2 * x8 + x5 < L
                      · have HN := Lib.hid (show lstN a0 (sN (pnF (r + 1)) (pnF r) k) (j + 1) = 2 * x8 + x5 by rw [lstN, HSN.out, hL.out, if_pos (Or.inr hlt2)])
                        go_wp2_with fail
                        go_quiet (fail)
                        go_wp2
                        go_roundw
                        case rel => exact ⟨j + 1, by omega, by go_num, by rw [HN.out], belowDraws HBJ.out _⟩
                        case measure => simp [intOf]; omega
                      · have HN := Lib.hid (show lstN a0 (sN (pnF (r + 1)) (pnF r) k) (j + 1) = L by rw [lstN, HSN.out, hL.out, if_neg (by omega)])
                        go_wp2_with fail
                        go_quiet (fail)
                        go_wp2
                        go_roundw
                        case rel => exact ⟨j + 1, by omega, by go_num, by rw [HN.out], belowDraws HBJ.out _⟩
                        case measure => simp [intOf]; omega
                  · have HF := Lib.hid (pn_fin (a0 := a0) (r := r) (k := k) (j := j) ha0.out hj hjk)
                    rw [HF.out]
                    have hjk' : ¬ (j : Int) + 1 < (k : Int) := by omega
                    have HO8J := Lib.hid (HO8.out.below HBJ.out)
                    have HB8J := Lib.hid (HB8.out.trans (HBJ.out.mono hz8))
                    go_wp2_with (at_builtin; refine wpList_append_own _ rfl _ _ 31 rfl wo.heap.size 2 i0 (.int .i64 0) 1 8 Try.underlying31 hi hz0 hz1 hz2 rfl (by decide) _ _ _ rfl (HO8J.out.alloc _) ⟨wj.heap.size, 0, none⟩ 1 1 [.int .i64 (pnF (r + 1) k)] rfl rfl (cell_one_new _ _ _) (by simp [Value.oneCell']) (by unfold maxLen; omega) (by omega) (by simp; omega) ?_; intro v' w4 hown' hgrow _; obtain ⟨A4, c4, rfl⟩ := ownG_shape hown'; have HO4 := Lib.hid hown'; have HB4 := Lib.hid (HB8J.out.trans (HO8J.out.grown_below hgrow (Nat.le_refl _) (by omega))); clear hown' hgrow)
                    go_roundw
                    case rel => exact ⟨k + 1, by omega, by go_num, A4, c4, by simp, by rw [tabL_more rfl]; exact HO4.out, HB4.out⟩
                    case measure => simp [intOf]; omega
              · go_loopw [10, 11] (fun b i wj => ∃ j : Nat, (j + 1 ≤ k ∨ j = 0) ∧ i = .int .i64 ((j : Int) + 1) ∧ b = .int .i64 (lstN a0 (sN (pnF (r + 1)) (pnF r) k) j) ∧ Below wm.heap.size wm wj) (fun _ i _ => k + 1 - (intOf i).toNat)
                case atStart => exact ⟨0, by omega, rfl, by rw [show lstN a0 (sN (pnF (r + 1)) (pnF r) k) 0 = a0 from rfl]; first | rw [ha0.out.1 (by omega)] | rw [ha0.out.2 (by omega)], Below.refl _ _⟩
                case round =>
                  obtain ⟨wj, rfl⟩ : ∃ x, x = wr := ⟨wr, rfl⟩
                  obtain ⟨j, hj, rfl, rfl, hbj⟩ := hrel
                  have HBJ := Lib.hid hbj
                  have hzj := hbj.size
                  clear hbj
                  by_cases hjk : j + 1 < k
                  · exact absurd hjk (by omega)
                  · have HF := Lib.hid (pn_fin (a0 := a0) (r := r) (k := k) (j := j) ha0.out hj hjk)
                    rw [HF.out]
                    have hjk' : ¬ (j : Int) + 1 < (k : Int) := by omega
                    have HO8J := Lib.hid (HO8.out.below HBJ.out)
                    have HB8J := Lib.hid (HB8.out.trans (HBJ.out.mono hz8))
                    go_wp2_with (at_builtin; refine wpList_append_own _ rfl _ _ 31 rfl wo.heap.size 2 i0 (.int .i64 0) 1 8 Try.underlying31 hi hz0 hz1 hz2 rfl (by decide) _ _ _ rfl (HO8J.out.alloc _) ⟨wj.heap.size, 0, none⟩ 1 1 [.int .i64 (pnF (r + 1) k)] rfl rfl (cell_one_new _ _ _) (by simp [Value.oneCell']) (by unfold maxLen; omega) (by omega) (by simp; omega) ?_; intro v' w4 hown' hgrow _; obtain ⟨A4, c4, rfl⟩ := ownG_shape hown'; have HO4 := Lib.hid hown'; have HB4 := Lib.hid (HB8J.out.trans (HO8J.out.grown_below hgrow (Nat.le_refl _) (by omega))); clear hown' hgrow)
                    go_roundw
                    case rel => exact ⟨k + 1, by omega, by go_num, A4, c4, by simp, by rw [tabL_more rfl]; exact HO4.out, HB4.out⟩
                    case measure => simp [intOf]; omega
            · obtain rfl : k = n + 1 := by omega
              go_wp2
              go_roundw
              case rel => exact ⟨r + 1, by omega, by go_num, _, _, rfl, HO8.out.mono hsz, HB.out.trans (HB8.out.mono hsz)⟩
              case measure => simp [intOf]; omega
        · obtain rfl : r = q := by omega
          go_wp2
          go_ret
          exact ⟨_, _, rfl, HO.out, HB.out⟩

end Go.Proofs.Ytfllbdpdfgkkaaa
