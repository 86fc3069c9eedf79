/- Contracts: the list of the legal moves, by the specification's model. -/
import Derived.Test.YtglilhnmgfkfhaaMovesL
import Derived.Test.YtglilhnmgfkfhaaMvS
namespace Go.Proofs.Ytglilhnmgfkfhaa
open Go.RowKit
set_option linter.unusedVariables false

set_option maxHeartbeats 2000000 in
theorem l01Moves_calls (A : Option Addr) (n c : Nat) (p : Int) (L : List Int) (w : World) (hL : L.length = n) (hI : Ints w A L) (hs : stateB p L = true) :
    Calls Try.prog 38 #[.agg #[.int .i64 p, .slice A n c]] w fun e w' => ∃ A' c', e = .returned (.slice A' (movesL p L).length c') ∧ OwnM w.heap.size w' A' (movesL p L).length c' (movesL p L) ∧ Below w.heap.size w w' := by
  obtain ⟨i0, hi, hz0, hz1', hz2'⟩ := info_parts Try.infoM
  obtain ⟨h3, h5, h8, _⟩ := state_facts hs hL
  have HL := Lib.hid hL
  have HS := Lib.hid hs
  have HI := Lib.hid hI
  clear hL hs hI
  go_enter Try.func38, Try.ntmps38
  go_wp2
  go_loopw [3, 4, 5, 6] (fun o d _ _ wr => ∃ k : Nat, k ≤ n ∧ d = .int .i64 k ∧ ∃ A' m c', o = .slice A' m c' ∧ OwnM (w.heap.size + 1) wr A' m c' (movesTo p L k) ∧ Box wr w.heap.size 33 #[.int .i64 p, .slice A n c] ∧ Below w.heap.size w wr) (fun _ d _ _ _ => n - (intOf d).toNat)
  case atStart =>
    have e1 : Box (w.alloc (.cells #[.int .i64 p, .slice A n c] 33)) w.heap.size 33 #[.int .i64 p, .slice A n c] := Box.new _ _ _
    have e2 := Box.new (w.alloc (.cells #[.int .i64 p, .slice A n c] 33)) 53 #[]
    rw [World.size_alloc] at e2
    exact ⟨0, Nat.zero_le _, rfl, _, _, _, rfl, OwnG.emptyAt e2 (Nat.le_refl _), e1.alloc _, ((Below.refl _ _).alloc (Nat.le_refl _) _).alloc (by simp) _⟩
  case round =>
    obtain ⟨k, hk, rfl, A', m, c', rfl, hO, hbx, hb⟩ := hrel
    obtain ⟨c0, c1, f0, f1⟩ := hbx.two
    have HBX := Lib.hid hbx
    have HO := Lib.hid hO
    have HB := Lib.hid hb
    clear hO hbx hb
    by_cases hlt : k < n
    · go_wp2
      go_loopw [3, 5, 6] (fun o t _ wr => ∃ j : Nat, (j : Int) ≤ p ∧ t = .int .i64 j ∧ ∃ A' m c', o = .slice A' m c' ∧ OwnM (w.heap.size + 1) wr A' m c' (movesTo p L k ++ rowM p L k j) ∧ Box wr w.heap.size 33 #[.int .i64 p, .slice A n c] ∧ Below w.heap.size w wr) (fun _ t _ _ => p.toNat - (intOf t).toNat)
      case atStart => exact ⟨0, by omega, rfl, A', m, c', rfl, by simpa [rowM] using HO.out, HBX.out, HB.out⟩
      case round =>
        clear HO HB HBX c0 c1 f0 f1
        obtain ⟨j, hj, rfl, A', m, c', rfl, hO, hbx, hb⟩ := hrel
        obtain ⟨c0, c1, f0, f1⟩ := hbx.two
        obtain ⟨ad, rfl, had, hc⟩ := (HI.out.below hb) k (by rw [HL.out]; exact hlt)
        have hlt0 := hbx.lt
        have HBX := Lib.hid hbx
        have HO := Lib.hid hO
        have HB := Lib.hid hb
        have hsz := hb.size
        clear hO hbx hb
        by_cases hjl : (j : Int) < p
        · have hm := OwnM.len HO.out
          have hlen := moves_lt HS.out (show k < L.length by rw [HL.out]; exact hlt) (show j < p.toNat by omega)
          have hm' : m < 40 := by omega
          clear hm hlen
          by_cases hl : legalB p L k (L[k]?.getD 0) j = true
          · have hrow := Lib.hid (rowM_yes hl)
            go_wp2_with fail
            refine (l01Legal_calls (some ad) n c p L k (L[k]?.getD 0) j _ HL.out ((HI.out.below HB.out).below ((Below.refl _ _).alloc (Nat.le_refl _) _)) HS.out).mono ?_
            rintro e w1 ⟨rfl, hb1⟩
            have hm1 := (Box.new wr 53 #[.int .i64 k, .int .i64 (L[k]?.getD 0), .int .i64 j]).below hb1 (by simp)
            obtain ⟨m0, m1, m2⟩ := hm1.three
            have hb2 : Below wr.heap.size wr w1 := ((Below.refl _ wr).alloc (Nat.le_refl _) _).trans (hb1.mono (by simp))
            have HBX1 := Lib.hid (HBX.out.below hb2 hlt0)
            have HO1 := Lib.hid (HO.out.below hb2)
            have HB1 := Lib.hid (HB.out.trans (hb2.mono hsz))
            have hz1 := HB1.out.size
            have hz2 := HBX1.out.lt
            clear hb1 hb2 hm1 HBX HO HB c0 c1 f0 f1
            obtain ⟨c0, c1, f0, f1⟩ := HBX1.out.two
            go_wp2_with (at_builtin; refine wpList_append_own _ rfl _ _ 28 rfl (w.heap.size + 1) 53 i0 (.agg #[.int .i64 0, .int .i64 0, .int .i64 0]) 3 24 Try.underlying28 hi hz0 hz1' hz2' rfl (by decide) _ _ _ rfl (HO1.out.alloc _) ⟨w1.heap.size, 0, none⟩ 1 1 [.int .i64 k, .int .i64 (L[k]?.getD 0), .int .i64 j] rfl rfl (World.news_of_block (cs := #[.int .i64 k, .int .i64 (L[k]?.getD 0), .int .i64 j]) (t := 53) (fr := (0, 0)) (heap_alloc_new w1 _)) (by simp [Value.oneCell']) (by unfold maxLen; omega) (by omega) (by simp; omega) ?_; intro v' w2 hown' hgrow _; obtain ⟨A2, c2, rfl⟩ := ownG_shape hown'; have HO2 := Lib.hid hown'; have HBX2 := Lib.hid (HO1.out.grown_box hgrow HBX1.out (by decide)); have HB2 := Lib.hid (HB1.out.trans (HO1.out.grown_below hgrow (by omega) hz1)); clear hown' hgrow)
            go_roundw
            case rel =>
              refine ⟨j + 1, by omega, by go_num, A2, m + 1, c2, rfl, ?_, HBX2.out, HB2.out⟩
              rw [hrow.out, ← List.append_assoc]
              unfold OwnM OwnG
              rw [mvCells_snoc]
              exact HO2.out
            case measure => simp [intOf]; omega
          · have hl' : legalB p L k (L[k]?.getD 0) j = false := by simpa using hl
            have hrow := Lib.hid (rowM_no hl')
            clear hl
            go_wp2_with fail
            refine (l01Legal_calls (some ad) n c p L k (L[k]?.getD 0) j _ HL.out ((HI.out.below HB.out).below ((Below.refl _ _).alloc (Nat.le_refl _) _)) HS.out).mono ?_
            rintro e w1 ⟨rfl, hb1⟩
            have hm1 := (Box.new wr 53 #[.int .i64 k, .int .i64 (L[k]?.getD 0), .int .i64 j]).below hb1 (by simp)
            obtain ⟨m0, m1, m2⟩ := hm1.three
            have hb2 : Below wr.heap.size wr w1 := ((Below.refl _ wr).alloc (Nat.le_refl _) _).trans (hb1.mono (by simp))
            have HBX1 := Lib.hid (HBX.out.below hb2 hlt0)
            have HO1 := Lib.hid (HO.out.below hb2)
            have HB1 := Lib.hid (HB.out.trans (hb2.mono hsz))
            have hz1 := HB1.out.size
            have hz2 := HBX1.out.lt
            clear hb1 hb2 hm1 HBX HO HB c0 c1 f0 f1
            obtain ⟨c0, c1, f0, f1⟩ := HBX1.out.two
            go_wp2
            go_roundw
            case rel => exact ⟨j + 1, by omega, by go_num, A', m, c', rfl, by rw [hrow.out]; exact HO1.out, HBX1.out, HB1.out⟩
            case measure => simp [intOf]; omega
        · obtain rfl : p = (j : Int) := by omega
          go_wp2
          go_roundw
          case rel => exact ⟨k + 1, by omega, by go_num, A', m, c', rfl, by simpa [movesTo] using HO.out, HBX.out, HB.out⟩
          case measure => simp [intOf]; omega
    · obtain rfl : k = n := by omega
      have hm : m = (movesL p L).length := by rw [← OwnM.len HO.out]; unfold movesL; rw [HL.out]
      subst hm
      go_wp2
      go_ret
      exact ⟨A', c', rfl, by have := HO.out.mono (B' := w.heap.size) (by omega); unfold movesL at this ⊢; rw [HL.out] at this ⊢; exact this, HB.out⟩

end Go.Proofs.Ytglilhnmgfkfhaa
