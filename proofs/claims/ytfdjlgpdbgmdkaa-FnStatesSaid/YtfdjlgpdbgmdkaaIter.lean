/- Contracts: the legal moves of a state as a function that is ranged over. -/
import Derived.Test.YtfdjlgpdbgmdkaaMovesL
import Derived.Test.YtfdjlgpdbgmdkaaIterW
import Derived.RangeFuncNested
import Derived.RangeFuncBox
import Derived.RangeFuncBound
import Derived.RangeFuncCalls
import Derived.RangeFuncLeaves
import Derived.Shelf.Abstract
import Derived.Shelf.RegionOpen
import Derived.OwnWalkIn
import Derived.TacticsInMore
import Derived.LoopNIn
import Derived.LoopIn
namespace Go.Proofs.Ytfdjlgpdbgmdkaa
open Go.RowKit Go.Shelf
set_option linter.unusedVariables false
attribute [local go_sem] Oper.semAt_some

set_option maxHeartbeats 1000000 in
theorem legalMoves_calls (n : Nat) (A : Option Addr) (nn c : Nat) (p : Int) (w : World) :
    CallsIn Fence.wide n Try.prog 53 #[.agg #[.int .i64 p, .slice A nn c]] w fun e w' => e = .returned (.func (.func 72) #[] #[.pointer (some ⟨w.heap.size, 0, none⟩)]) ∧ w' = w.alloc (.cells #[.int .i64 p, .slice A nn c] 26) := by
  refine callsIn_of_wp Try.func53 rfl trivial ?_ rfl
  simp only [Try.ntmps53, List.size_toArray, List.length_cons, List.length_nil, Nat.reduceAdd, Nat.reduceSub, Array.replicate_succ, Array.replicate_zero, List.push_toArray, List.append_toArray, List.nil_append, List.cons_append]
  gi_wp2
  go_ret
  exact ⟨rfl, rfl⟩

set_option maxRecDepth 100000 in
set_option maxHeartbeats 4000000 in
theorem legalMoves1_in (n l Bx B : Nat) (hn : 1 ≤ n) (A : Option Addr) (nn c : Nat) (p : Int) (L : List Int) (hL : L.length = nn) (hcap : nn ≤ c) (hc63 : c ≤ 9223372036854775807) (hs : stateB p L = true) (P : Mv → Prop) (hP : ∀ d t : Nat, d < L.length → legalB p L d (L[d]?.getD 0) t = true → P ((d : Int), L[d]?.getD 0, (t : Int))) (J Jx : List Mv → World → Prop) (hJ : AbidesFrom B J)
    (hY : ∀ pre (x : Mv) W, P x → J pre W → pre.length < 40 → YieldAt Fence.wide (n - 1) Try.prog l #[mvV x] W fun e W' =>
      (e = .returned (.bool true) ∧ J (pre ++ [x]) W' ∧ KeepB (stS Bx A L) W W') ∨ (e = .returned (.bool false) ∧ Jx (pre ++ [x]) W'))
    (W : World) (hBx : Box W Bx 26 #[.int .i64 p, .slice A nn c]) (hI : Ints W A L) (h0 : J [] W) :
    CallsIn Fence.wide n Try.prog 72 #[.func (.yield l) #[] #[], .pointer (some ⟨Bx, 0, none⟩)] W fun e W' => (∃ v, e = .returned v) ∧
      ((∃ ys, ys = movesL p L ∧ J ys W') ∨ (∃ pre, pre <+: movesL p L ∧ Jx pre W')) := by
  obtain ⟨h3, h5, h8, _⟩ := state_facts hs hL
  have HL := Lib.hid hL
  have HS := Lib.hid hs
  have HP := Lib.hid hP
  clear hL hs hP
  refine callsIn_of_wp Try.func72 rfl trivial ?_ rfl
  simp only [Try.ntmps72, List.size_toArray, List.length_cons, List.length_nil, Nat.reduceAdd, Nat.reduceSub, Array.replicate_succ, Array.replicate_zero, List.push_toArray, List.append_toArray, List.nil_append, List.cons_append]
  have hb0 := hBx.two
  obtain ⟨c0, c1, f0, f1⟩ := hb0
  gi_wp2
  gi_loopw [3, 4, 5, 6, 10, 17] (fun _ _ _ _ i _ wr => ∃ d : Nat, d ≤ nn ∧ i = .int .i64 d ∧ J (movesTo p L d) wr ∧ Box wr Bx 26 #[.int .i64 p, .slice A nn c] ∧ Ints wr A L)
    (fun _ _ _ _ i _ _ => nn - (intOf i).toNat)
  case atStart => exact ⟨0, Nat.zero_le _, rfl, h0, hBx, hI⟩
  case round =>
    obtain ⟨d, hd, rfl, hJs, hbx, hI1⟩ := hrel
    obtain ⟨c0, c1, f0, f1⟩ := hbx.two
    by_cases hlt : d < nn
    · obtain ⟨ad, rfl, had, hc⟩ := hI1 d (by rw [HL.out]; exact hlt)
      gi_wp2
      gi_loopw [5, 6, 17] (fun _ _ j wr => ∃ t : Nat, (t : Int) ≤ p ∧ j = .int .i64 t ∧ J (movesTo p L d ++ rowM p L d t) wr ∧ Box wr Bx 26 #[.int .i64 p, .slice (some ad) nn c] ∧ Ints wr (some ad) L)
        (fun _ _ j _ => p.toNat - (intOf j).toNat)
      case atStart => exact ⟨0, by omega, rfl, by simpa [rowM] using hJs, hbx, hI1⟩
      case round =>
        obtain ⟨t, ht, rfl, hJt, hbx2, hI2⟩ := hrel
        obtain ⟨c0, c1, f0, f1⟩ := hbx2.two
        have hz := hbx2.lt
        by_cases htl : (t : Int) < p
        · have hj : t < p.toNat := by omega
          by_cases hl : legalB p L d (L[d]?.getD 0) t = true
          · have hrow := Lib.hid (rowM_yes hl)
            have HPx := Lib.hid (HP.out d t (by rw [HL.out]; exact hlt) hl)
            have hlen := moves_lt HS.out (show d < L.length by rw [HL.out]; exact hlt) hj
            gi_wp2_with (refine ⟨trivial, ?_⟩; gi_at_call 73; refine (callsIn_wide.2 (isLegalMove_calls (some ad) nn c p L d (L[d]?.getD 0) t _ HL.out hcap hc63 (hI2.below ((Below.refl _ _).alloc (Nat.le_refl _) _)) HS.out)).mono ?_; rintro e w1 ⟨rfl, hb⟩; have hm := (Box.new wr 74 #[.int .i64 d, .int .i64 (L[d]?.getD 0), .int .i64 t]).below hb (by simp); obtain ⟨m0, m1, m2⟩ := hm.three; have hb1 : Below wr.heap.size wr w1 := ((Below.refl _ wr).alloc (Nat.le_refl _) _).trans (hb.mono (by simp)); have hbx3 := hbx2.below hb1 hbx2.lt; obtain ⟨c0, c1, f0, f1⟩ := hbx3.two; have hI3 := hI2.below hb1; obtain ⟨fn, tmps, assign, body, hy, hR⟩ := hY _ ((d : Int), L[d]?.getD 0, (t : Int)) w1 HPx.out (abide hJ hJt hb1) hlen; clear hb hm; dsimp only [mvV] at hy)
            refine hR.mono ?_
            rintro e W3 (⟨rfl, hJ3, hk3⟩ | ⟨rfl, hJx3⟩)
            · gi_wp2
              go_roundw
              case rel => exact ⟨t + 1, by omega, by go_num, by rw [hrow.out, ← List.append_assoc]; exact hJ3, (hk3 Bx (.inl rfl)).trans hbx3, hI3.keepB hk3 (fun a e hne => .inr ⟨hne, a, e, rfl⟩)⟩
              case measure => simp [intOf]; omega
            · gi_wp2
              refine bodyPost_ret (results_none rfl _ _ _) rfl ?_
              exact ⟨⟨_, rfl⟩, .inr ⟨_, by have := moves_prefix (p := p) (show d < L.length by rw [HL.out]; exact hlt) (show t + 1 ≤ p.toNat by omega); rwa [hrow.out, ← List.append_assoc] at this, hJx3⟩⟩
          · have hl' : legalB p L d (L[d]?.getD 0) t = false := by simpa using hl
            have hrow := Lib.hid (rowM_no hl')
            clear hl
            gi_wp2_with (refine ⟨trivial, ?_⟩; gi_at_call 73; refine (callsIn_wide.2 (isLegalMove_calls (some ad) nn c p L d (L[d]?.getD 0) t _ HL.out hcap hc63 (hI2.below ((Below.refl _ _).alloc (Nat.le_refl _) _)) HS.out)).mono ?_; rintro e w1 ⟨rfl, hb⟩; have hm := (Box.new wr 74 #[.int .i64 d, .int .i64 (L[d]?.getD 0), .int .i64 t]).below hb (by simp); obtain ⟨m0, m1, m2⟩ := hm.three; have hb1 : Below wr.heap.size wr w1 := ((Below.refl _ wr).alloc (Nat.le_refl _) _).trans (hb.mono (by simp)); have hbx3 := hbx2.below hb1 hbx2.lt; obtain ⟨c0, c1, f0, f1⟩ := hbx3.two; have hI3 := hI2.below hb1; have hJ1 := abide hJ hJt hb1; clear hb hm)
            refine ⟨fun _ h => (by cases h), ?_⟩
            gi_wp2
            go_roundw
            case rel => exact ⟨t + 1, by omega, by go_num, by rw [hrow.out]; exact hJ1, hbx3, hI3⟩
            case measure => simp [intOf]; omega
        · obtain rfl : p = (t : Int) := by omega
          gi_wp2
          go_roundw
          case rel => exact ⟨d + 1, by omega, by go_num, hJt, hbx2, hI2⟩
          case measure => simp [intOf]; omega
    · obtain rfl : d = nn := by omega
      gi_wp2
      go_end0
      exact ⟨⟨_, rfl⟩, .inl ⟨_, rfl, by unfold movesL; rw [HL.out]; exact hJs⟩⟩

/-- The legal moves of a state, as a function that is ranged over: all of them, in their order, or a first part. -/
theorem legalMoves_stops (n Bx : Nat) (hn : 1 ≤ n) (A : Option Addr) (nn c : Nat) (p : Int) (L : List Int) (hL : L.length = nn) (hcap : nn ≤ c) (hc63 : c ≤ 9223372036854775807) (hs : stateB p L = true) (w : World) (hBx : Box w Bx 26 #[.int .i64 p, .slice A nn c]) (hI : Ints w A L) :
    SeqStopsK Fence.wide n Try.prog 72 #[.pointer (some ⟨Bx, 0, none⟩)] (fun x : Mv => #[mvV x]) (KeepB (stS Bx A L)) (fun ys => ys = movesL p L) (fun pre => pre <+: movesL p L) 40 w := fun l J Jx W hW hJ hJx hY h0 =>
  legalMoves1_in n l Bx W.heap.size hn A nn c p L hL hcap hc63 hs (fun _ => True) (fun _ _ _ _ => trivial) J Jx hJ (fun pre x W1 _ => hY pre x W1) W (hBx.below hW hBx.lt) (hI.below hW) h0

/-- The same, the body knowing of each move what P says. -/
theorem legalMoves_stopsP (n Bx : Nat) (hn : 1 ≤ n) (A : Option Addr) (nn c : Nat) (p : Int) (L : List Int) (hL : L.length = nn) (hcap : nn ≤ c) (hc63 : c ≤ 9223372036854775807) (hs : stateB p L = true) (P : Mv → Prop) (hP : ∀ d t : Nat, d < L.length → legalB p L d (L[d]?.getD 0) t = true → P ((d : Int), L[d]?.getD 0, (t : Int))) (w : World) (hBx : Box w Bx 26 #[.int .i64 p, .slice A nn c]) (hI : Ints w A L) :
    SeqStopsK Fence.wide n Try.prog 72 #[.pointer (some ⟨Bx, 0, none⟩)] (fun x : { m : Mv // P m } => #[mvV x.1]) (KeepB (stS Bx A L)) (fun ys => ys.map Subtype.val = movesL p L) (fun pre => pre.map Subtype.val <+: movesL p L) 40 w := fun l J Jx W hW hJ hJx hY h0 => by
  refine (legalMoves1_in n l Bx W.heap.size hn A nn c p L hL hcap hc63 hs P hP (fun pre W => ∃ q : List { m : Mv // P m }, q.map Subtype.val = pre ∧ J q W) (fun pre W => ∃ q : List { m : Mv // P m }, q.map Subtype.val = pre ∧ Jx q W)
    (fun s X Y row hs' hg hr => by obtain ⟨q, e, hq⟩ := hs'; exact ⟨q, e, hJ q X Y row hq hg hr⟩) ?_ W (hBx.below hW hBx.lt) (hI.below hW) ⟨[], rfl, h0⟩).mono ?_
  · rintro pre x W1 hx ⟨q, rfl, hq⟩ hlen
    obtain ⟨fn, tmps, assign, body, hy, hR⟩ := hY q ⟨x, hx⟩ W1 hq (by simpa using hlen)
    refine ⟨fn, tmps, assign, body, hy, hR.mono ?_⟩
    rintro e W' (⟨rfl, h1, h2⟩ | ⟨rfl, h1⟩)
    · exact .inl ⟨rfl, ⟨q ++ [⟨x, hx⟩], by simp, h1⟩, h2⟩
    · exact .inr ⟨rfl, ⟨q ++ [⟨x, hx⟩], by simp, h1⟩⟩
  · rintro e W' ⟨hv, ⟨ys, rfl, q, h1, h2⟩ | ⟨pre, h1, q, rfl, h2⟩⟩
    · exact ⟨hv, .inl ⟨q, h1, h2⟩⟩
    · exact ⟨hv, .inr ⟨q, h1, h2⟩⟩

end Go.Proofs.Ytfdjlgpdbgmdkaa
