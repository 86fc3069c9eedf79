/- Contracts: the legal moves of a state as a function that is ranged over. -/
import Derived.Test.YtinemelcbnnpnaaMovesL
import Derived.RangeFuncNested
import Derived.RangeFuncBox
import Derived.RangeFuncBound
import Derived.RangeFuncCalls
import Derived.RangeFuncLeaves
import Derived.Shelf.Abstract
import Derived.Shelf.RegionOpen
import Derived.OwnWalkIn
import Derived.TacticsInMore
import Derived.LoopNIn
import Derived.LoopIn
namespace Go.Proofs.Ytinemelcbnnpnaa
open Go.RowKit Go.Shelf
set_option linter.unusedVariables false
attribute [local go_sem] Oper.semAt_some

/-- The blocks of S lie as they lay. -/
def KeepB (S : Nat → Prop) (W W' : World) : Prop := ∀ b, S b → W'.heap[b]? = W.heap[b]?
theorem keepB_t {S : Nat → Prop} {A B C : World} (h : KeepB S A B) (k : KeepB S B C) : KeepB S A C := fun b hb => (k b hb).trans (h b hb)
theorem keepB_b {S : Nat → Prop} {w : World} (hS : ∀ b, S b → b < w.heap.size) (W : World) (l : Nat) (o o' : Obj) (hl : w.heap.size ≤ l) (h : W.heap[l]? = some o) (_ : o.isCells = false) (_ : o.isWalk = false) : KeepB S W (W.putObj l o') :=
  fun b hb => World.putObj_heap_other (by have := hS b hb; omega)
theorem keepB_below {S : Nat → Prop} {B : Nat} {W W' : World} (h : Below B W W') (hS : ∀ b, S b → b < B) : KeepB S W W' := fun b hb => h.block b (hS b hb)
/-- The block of a state's box and that of its list. -/
def stS (Bx : Nat) (A : Option Addr) (L : List Int) (b : Nat) : Prop := b = Bx ∨ (L ≠ [] ∧ ∃ ad : Addr, A = some ad ∧ b = ad.block)
theorem stS_cases {w : World} {Bx b : Nat} {A : Option Addr} {L : List Int} (hI : Ints w A L) (h : stS Bx A L b) : b = Bx ∨ b < w.heap.size := by
  rcases h with h | ⟨hne, ad, rfl, rfl⟩
  · exact .inl h
  · obtain ⟨ad', e, hlt, _⟩ := hI 0 (List.length_pos_iff.2 hne)
    cases e
    exact .inr hlt
theorem Ints.keepB {S : Nat → Prop} {W W' : World} {A : Option Addr} {L : List Int} (h : Ints W A L) (hk : KeepB S W W') (hS : ∀ ad : Addr, A = some ad → L ≠ [] → S ad.block) : Ints W' A L := by
  intro k hlt
  obtain ⟨ad, rfl, hb, hc⟩ := h k hlt
  have hh := hk ad.block (hS ad rfl (by intro e; rw [e] at hlt; simp at hlt))
  have hb' : ad.block < W'.heap.size := by
    rcases Nat.lt_or_ge ad.block W'.heap.size with h' | h'
    · exact h'
    · rw [Array.getElem?_eq_none h', Array.getElem?_eq_getElem hb] at hh; cases hh
  refine ⟨ad, rfl, hb', ?_⟩
  rw [← hc]
  unfold World.cell?
  rw [add_block, hh]
theorem grown_of_below {W W' : World} (h : Below W.heap.size W W') : W.grownBy W' none := ⟨h.os, h.tape, h.output, h.size, fun k hk _ => h.block k hk⟩
theorem keepsOthers_of_below {W W' : World} (h : Below W.heap.size W W') : KeepsOthers W W' := KeepsOthers.of_grownBy (grown_of_below h) (fun j o e _ => by cases e)
theorem abide {β : Type} {B : Nat} {J : β → World → Prop} (hJ : AbidesFrom B J) {s : β} {W W' : World} (hs : J s W) (h : Below W.heap.size W W') : J s W' := hJ s W W' none hs (grown_of_below h) (fun r e => by cases e)

theorem box_own {β : Type} (B : Nat) (t : TypeId) (cs : Array Value) : Go.Own (fun (_ : β) W => Box W B t cs) := fun s X Y row hs hg hrow =>
  hs.grown hg (fun e' => by obtain ⟨o, ho, hc⟩ := hrow B e'.symm; rw [show X.heap[B]? = _ from hs] at ho; cases ho; cases hc)

theorem ownFrom_size {β : Type} (B k : Nat) : OwnFrom B (fun (_ : β) W => k ≤ W.heap.size) := fun _ _ _ _ hs hg _ => Nat.le_trans hs hg.size
/-- Behind an append and the store of its answer: the blocks that are neither the list's own nor the variable's lie as they lay. -/
theorem keepB_appended {S : Nat → Prop} {W w2 : World} {tmp : Obj} {v u : Value} {B : Nat} (hg : (W.alloc tmp).grownBy w2 v.ownBlock) (hS : ∀ b, S b → b < W.heap.size ∧ some b ≠ v.ownBlock ∧ b ≠ B) : KeepB S W (w2.setCell ⟨B, 0, none⟩ u) := fun b hb => by
  obtain ⟨h1, h2, h3⟩ := hS b hb
  exact (Below.heap_setCell _ _ _ _ (by exact h3)).trans ((hg.block b (by simp; omega) h2).trans (Below.heap_alloc W tmp b h1))

theorem ints_own {β : Type} (A : Option Addr) (L : List Int) : Go.Own (fun (_ : β) W => Ints W A L) := fun s X Y row hs hg hrow k hk => by
  obtain ⟨ad, hA, hlt, hc⟩ := hs k hk
  refine ⟨ad, hA, Nat.lt_of_lt_of_le hlt hg.size, ?_⟩
  have hb := hg.block ad.block hlt (fun e => by
    obtain ⟨o, ho, hcs⟩ := hrow _ e.symm
    unfold World.cell? at hc
    rw [add_block, ho] at hc
    cases o <;> simp [Obj.isCells] at hcs hc)
  rw [← hc]
  unfold World.cell?
  rw [add_block, hb]

set_option maxHeartbeats 1000000 in
theorem legalMoves_calls (n : Nat) (A : Option Addr) (nn c : Nat) (p : Int) (w : World) :
    CallsIn Fence.wide n Try.prog 42 #[.agg #[.int .i64 p, .slice A nn c]] w fun e w' => e = .returned (.func (.func 63) #[] #[.pointer (some ⟨w.heap.size, 0, none⟩)]) ∧ w' = w.alloc (.cells #[.int .i64 p, .slice A nn c] 29) := by
  refine callsIn_of_wp Try.func42 rfl trivial ?_ rfl
  simp only [Try.ntmps42, List.size_toArray, List.length_cons, List.length_nil, Nat.reduceAdd, Nat.reduceSub, Array.replicate_succ, Array.replicate_zero, List.push_toArray, List.append_toArray, List.nil_append, List.cons_append]
  gi_wp2
  go_ret
  exact ⟨rfl, rfl⟩

set_option maxRecDepth 100000 in
set_option maxHeartbeats 4000000 in
theorem legalMoves1_in (n l Bx B : Nat) (hn : 1 ≤ n) (A : Option Addr) (nn c : Nat) (p : Int) (L : List Int) (hL : L.length = nn) (hcap : nn ≤ c) (hc63 : c ≤ 9223372036854775807) (hs : stateB p L = true) (J Jx : List Mv → World → Prop) (hJ : AbidesFrom B J)
    (hY : ∀ pre (x : Mv) W, J pre W → pre.length < 40 → YieldAt Fence.wide (n - 1) Try.prog l #[mvV x] W fun e W' =>
      (e = .returned (.bool true) ∧ J (pre ++ [x]) W' ∧ KeepB (stS Bx A L) W W') ∨ (e = .returned (.bool false) ∧ Jx (pre ++ [x]) W'))
    (W : World) (hBx : Box W Bx 29 #[.int .i64 p, .slice A nn c]) (hI : Ints W A L) (h0 : J [] W) :
    CallsIn Fence.wide n Try.prog 63 #[.func (.yield l) #[] #[], .pointer (some ⟨Bx, 0, none⟩)] W fun e W' => (∃ v, e = .returned v) ∧
      ((∃ ys, ys = movesL p L ∧ J ys W') ∨ (∃ pre, pre <+: movesL p L ∧ Jx pre W')) := by
  obtain ⟨h3, h5, h8, _⟩ := state_facts hs hL
  have HL := Lib.hid hL
  have HS := Lib.hid hs
  clear hL hs
  refine callsIn_of_wp Try.func63 rfl trivial ?_ rfl
  simp only [Try.ntmps63, List.size_toArray, List.length_cons, List.length_nil, Nat.reduceAdd, Nat.reduceSub, Array.replicate_succ, Array.replicate_zero, List.push_toArray, List.append_toArray, List.nil_append, List.cons_append]
  have hb0 := hBx.two
  obtain ⟨c0, c1, f0, f1⟩ := hb0
  gi_wp2
  gi_loopw [3, 4, 5, 6, 10, 17] (fun _ _ _ _ i _ wr => ∃ d : Nat, d ≤ nn ∧ i = .int .i64 d ∧ J (movesTo p L d) wr ∧ Box wr Bx 29 #[.int .i64 p, .slice A nn c] ∧ Ints wr A L)
    (fun _ _ _ _ i _ _ => nn - (intOf i).toNat)
  case atStart => exact ⟨0, Nat.zero_le _, rfl, h0, hBx, hI⟩
  case round =>
    obtain ⟨d, hd, rfl, hJs, hbx, hI1⟩ := hrel
    obtain ⟨c0, c1, f0, f1⟩ := hbx.two
    by_cases hlt : d < nn
    · obtain ⟨ad, rfl, had, hc⟩ := hI1 d (by rw [HL.out]; exact hlt)
      gi_wp2
      gi_loopw [5, 6, 17] (fun _ _ j wr => ∃ t : Nat, (t : Int) ≤ p ∧ j = .int .i64 t ∧ J (movesTo p L d ++ rowM p L d t) wr ∧ Box wr Bx 29 #[.int .i64 p, .slice (some ad) nn c] ∧ Ints wr (some ad) L)
        (fun _ _ j _ => p.toNat - (intOf j).toNat)
      case atStart => exact ⟨0, by omega, rfl, by simpa [rowM] using hJs, hbx, hI1⟩
      case round =>
        obtain ⟨t, ht, rfl, hJt, hbx2, hI2⟩ := hrel
        obtain ⟨c0, c1, f0, f1⟩ := hbx2.two
        have hz := hbx2.lt
        by_cases htl : (t : Int) < p
        · have hj : t < p.toNat := by omega
          by_cases hl : legalB p L d (L[d]?.getD 0) t = true
          · have hrow := Lib.hid (rowM_yes hl)
            have hlen := moves_lt HS.out (show d < L.length by rw [HL.out]; exact hlt) hj
            gi_wp2_with (refine ⟨trivial, ?_⟩; gi_at_call 48; refine (callsIn_wide.2 (isLegalMove_calls (some ad) nn c p L d (L[d]?.getD 0) t _ HL.out hcap hc63 (hI2.below ((Below.refl _ _).alloc (Nat.le_refl _) _)) HS.out)).mono ?_; rintro e w1 ⟨rfl, hb⟩; have hm := (Box.new wr 60 #[.int .i64 d, .int .i64 (L[d]?.getD 0), .int .i64 t]).below hb (by simp); obtain ⟨m0, m1, m2⟩ := hm.three; have hb1 : Below wr.heap.size wr w1 := ((Below.refl _ wr).alloc (Nat.le_refl _) _).trans (hb.mono (by simp)); have hbx3 := hbx2.below hb1 hbx2.lt; obtain ⟨c0, c1, f0, f1⟩ := hbx3.two; have hI3 := hI2.below hb1; obtain ⟨fn, tmps, assign, body, hy, hR⟩ := hY _ ((d : Int), L[d]?.getD 0, (t : Int)) w1 (abide hJ hJt hb1) hlen; clear hb hm; dsimp only [mvV] at hy)
            refine hR.mono ?_
            rintro e W3 (⟨rfl, hJ3, hk3⟩ | ⟨rfl, hJx3⟩)
            · gi_wp2
              go_roundw
              case rel => exact ⟨t + 1, by omega, by go_num, by rw [hrow.out, ← List.append_assoc]; exact hJ3, (hk3 Bx (.inl rfl)).trans hbx3, hI3.keepB hk3 (fun a e hne => .inr ⟨hne, a, e, rfl⟩)⟩
              case measure => simp [intOf]; omega
            · gi_wp2
              refine bodyPost_ret (results_none rfl _ _ _) rfl ?_
              exact ⟨⟨_, rfl⟩, .inr ⟨_, by have := moves_prefix (p := p) (show d < L.length by rw [HL.out]; exact hlt) (show t + 1 ≤ p.toNat by omega); rwa [hrow.out, ← List.append_assoc] at this, hJx3⟩⟩
          · have hl' : legalB p L d (L[d]?.getD 0) t = false := by simpa using hl
            have hrow := Lib.hid (rowM_no hl')
            clear hl
            gi_wp2_with (refine ⟨trivial, ?_⟩; gi_at_call 48; refine (callsIn_wide.2 (isLegalMove_calls (some ad) nn c p L d (L[d]?.getD 0) t _ HL.out hcap hc63 (hI2.below ((Below.refl _ _).alloc (Nat.le_refl _) _)) HS.out)).mono ?_; rintro e w1 ⟨rfl, hb⟩; have hm := (Box.new wr 60 #[.int .i64 d, .int .i64 (L[d]?.getD 0), .int .i64 t]).below hb (by simp); obtain ⟨m0, m1, m2⟩ := hm.three; have hb1 : Below wr.heap.size wr w1 := ((Below.refl _ wr).alloc (Nat.le_refl _) _).trans (hb.mono (by simp)); have hbx3 := hbx2.below hb1 hbx2.lt; obtain ⟨c0, c1, f0, f1⟩ := hbx3.two; have hI3 := hI2.below hb1; have hJ1 := abide hJ hJt hb1; clear hb hm)
            refine ⟨fun _ h => (by cases h), ?_⟩
            gi_wp2
            go_roundw
            case rel => exact ⟨t + 1, by omega, by go_num, by rw [hrow.out]; exact hJ1, hbx3, hI3⟩
            case measure => simp [intOf]; omega
        · obtain rfl : p = (t : Int) := by omega
          gi_wp2
          go_roundw
          case rel => exact ⟨d + 1, by omega, by go_num, hJt, hbx2, hI2⟩
          case measure => simp [intOf]; omega
    · obtain rfl : d = nn := by omega
      gi_wp2
      go_end0
      exact ⟨⟨_, rfl⟩, .inl ⟨_, rfl, by unfold movesL; rw [HL.out]; exact hJs⟩⟩

/-- The legal moves of a state, as a function that is ranged over: all of them, in their order, or a first part. -/
theorem legalMoves_stops (n Bx : Nat) (hn : 1 ≤ n) (A : Option Addr) (nn c : Nat) (p : Int) (L : List Int) (hL : L.length = nn) (hcap : nn ≤ c) (hc63 : c ≤ 9223372036854775807) (hs : stateB p L = true) (w : World) (hBx : Box w Bx 29 #[.int .i64 p, .slice A nn c]) (hI : Ints w A L) :
    SeqStopsK Fence.wide n Try.prog 63 #[.pointer (some ⟨Bx, 0, none⟩)] (fun x : Mv => #[mvV x]) (KeepB (stS Bx A L)) (fun ys => ys = movesL p L) (fun pre => pre <+: movesL p L) 40 w := fun l J Jx W hW hJ hJx hY h0 =>
  legalMoves1_in n l Bx W.heap.size hn A nn c p L hL hcap hc63 hs J Jx hJ hY W (hBx.below hW hBx.lt) (hI.below hW) h0

end Go.Proofs.Ytinemelcbnnpnaa
