/- Contracts: slices.Clone of a list of integers. · A range over a function whose elements lie in memory: the iterator tells the round what is known of the element in the world at hand. A law over the library's base law; no program. · The iterator of the way, by the program: what it owes to its rounds. · A range over a function that keeps a private list between its yields. A law over the library's base law; no program. · Contracts: slices.Collect over an iterator that keeps a private list: the list of moves. · Promises of iterators that keep blocks of their own, write into them between their yields, and may take new ones; Collect over such a one. · Contracts: slices.Reverse of an own list of moves. · Contracts: wayBack, of the program: the moves of a way the other way. · Contracts: GoalsOf, by the specification's model and by the program. · Contracts: WayToPeg, by the specification's model and by the program. -/
import Derived.Test.YtbcgomimfgggnaaPk1
import Derived.Test.YtbcgomimfgggnaaPk4
import Derived.Laws.Cover3
import Derived.Test.YtbcgomimfgggnaaPk7
import Derived.Maps.OwnIn
import Derived.Deep.Cut
import Derived.Test.YtbcgomimfgggnaaPk2
namespace Go.Proofs.Ytbcgomimfgggnaa
open Go.RowKit
set_option linter.unusedVariables false
set_option maxRecDepth 100000

theorem OwnG.grown_belowC {e size B : Nat} {w w1 : World} {A : Option Addr} {n c : Nat} {xs : List Value} {B0 : Nat} (h : OwnG e size B w A n c xs) (hg : w.grownBy w1 (Value.slice A n c).ownBlock) (h1 : B0 ≤ B) (h2 : B0 ≤ w.heap.size) : Below B0 w w1 := by
  refine (Below.refl B0 w).grown hg h2 (fun k hk => ?_)
  rcases h.form with ⟨rfl, rfl, rfl⟩ | ⟨g, rfl, hB, _⟩
  · simp [Value.ownBlock] at hk
  · simp only [Value.ownBlock, Option.some.injEq] at hk
    omega

set_option maxHeartbeats 1000000 in
theorem clone_calls (ad : Addr) (n c : Nat) (L : List Int) (w : World) (hL : L.length = n) (hn : n ≤ 1000) (hI : Ints w (some ad) L) :
    Calls Try.prog 90 #[.slice (some ad) n c] w fun e w' => ∃ A c', e = .returned (.slice A n c') ∧ Own w.heap.size w' A n c' L ∧ Below w.heap.size w w' := by
  obtain ⟨i0, hi, hz0, hz1, hz2⟩ := info_parts Try.infoI
  have HL := Lib.hid hL
  have hb0 := (Below.refl w.heap.size w).alloc (Nat.le_refl _) (.cells #[] 2)
  have HI := Lib.hid (hI.below hb0)
  have HB := Lib.hid hb0
  have HO := Lib.hid (OwnG.emptyAt (e := 2) (size := 1) (Box.new w 2 #[]) (Nat.le_refl w.heap.size))
  have heq : ∀ W : World, (binOp .eql 28 (.slice (some ad) n c) (.slice none 0 0)).run Try.prog W = .ok (.bool false) W := fun W => by
    simp only [binOp]
    simp [run_equal_slice_nil W 28 2 (some ad) n c Try.underlying28]
  clear hL hI hb0
  go_enter Try.func90, Try.ntmps90
  go_wp2_with (at_builtin; refine wpList_append_own _ rfl _ _ 28 rfl w.heap.size 2 i0 (.int .i64 0) 1 8 Try.underlying28 hi hz0 hz1 hz2 rfl (by decide) _ _ _ rfl HO.out ad n c (L.map (Value.int .i64)) rfl (by simp [HL.out]) (HI.out.news) (ints_oneCell _ _) (by unfold maxLen; omega) (by omega) (by simp) ?_; intro v' w4 hown' hgrow _; obtain ⟨A4, c4, rfl⟩ := ownG_shape hown'; have HO4 := Lib.hid hown'; have HG4 := Lib.hid hgrow; clear hown' hgrow)
  go_ret
  exact ⟨A4, c4, by simp, by simpa [Own] using HO4.out, HB.out.trans (OwnG.grown_belowC HO.out HG4.out (Nat.le_refl _) (by simp))⟩

set_option maxHeartbeats 1000000 in
theorem cloneA_calls (A : Option Addr) (n c : Nat) (L : List Int) (w : World) (hL : L.length = n) (hn : n ≤ 1000) (hA : A = none → c = 0) (hI : Ints w A L) :
    Calls Try.prog 90 #[.slice A n c] w fun e w' => ∃ A' c', e = .returned (.slice A' n c') ∧ Own w.heap.size w' A' n c' L ∧ Below w.heap.size w w' := by
  rcases A with _ | ad
  · obtain rfl := hA rfl
    have hn0 : n = 0 := by
      rcases Nat.eq_zero_or_pos n with h | h
      · exact h
      · obtain ⟨_, h1, _⟩ := hI 0 (by omega)
        cases h1
    subst hn0
    obtain rfl : L = [] := List.eq_nil_of_length_eq_zero hL
    have heq : ∀ W : World, (binOp .eql 28 (.slice none 0 0) (.slice none 0 0)).run Try.prog W = .ok (.bool true) W := fun W => by
      simp only [binOp]
      simp [run_equal_slice_nil W 28 2 none 0 0 Try.underlying28]
    clear hL hI hA
    go_enter Try.func90, Try.ntmps90
    go_wp2
    go_ret
    exact ⟨none, 0, rfl, Own.nilS _ _, Below.refl _ _⟩
  · exact clone_calls ad n c L w hL hn hI

end Go.Proofs.Ytbcgomimfgggnaa

namespace Go.Proofs.Ytbcgomimfgggnaa
open Go.RowKit Go.Shelf
set_option maxRecDepth 100000

/-- What the iterator owes: to each round an element of which G is known there. -/
def SeqTold {α : Type} (n : Nat) (P : Program) (g : Nat) (lb : Array Value) (encs : α → Array Value) (G : List α → α → World → Prop) (Kp : World → World → Prop) (S : List α → Prop) (w : World) : Prop :=
  ∀ (l : Nat) (J : List α → World → Prop) (W : World), Below w.heap.size w W → (∀ pre A B, J pre A → Below A.heap.size A B → J pre B) →
    (∀ pre x W1, J pre W1 → G pre x W1 → YieldAt Fence.wide (n - 1) P l (encs x) W1 fun e W' => e = .returned (.bool true) ∧ J (pre ++ [x]) W' ∧ Kp W1 W') →
    J [] W → CallsIn Fence.wide n P g (#[.func (.yield l) #[] #[]] ++ lb) W fun e W' => (∃ v, e = .returned v) ∧ ∃ xs, S xs ∧ J xs W'

/-- How a round ends: it goes on. -/
def toldPost {α : Type} (B : Nat) (Kp : World → World → Prop) (I : List α → World → Prop) (xs : List α) (W : World) : Exit → Act → World → Prop
  | .normal, _, W' => KeepsFrom B W W' ∧ Kp W W' ∧ I xs W'
  | _, _, _ => False

variable {P : Program} {n : Nat}

theorem rangeFunc_told {α : Type} {g : Operand} {ps : Array Tmp} {assign body : Code} {Q : Exit → Act → World → Prop} {a : Act} {w : World} (h1 : 1 ≤ n) {gf : Nat} {lb : Array Value}
    (hg : a.eval g = .func (.func gf) #[] lb) (eg : ∀ args w, (callFunc gf args).run P w = .ok (.enter gf args) w)
    {encs : α → Array Value} {G : List α → α → World → Prop} {Kp : World → World → Prop} {S : List α → Prop} (hseq : SeqTold (n - 1) P gf lb encs G Kp S w) (hps : ∀ x, (encs x).size = ps.size)
    (hKt : ∀ {A B C : World}, Kp A B → Kp B C → Kp A C) (hKb : ∀ (W : World) (l : Nat) (o o' : Obj), w.heap.size ≤ l → W.heap[l]? = some o → o.isCells = false → o.isWalk = false → Kp W (W.putObj l o'))
    (I : List α → World → Prop) (hI : OwnFrom w.heap.size I) (h0 : I [] w) (Ax : List α → α → Act → World → Prop) (hAx : ∀ pre x a', OwnFrom w.heap.size (fun (_ : Unit) W => Ax pre x a' W))
    (hassign : ∀ (l : Nat) (pre : List α) (x : α) (W : World) (K : Act → World → Prop), I pre W → G pre x W → (∀ a' W', KeepsFrom w.heap.size W W' → Kp W W' → I pre W' → Ax pre x a' W' → K a' W') →
      assign.wpIn (Fence.wide.inRound l) (n - 1 - 1) P (Exit.then K (fun _ _ _ => False)) { tmps := (ps.zip (encs x)).foldl (fun t (p, v) => t.setIfInBounds p v) a.tmps, defers := [] } W)
    (hbody : ∀ (l : Nat) (pre : List α) (x : α) (a' : Act) (W : World), I pre W → Ax pre x a' W → body.wpIn (Fence.wide.inRound l) (n - 1 - 1) P (toldPost w.heap.size Kp I (pre ++ [x]) W) a' W)
    (hdone : ∀ (D : Nat) (xs : List α) (W : World), w.heap.size ≤ D → S xs → I xs W → W.heap[D]? = some (.deferred (some [])) → Q .normal { a with defers := { target := .collected D, args := #[] } :: a.defers } W) :
    (Code.rangeFunc g ps assign body).wpIn Fence.wide n P Q a w := by
  refine wpIn_rangeFunc fun fn hfn => ?_
  -- the record of the loop, at each of its states
  let R : LoopState → Option Code → Obj := fun st pe => .loop { state := st, pending := pe, fn, tmps := a.tmps, params := ps, assign, body, defers := w.heap.size }
  -- the two blocks of book-keeping, and the world in which the iterator is called
  let L : Nat := w.heap.size + 1
  obtain ⟨V, hV⟩ : ∃ V, (w.alloc (.deferred (some []))).alloc (R .ready none) = V := ⟨_, rfl⟩
  have bV : Below w.heap.size w V := by rw [← hV]; exact ((Below.refl _ w).alloc (Nat.le_refl _) _).alloc (by simp) _
  have kV : V.heap[w.heap.size]? = some (.deferred (some [])) := by
    rw [← hV]; exact (Below.heap_alloc _ _ _ (by simp)).trans (World.alloc_heap_new w _)
  have lV : V.heap[L]? = some (R .ready none) := by
    rw [← hV]; have := World.alloc_heap_new (w.alloc (.deferred (some []))) (R .ready none); rwa [World.size_alloc] at this
  have iV : I [] V := by rw [← hV]; exact hI.alloc _ (hI.alloc _ h0)
  -- what holds between two rounds
  let J : List α → World → Prop := fun pre W => I pre W ∧ W.heap[w.heap.size]? = some (.deferred (some [])) ∧ W.heap[L]? = some (R .ready none)
  refine ⟨L, [{ target := .collected w.heap.size, args := #[] }], V, { target := .fn (.func gf) lb, args := #[.func (.yield L) #[] #[]] }, V, gf, #[.func (.yield L) #[] #[]] ++ lb, V,
    by rw [← hV]; exact run_enterLoop_outer _ _ _ _ _, by simp only [resolve, hg]; simp [go_sem], fun _ _ => trivial, by simp [invoke, go_sem, eg], fun _ => h1, ?_⟩
  refine (hseq L J V bV (fun pre A B ⟨i, k, l⟩ hb => ⟨hI _ _ _ none i (grown_of_below hb) (fun r e => by cases e), (hb.block _ (Array.getElem?_eq_some_iff.1 k).1).trans k, (hb.block _ (Array.getElem?_eq_some_iff.1 l).1).trans l⟩) ?round ⟨iV, kV, lV⟩).mono ?_
  case round =>
    rintro pre x W ⟨i, k, l⟩ hG
    refine ⟨fn, _, assign, body, run_yield l (hps x), roundIn_of_wpIn hfn (hassign L pre x W _ i hG fun a' U kf kp iU ax => ?_)⟩
    have kU := kf.same _ _ (Nat.le_refl _) k rfl
    have lU := kf.same _ _ (Nat.le_succ _) l rfl
    have ltU := (Array.getElem?_eq_some_iff.1 lU).1
    refine ⟨_, run_beginRound lU rfl, ?_⟩
    -- the round begins: the record is busy
    obtain ⟨U2, hU2⟩ : ∃ U2, U.putObj L (R .busy none) = U2 := ⟨_, rfl⟩
    have lU2 : U2.heap[L]? = some (R .busy none) := by rw [← hU2]; exact World.putObj_heap_same ltU
    have kU2 : U2.heap[w.heap.size]? = some (.deferred (some [])) := by rw [← hU2]; exact (World.putObj_heap_other (by omega)).trans kU
    have iU2 : I pre U2 := by rw [← hU2]; exact hI.putObj _ iU (Nat.le_succ _) lU rfl
    have aU2 : Ax pre x a' U2 := by rw [← hU2]; exact (hAx pre x a').putObj (s := ()) _ ax (Nat.le_succ _) lU rfl
    have pU2 : Kp U U2 := by rw [← hU2]; exact hKb _ _ _ _ (Nat.le_succ _) lU rfl rfl
    show body.wpIn (Fence.wide.inRound L) (n - 1 - 1) P _ a' (U.putObj L (R .busy none))
    rw [hU2]
    refine wpIn_mono (hbody L pre x a' U2 iU2 aU2) ?_
    rintro (_ | _ | _ | _ | _ | _) a3 U3 hp <;> first | exact hp.elim | skip
    obtain ⟨kf3, kp3, i3⟩ := hp
    have l3 := kf3.same _ _ (Nat.le_succ _) lU2 rfl
    have k3 := kf3.same _ _ (Nat.le_refl _) kU2 rfl
    refine ⟨_, _, run_endRound none l3, rfl, ⟨hI.putObj _ i3 (Nat.le_succ _) l3 rfl, (World.putObj_heap_other (by omega)).trans k3, World.putObj_heap_same (Array.getElem?_eq_some_iff.1 l3).1⟩, ?_⟩
    exact hKt kp (hKt pU2 (hKt kp3 (hKb _ _ _ _ (Nat.le_succ _) l3 rfl rfl)))
  · rintro e W2 ⟨⟨v, rfl⟩, xs, hS, i, k, l⟩
    exact ⟨none, _, run_endLoop l (by simp), hdone _ xs _ (Nat.le_refl _) hS (hI.putObj _ i (Nat.le_succ _) l rfl) ((World.putObj_heap_other (by omega)).trans k)⟩

end Go.Proofs.Ytbcgomimfgggnaa

namespace Go.Proofs.Ytbcgomimfgggnaa
open Go.RowKit Go.Shelf
set_option linter.unusedVariables false
set_option maxRecDepth 100000

/-- What the iterator owes: it keeps a private block R between its yields, in which its rounds do not write. -/
def SeqPriv {α : Type} (n : Nat) (P : Program) (g : Nat) (lb : Array Value) (encs : α → Array Value) (et : Nat) (bs : Nat → Prop) (xs : List α) (w : World) : Prop :=
  ∀ (l : Nat) (J : Nat → List α → World → Prop) (W : World), Below w.heap.size w W → (∀ R pre A B, J R pre A → A.grownBy B (some R) → J R pre B) →
    (∀ R pre x W1, W.heap.size ≤ R → (∃ cs, W1.heap[R]? = some (.cells cs et (0, 0))) → (pre ++ [x]) <+: xs → J R pre W1 → YieldAt Fence.wide (n - 1) P l (encs x) W1 fun e W' => e = .returned (.bool true) ∧ J R (pre ++ [x]) W' ∧ KeepB (fun b => bs b ∨ b = R) W1 W' ∧ W1.heap.size ≤ W'.heap.size) →
    (∀ R, W.heap.size ≤ R → J R [] W) → CallsIn Fence.wide n P g (#[.func (.yield l) #[] #[]] ++ lb) W fun e W' => (∃ v, e = .returned v) ∧ ∃ R, J R xs W'

theorem grownR {W W' : World} {r : Option Nat} (h : Below W.heap.size W W') : W.grownBy W' r := ⟨h.os, h.tape, h.output, h.size, fun k hk _ => h.block k hk⟩
theorem grownSet (W : World) (R i : Nat) (v : Value) : W.grownBy (W.setCell ⟨R, i, none⟩ v) (some R) :=
  ⟨rfl, rfl, rfl, by simp [World.setCell], fun k _ hk => heap_setCell_other W ⟨R, i, none⟩ k v (fun e => hk (by rw [e]))⟩
theorem ownCells {B : Nat} {w : World} {g n c : Nat} {L : List Int} (h : OwnG 2 1 B w (some ⟨g, 0, none⟩) n c (L.map (Value.int .i64))) : ∃ cs, w.heap[g]? = some (.cells cs 2 (0, 0)) := by
  rcases h.2 with ⟨hv, _⟩ | ⟨g1, cap, cur, hv, _, hh, _⟩
  · simp at hv
  · injection hv with h1
    injection h1 with h1
    injection h1 with h1
    subst h1
    exact ⟨_, hh⟩
theorem ownKeptW {B : Nat} {w w' : World} {g n c : Nat} {xs : List Value} (h : OwnG 2 1 B w (some ⟨g, 0, none⟩) n c xs) (hb : w'.heap[g]? = w.heap[g]?) (hs : w.heap.size ≤ w'.heap.size) : OwnG 2 1 B w' (some ⟨g, 0, none⟩) n c xs := by
  refine ⟨h.1, ?_⟩
  rcases h.2 with ⟨hv, h2⟩ | ⟨g1, cap, cur, hv, h3, hh, h4⟩
  · simp at hv
  · have hv' := hv
    injection hv' with h1
    injection h1 with h1
    injection h1 with h1
    subst h1
    exact .inr ⟨_, cap, cur, hv, h3, hb.trans hh, h4⟩
def mvEnc (m : Mv) : Array Value := #[mvV m]

set_option maxRecDepth 100000 in
set_option maxHeartbeats 4000000 in
theorem movesToPeg_priv (N bp ba : Nat) (hN : 1 ≤ N) (A : Option Addr) (n c : Nat) (L : List Int) (a : Int) (hA : A = none → c = 0) (hL : L.length = n) (hn : n ≤ 8) (hp : pegsOk L) (ha : 0 ≤ a ∧ a ≤ 2) (w : World) (hbp : Box w bp 28 #[.slice A n c]) (hba : Box w ba 2 #[.int .i64 a]) (hI : Ints w A L) :
    SeqPriv N Try.prog 89 #[.pointer (some ⟨bp, 0, none⟩), .pointer (some ⟨ba, 0, none⟩)] mvEnc 2 (fun b => b = bp ∨ b = ba) (wayL L a) w := by
  intro l J W hW hJ hY h0
  have hp1 := Lib.hid (hbp.below hW hbp.lt)
  have ha1 := Lib.hid (hba.below hW hba.lt)
  have HI := Lib.hid (hI.below hW)
  have HL := Lib.hid hL
  have HNA := Lib.hid hA
  clear hA
  have HP := Lib.hid hp
  clear hL hp hI
  refine callsIn_of_wp Try.func89 rfl trivial ?_ rfl
  simp only [Try.ntmps89, List.size_toArray, List.length_cons, List.length_nil, Nat.reduceAdd, Nat.reduceSub, Array.replicate_succ, Array.replicate_zero, List.push_toArray, List.append_toArray, List.nil_append, List.cons_append]
  refine wpIn_scope_once 0 (fun j a' w' => ∃ (Lc : List Int) (pre : List Mv) (R : Nat) (An : Option Addr) (cn : Nat) (u5 u6 u7 u8 u9 u10 u11 u12 u13 u14 u15 u16 u17 u18 u19 u20 u21 u22 u23 u24 u25 u26 u27 u28 u29 u30 u31 u32 u33 u34 u35 u36 u37 u38 : Value), a' = { tmps := #[.func (.yield l) #[] #[], .pointer (some ⟨bp, 0, none⟩), .pointer (some ⟨ba, 0, none⟩), undef, .slice An n cn, u5, u6, u7, u8, u9, u10, u11, u12, u13, u14, u15, u16, u17, u18, u19, u20, u21, u22, u23, u24, u25, u26, u27, u28, u29, u30, u31, u32, u33, u34, u35, u36, u37, u38], defers := [] } ∧ Hid (j = (distP Lc a).toNat) ∧ Hid (wayL L a = pre ++ wayL Lc a) ∧ Hid (Lc.length = n) ∧ Hid (pegsOk Lc) ∧ J R pre w' ∧ W.heap.size ≤ R ∧ (∀ g, An = some ⟨g, 0, none⟩ → g = R) ∧ OwnG 2 1 W.heap.size w' An n cn (Lc.map (Value.int .i64)) ∧ Box w' bp 28 #[.slice A n c] ∧ Box w' ba 2 #[.int .i64 a] ∧ W.heap.size ≤ w'.heap.size) rfl ?_ ?_
  · obtain ⟨c0, _⟩ := hp1.out.one
    gi_wp2_with fail
    refine ⟨trivial, ?_⟩
    refine (callsIn_wide.2 (cloneA_calls A n c L W HL.out (by omega) HNA.out HI.out)).mono ?_
    rintro e w1 ⟨An, cn, rfl, hO, hb⟩
    gi_wp2
    have hO' : OwnG 2 1 W.heap.size w1 An n cn (L.map (Value.int .i64)) := hO
    rcases hO'.form with ⟨rfl, h1, h2⟩ | ⟨g, rfl, hB, hg⟩
    · exact ⟨_, L, [], W.heap.size, none, cn, _, _, _, _, _, _, _, _, _, _, _, _, _, _, _, _, _, _, _, _, _, _, _, _, _, _, _, _, _, _, _, _, _, _, rfl, Lib.hid rfl, Lib.hid rfl, HL, HP, hJ _ _ _ _ (h0 _ (Nat.le_refl _)) (grownR hb), Nat.le_refl _, (fun g h => by cases h), hO', hp1.out.below hb hp1.out.lt, ha1.out.below hb ha1.out.lt, hb.size⟩
    · exact ⟨_, L, [], g, some ⟨g, 0, none⟩, cn, _, _, _, _, _, _, _, _, _, _, _, _, _, _, _, _, _, _, _, _, _, _, _, _, _, _, _, _, _, _, _, _, _, _, rfl, Lib.hid rfl, Lib.hid rfl, HL, HP, hJ _ _ _ _ (h0 _ hB) (grownR hb), hB, (fun g' h => by injection h with h; injection h with h; exact h.symm), hO', hp1.out.below hb hp1.out.lt, ha1.out.below hb ha1.out.lt, hb.size⟩
  · rintro j0 a' wr ⟨Lc, pre, R, An, cn, u5, u6, u7, u8, u9, u10, u11, u12, u13, u14, u15, u16, u17, u18, u19, u20, u21, u22, u23, u24, u25, u26, u27, u28, u29, u30, u31, u32, u33, u34, u35, u36, u37, u38, rfl, HJ0, HW, HLc, HPc, hJr, hR, hAR, hN1, hbp1, hba1, hsz⟩
    have HN := Lib.hid hN1
    obtain ⟨c1, _⟩ := hba1.one
    gi_wp2_with fail
    refine ⟨trivial, ?_⟩
    refine (callsIn_wide.2 (goalsOf_calls An n cn Lc a wr HLc.out hn (intsW HN.out) HPc.out ha)).mono ?_
    rintro e w2 ⟨g, rfl, hg, hrow, hb2⟩
    have HG := Lib.hid (own_of_row (B := wr.heap.size) hrow hg (by rw [goalsL_len]; exact HLc.out) hn)
    have HN2 := Lib.hid (OwnG.below HN.out hb2)
    have hbp2 := Lib.hid (hbp1.below hb2 hbp1.lt)
    have hba2 := Lib.hid (hba1.below hb2 hba1.lt)
    have hJ2 := hJ _ _ _ _ hJr (grownR (r := some R) hb2)
    have hs2 := hb2.size
    clear hrow hb2 HN hN1 c1 hJr hbp1 hba1
    gi_wp2
    gi_loopw [5, 6, 13] (fun _ _ i wr' => ∃ j : Nat, j ≤ n ∧ i = .int .i64 j ∧ Hid (∀ i, i < j → Lc[i]?.getD 0 = (goalsL Lc a)[i]?.getD 0) ∧ wr' = w2) (fun _ _ i _ => n - (intOf i).toNat)
    case atStart => exact ⟨0, Nat.zero_le _, rfl, Lib.hid (fun i hi => absurd hi (by omega)), rfl⟩
    case round =>
      obtain ⟨j, hj, rfl, HS, rfl⟩ := hrel
      by_cases hlt : j < n
      · obtain ⟨gn, rfl, hBn, hgnl, hcn⟩ := ownAtW HN2.out HLc.out hlt
        obtain rfl := hAR gn rfl
        obtain ⟨_, hag, hBg, hgl, hcg⟩ := ownAtW HG.out (by rw [goalsL_len]; exact HLc.out) hlt
        injection hag with hag
        injection hag with hag
        subst hag
        have hk0 : (0 : Int) ≤ (j : Int) := by omega
        have hk1 : (j : Int) < (n : Int) := by omega
        by_cases hne : Lc[j]?.getD 0 = (goalsL Lc a)[j]?.getD 0
        · have ht : (Lc[j]?.getD 0 == (goalsL Lc a)[j]?.getD 0) = true := by simpa using hne
          have HS2 := Lib.hid (show ∀ i, i < j + 1 → Lc[i]?.getD 0 = (goalsL Lc a)[i]?.getD 0 from fun i hi => by
            by_cases h : i = j
            · rw [h]; exact hne
            · exact HS.out i (by omega))
          clear hne
          gi_wp2
          go_roundw
          case rel => exact ⟨j + 1, by omega, by go_num, HS2, trivial⟩
          case measure => simp [intOf]; omega
        · have ht : (Lc[j]?.getD 0 == (goalsL Lc a)[j]?.getD 0) = false := by simpa using hne
          have HF := Lib.hid (fdW_is Lc a (by rw [HLc.out]; exact hlt) HS.out hne)
          clear hne
          have hmore := wayL_more HPc.out ha (by rw [HF.out, HLc.out]; exact hlt)
          have HMV := Lib.hid (show mvW Lc a = ((j : Int), Lc[j]?.getD 0, (goalsL Lc a)[j]?.getD 0) by unfold mvW; rw [HF.out])
          have HST := Lib.hid (show stepW Lc a = Lc.set j ((goalsL Lc a)[j]?.getD 0) by unfold stepW; rw [HF.out])
          have HW' := Lib.hid (show wayL L a = (pre ++ [((j : Int), Lc[j]?.getD 0, (goalsL Lc a)[j]?.getD 0)]) ++ wayL (stepW Lc a) a by rw [HW.out, hmore, HMV.out]; simp)
          have HLs := Lib.hid (show (stepW Lc a).length = n by rw [stepW_len]; exact HLc.out)
          have HPs := Lib.hid (stepW_pegs Lc a HPc.out ha)
          have HLT := Lib.hid (show (distP (stepW Lc a) a).toNat < j0 by
            have h1 := (fdW_lt_iff Lc a).1 (by rw [HF.out, HLc.out]; exact hlt)
            have h2 := (stepW_dist Lc a HPc.out ha h1).1
            have h3 := distP_nonneg (stepW Lc a) a
            rw [HJ0.out]
            omega)
          obtain ⟨fn, tmps, assign, body, hy, hR3⟩ := hY gn pre ((j : Int), Lc[j]?.getD 0, (goalsL Lc a)[j]?.getD 0) wr hR (ownCells HN2.out) ⟨_, HW'.out.symm⟩ hJ2
          dsimp only [mvEnc, mvV] at hy
          clear hmore
          gi_wp2
          refine hR3.mono ?_
          rintro e W3 ⟨rfl, hJ3, hk3, hs3⟩
          have HN3 := Lib.hid (ownKeptW HN2.out (hk3 _ (.inr rfl)) hs3)
          have hbp3 := Lib.hid ((hk3 _ (.inl (.inl rfl))).trans hbp2.out)
          have hba3 := Lib.hid ((hk3 _ (.inl (.inr rfl))).trans hba2.out)
          clear hcn
          obtain ⟨_, h0', _, hgnl3, hcn⟩ := ownAtW HN3.out HLc.out hlt
          injection h0' with h0'
          injection h0' with h0'
          subst h0'
          have hfz := OwnG.frozen HN3.out rfl j
          gi_wp2
          refine wpIn_goto ?_
          change _ ∧ _
          refine ⟨rfl, _, ⟨stepW Lc a, _, gn, some ⟨gn, 0, none⟩, cn, _, _, _, _, _, _, _, _, _, _, _, _, _, _, _, _, _, _, _, _, _, _, _, _, _, _, _, _, _, _, _, _, _, _, rfl, Lib.hid rfl, HW', HLs, HPs, hJ _ _ _ _ hJ3 (grownSet _ _ _ _), hR, (fun g h => by injection h with h; injection h with h; exact h.symm), ?_, ?_, ?_, ?_⟩, HLT.out⟩
          · have st := (World.ownsRow.stored HN3.out j (.int .i64 ((goalsL Lc a)[j]?.getD 0))).1
            rw [HST.out, List.map_set]
            exact st
          · exact (heap_setCell_other _ _ _ _ (by have := hbp.lt; have := hW.size; show bp ≠ gn; omega)).trans hbp3.out
          · exact (heap_setCell_other _ _ _ _ (by have := hba.lt; have := hW.size; show ba ≠ gn; omega)).trans hba3.out
          · simp [World.setCell]; omega
      · obtain rfl : j = n := by omega
        have HF := Lib.hid (fdW_all Lc a (fun i hi => HS.out i (by rw [HLc.out] at hi; exact hi)))
        have HE := Lib.hid (show pre = wayL L a by rw [HW.out, wayL_end HF.out, List.append_nil])
        gi_wp2
        simp only [Exit.jump]
        go_end0
        exact ⟨⟨_, rfl⟩, R, by rw [← HE.out]; exact hJ2⟩

end Go.Proofs.Ytbcgomimfgggnaa

namespace Go.Proofs.Ytbcgomimfgggnaa
open Go.RowKit Go.Shelf
set_option maxRecDepth 100000

/-- How a round ends: it goes on, and the private block is as it was. -/
def privPost {α : Type} (B : Nat) (bs : Nat → Prop) (I : Nat → List α → World → Prop) (R : Nat) (xs : List α) (W : World) : Exit → Act → World → Prop
  | .normal, _, W' => KeepsFrom B W W' ∧ KeepB (fun b => bs b ∨ b = R) W W' ∧ I R xs W'
  | _, _, _ => False

variable {P : Program} {n : Nat}

theorem rangeFunc_priv {α : Type} {g : Operand} {ps : Array Tmp} {assign body : Code} {Q : Exit → Act → World → Prop} {a : Act} {w : World} (h1 : 1 ≤ n) {gf : Nat} {lb : Array Value}
    (hg : a.eval g = .func (.func gf) #[] lb) (eg : ∀ args w, (callFunc gf args).run P w = .ok (.enter gf args) w)
    {encs : α → Array Value} {et : Nat} {bs : Nat → Prop} {xs : List α} (hseq : SeqPriv (n - 1) P gf lb encs et bs xs w) (hps : ∀ x, (encs x).size = ps.size) (hbs : ∀ b, bs b → b < w.heap.size)
    (I : Nat → List α → World → Prop) (hI : ∀ R, OwnFrom w.heap.size (I R)) (hIR : ∀ R pre A B, I R pre A → A.grownBy B (some R) → I R pre B) (h0 : ∀ R, w.heap.size + 2 ≤ R → I R [] w) (Ax : Nat → List α → α → Act → World → Prop) (hAx : ∀ R pre x a', OwnFrom w.heap.size (fun (_ : Unit) W => Ax R pre x a' W))
    (hassign : ∀ (l R : Nat) (pre : List α) (x : α) (W : World) (K : Act → World → Prop), w.heap.size + 2 ≤ R → (∃ cs, W.heap[R]? = some (.cells cs et (0, 0))) → (pre ++ [x]) <+: xs → I R pre W → (∀ a' W', KeepsFrom w.heap.size W W' → KeepB (fun b => bs b ∨ b = R) W W' → I R pre W' → Ax R pre x a' W' → K a' W') →
      assign.wpIn (Fence.wide.inRound l) (n - 1 - 1) P (Exit.then K (fun _ _ _ => False)) { tmps := (ps.zip (encs x)).foldl (fun t (p, v) => t.setIfInBounds p v) a.tmps, defers := [] } W)
    (hbody : ∀ (l R : Nat) (pre : List α) (x : α) (a' : Act) (W : World), w.heap.size + 2 ≤ R → (∃ cs, W.heap[R]? = some (.cells cs et (0, 0))) → (pre ++ [x]) <+: xs → I R pre W → Ax R pre x a' W → body.wpIn (Fence.wide.inRound l) (n - 1 - 1) P (privPost w.heap.size bs I R (pre ++ [x]) W) a' W)
    (hdone : ∀ (D R : Nat) (W : World), w.heap.size ≤ D → w.heap.size + 2 ≤ R → I R xs W → W.heap[D]? = some (.deferred (some [])) → Q .normal { a with defers := { target := .collected D, args := #[] } :: a.defers } W) :
    (Code.rangeFunc g ps assign body).wpIn Fence.wide n P Q a w := by
  refine wpIn_rangeFunc fun fn hfn => ?_
  -- the record of the loop, at each of its states
  let C : LoopState → Option Code → Obj := fun st pe => .loop { state := st, pending := pe, fn, tmps := a.tmps, params := ps, assign, body, defers := w.heap.size }
  -- the two blocks of book-keeping, and the world in which the iterator is called
  let L : Nat := w.heap.size + 1
  obtain ⟨V, hV⟩ : ∃ V, (w.alloc (.deferred (some []))).alloc (C .ready none) = V := ⟨_, rfl⟩
  have bV : Below w.heap.size w V := by rw [← hV]; exact ((Below.refl _ w).alloc (Nat.le_refl _) _).alloc (by simp) _
  have sV : V.heap.size = w.heap.size + 2 := by rw [← hV]; simp
  have kV : V.heap[w.heap.size]? = some (.deferred (some [])) := by
    rw [← hV]; exact (Below.heap_alloc _ _ _ (by simp)).trans (World.alloc_heap_new w _)
  have lV : V.heap[L]? = some (C .ready none) := by
    rw [← hV]; have := World.alloc_heap_new (w.alloc (.deferred (some []))) (C .ready none); rwa [World.size_alloc] at this
  have iV : ∀ R, w.heap.size + 2 ≤ R → I R [] V := by rw [← hV]; exact fun R hR => (hI R).alloc _ ((hI R).alloc _ (h0 R hR))
  -- what holds between two rounds
  let J : Nat → List α → World → Prop := fun R pre W => w.heap.size + 2 ≤ R ∧ I R pre W ∧ W.heap[w.heap.size]? = some (.deferred (some [])) ∧ W.heap[L]? = some (C .ready none)
  refine ⟨L, [{ target := .collected w.heap.size, args := #[] }], V, { target := .fn (.func gf) lb, args := #[.func (.yield L) #[] #[]] }, V, gf, #[.func (.yield L) #[] #[]] ++ lb, V,
    by rw [← hV]; exact run_enterLoop_outer _ _ _ _ _, by simp only [resolve, hg]; simp [go_sem], fun _ _ => trivial, by simp [invoke, go_sem, eg], fun _ => h1, ?_⟩
  refine (hseq L J V bV (fun R pre A B ⟨hR, i, k, l⟩ hb => ⟨hR, hIR _ _ _ _ i hb, (hb.block _ (Array.getElem?_eq_some_iff.1 k).1 (by simp; omega)).trans k, (hb.block _ (Array.getElem?_eq_some_iff.1 l).1 (by simp [L]; omega)).trans l⟩) ?round (fun R hR => ⟨by omega, iV R (by omega), kV, lV⟩)).mono ?_
  case round =>
    rintro R pre x W _ ⟨cs, hcs⟩ hpx ⟨hR, i, k, l⟩
    refine ⟨fn, _, assign, body, run_yield l (hps x), roundIn_of_wpIn hfn (hassign L R pre x W _ hR ⟨cs, hcs⟩ hpx i fun a' U kf kp iU ax => ?_)⟩
    have kU := kf.same _ _ (Nat.le_refl _) k rfl
    have lU := kf.same _ _ (Nat.le_succ _) l rfl
    have ltU := (Array.getElem?_eq_some_iff.1 lU).1
    have hKb : ∀ (A : World) (o' : Obj), KeepB (fun b => bs b ∨ b = R) A (A.putObj L o') := fun A o' b hb => World.putObj_heap_other (by
      rcases hb with hb | rfl
      · have := hbs b hb; show b ≠ w.heap.size + 1; omega
      · show b ≠ w.heap.size + 1; omega)
    refine ⟨_, run_beginRound lU rfl, ?_⟩
    -- the round begins: the record is busy
    obtain ⟨U2, hU2⟩ : ∃ U2, U.putObj L (C .busy none) = U2 := ⟨_, rfl⟩
    have lU2 : U2.heap[L]? = some (C .busy none) := by rw [← hU2]; exact World.putObj_heap_same ltU
    have kU2 : U2.heap[w.heap.size]? = some (.deferred (some [])) := by rw [← hU2]; exact (World.putObj_heap_other (by omega)).trans kU
    have iU2 : I R pre U2 := by rw [← hU2]; exact (hI R).putObj _ iU (Nat.le_succ _) lU rfl
    have aU2 : Ax R pre x a' U2 := by rw [← hU2]; exact (hAx R pre x a').putObj (s := ()) _ ax (Nat.le_succ _) lU rfl
    have pU2 : KeepB (fun b => bs b ∨ b = R) U U2 := by rw [← hU2]; exact hKb _ _
    have sU2 : U2.heap.size = U.heap.size := by rw [← hU2]; simp [World.putObj]
    show body.wpIn (Fence.wide.inRound L) (n - 1 - 1) P _ a' (U.putObj L (C .busy none))
    rw [hU2]
    refine wpIn_mono (hbody L R pre x a' U2 hR ⟨cs, (pU2 R (.inr rfl)).trans ((kp R (.inr rfl)).trans hcs)⟩ hpx iU2 aU2) ?_
    rintro (_ | _ | _ | _ | _ | _) a3 U3 hp <;> first | exact hp.elim | skip
    obtain ⟨kf3, kp3, i3⟩ := hp
    have l3 := kf3.same _ _ (Nat.le_succ _) lU2 rfl
    have k3 := kf3.same _ _ (Nat.le_refl _) kU2 rfl
    refine ⟨_, _, run_endRound none l3, rfl, ⟨hR, (hI R).putObj _ i3 (Nat.le_succ _) l3 rfl, (World.putObj_heap_other (by omega)).trans k3, World.putObj_heap_same (Array.getElem?_eq_some_iff.1 l3).1⟩, ?_, ?_⟩
    · exact keepB_t kp (keepB_t pU2 (keepB_t kp3 (hKb _ _)))
    · have h1 := kf.size
      have h2 := kf3.size
      simp [World.putObj]
      omega
  · rintro e W2 ⟨⟨v, rfl⟩, R, hR, i, k, l⟩
    exact ⟨none, _, run_endLoop l (by simp), hdone _ R _ (Nat.le_refl _) hR ((hI R).putObj _ i (Nat.le_succ _) l rfl) ((World.putObj_heap_other (by omega)).trans k)⟩

end Go.Proofs.Ytbcgomimfgggnaa

namespace Go.Proofs.Ytbcgomimfgggnaa
open Go.RowKit Go.Shelf
set_option linter.unusedVariables false
set_option maxRecDepth 100000
attribute [local go_sem] Oper.semAt_some

theorem SeqPriv.later {α : Type} {n : Nat} {P : Program} {g : Nat} {lb : Array Value} {encs : α → Array Value} {et : Nat} {bs : Nat → Prop} {xs : List α} {w w' : World} (h : SeqPriv n P g lb encs et bs xs w) (hb : Below w.heap.size w w') : SeqPriv n P g lb encs et bs xs w' :=
  fun l J W hW => h l J W (hb.trans (hW.mono hb.size))
theorem ne_cells {e size B n c g R : Nat} {w : World} {xs : List Value} {et : Nat} {cs : Array Value} (h : OwnG e size B w (some ⟨g, 0, none⟩) n c xs) (hR : w.heap[R]? = some (.cells cs et (0, 0))) (ht : e ≠ et) : g ≠ R := by
  rintro rfl
  rcases h.2 with ⟨hv, _⟩ | ⟨g1, cap, cur, hv, _, hh, _⟩
  · simp at hv
  · injection hv with h1
    injection h1 with h1
    injection h1 with h1
    subst h1
    rw [hh] at hR
    injection hR with hR
    injection hR with _ h3
    exact ht h3

set_option maxRecDepth 100000 in
set_option maxHeartbeats 4000000 in
theorem appendSeq_priv (gf : Nat) (lb : Array Value) (bs : Nat → Prop) (M : List Mv) (w : World) (eg : ∀ args w, (callFunc gf args).run Try.prog w = .ok (.enter gf args) w) (hM : M.length ≤ 255) (hbs : ∀ b, bs b → b < w.heap.size) (hseq : SeqPriv 5 Try.prog gf lb mvEnc 2 bs M w) :
    Calls Try.prog 67 #[.slice none 0 0, .func (.func gf) #[] lb] w fun e w' => ∃ A' c', e = .returned (.slice A' M.length c') ∧ OwnM w.heap.size w' A' M.length c' M ∧ Below w.heap.size w w' := by
  obtain ⟨i0, hi, hz0, hz1, hz2⟩ := info_parts Try.infoM
  refine (callsIn_wide (n := 6)).1 ?_
  refine callsIn_of_wp_marks Try.func67 rfl trivial ?_ rfl
  simp only [Try.ntmps67, List.size_toArray, List.length_cons, List.length_nil, Nat.reduceAdd, Nat.reduceSub, Array.replicate_succ, Array.replicate_zero, List.push_toArray, List.append_toArray, List.nil_append, List.cons_append]
  gi_wp2_with fail
  have bM := Boxed.new w 36 (.slice none 0 0)
  have hB0 : Below w.heap.size w (w.alloc (.cells #[.slice none 0 0] 36)) := (Below.refl _ _).alloc (Nat.le_refl _) _
  have hsz : (w.alloc (.cells #[.slice none 0 0] 36)).heap.size = w.heap.size + 1 := by simp
  have hseq0 := hseq.later hB0
  generalize w.alloc (.cells #[.slice none 0 0] 36) = W0 at *
  refine rangeFunc_priv (by omega) (gf := gf) (lb := lb) rfl eg hseq0 (fun _ => rfl) (fun b hb => by have := hbs b hb; omega)
    (fun R pre W => (∃ v, Boxed W w.heap.size 36 v ∧ W.ownsRow w.heap.size 69 3 v pre.length (mvCells pre) ∧ v.ownBlock ≠ some R) ∧ Below w.heap.size w W ∧ w.heap.size + 1 ≤ W.heap.size ∧ w.heap.size + 3 ≤ R)
    (fun R => OwnFrom.and (Own.from (holdsRow_own w.heap.size w.heap.size 36 69 3 (fun pre : List Mv => pre.length) (fun pre => mvCells pre) (fun _ v => v.ownBlock ≠ some R)) _) (OwnFrom.and (ownFrom_below (Nat.le_refl _) (by omega)) (OwnFrom.and (ownFrom_size _ _) (fun _ _ _ _ hs _ _ => hs))))
    ?grow
    (fun R hR => ⟨⟨_, bM, World.ownsRow_nil _ _ _ _, by simp [Value.ownBlock]⟩, hB0, by omega, by omega⟩)
    (fun R pre x a' W => ∃ Bx, w.heap.size < Bx ∧ Box W Bx 69 #[.int .i64 x.1, .int .i64 x.2.1, .int .i64 x.2.2] ∧ a' = { tmps := #[.slice none 0 0, .func (.func gf) #[] lb, .pointer (some ⟨w.heap.size, 0, none⟩), undef, .slice none 0 0, .pointer (some ⟨Bx, 0, none⟩), .func (.func gf) #[] lb, mvV x, undef, undef, undef, undef, undef], defers := [] })
    (fun R pre x a' _ X Y row hs hg hr => by obtain ⟨Bx, h1, h2, h3⟩ := hs; exact ⟨Bx, h1, box_own Bx 69 _ () X Y row h2 hg (fun r e => (hr r e).2), h3⟩)
    ?assign ?body ?done
  case grow =>
    rintro R pre A B ⟨⟨v, hv, hrow, hne⟩, hB, hW, hR⟩ hg
    refine ⟨⟨v, hv.kept hg (by simp; omega), hrow.kept hg (.inr hne), hne⟩, hB.grown hg hB.size (fun k hk => by injection hk with hk; omega), Nat.le_trans hW hg.size, hR⟩
  case assign =>
    rintro l R pre x W K hR ⟨cs, hcs⟩ hpx ⟨⟨v, hv, hrow, hne⟩, hB, hW, hR3⟩ hK
    have hlt := hv.lt
    have hle := hB.size
    have hRl : R < W.heap.size := (Array.getElem?_eq_some_iff.1 hcs).1
    obtain ⟨x1, x2, x3⟩ := x
    dsimp only [mvEnc, mvV] at hK ⊢
    gi_wp2
    exact hK _ _ ((KeepsOthers.alloc _ _).from _) (keepB_below ((Below.refl W.heap.size W).alloc (Nat.le_refl _) _) (fun b hb => by
      rcases hb with hb | rfl
      · have := hbs b hb; omega
      · exact hRl)) ⟨⟨v, hv.alloc _, hrow.alloc _, hne⟩, hB.alloc hle _, by simp; omega, hR3⟩ ⟨W.heap.size, by omega, Box.new W 69 _, rfl⟩
  case body =>
    rintro l R pre x a' W hR ⟨cs, hcs⟩ hpx ⟨⟨v, hv, hrow, hne⟩, hB, hW, hR3⟩ ⟨Bx, hBx, bX, rfl⟩
    obtain ⟨A', c', rfl⟩ := ownG_shape hrow
    have hRl : R < W.heap.size := (Array.getElem?_eq_some_iff.1 hcs).1
    have hle := hB.size
    have HN := Lib.hid (show ∀ b, (bs b ∨ b = R) → b < W.heap.size ∧ some b ≠ (Value.slice A' pre.length c').ownBlock ∧ b ≠ w.heap.size from fun b hb => by
      rcases hb with hb | rfl
      · have h1 := hbs b hb
        exact ⟨by omega, fun e => by have := ows_bk hrow b e.symm; omega, by omega⟩
      · exact ⟨hRl, fun e => hne e.symm, by omega⟩)
    have hlen : pre.length < 256 := by
      have := hpx.length_le
      simp at this
      omega
    obtain ⟨x1, x2, x3⟩ := x
    dsimp only [mvV] at bX ⊢
    have hc := hv.cell
    obtain ⟨m0, m1, m2⟩ := bX.three
    clear hpx
    gi_wp2_with (gi_at_builtin; refine wpListIn_append_own _ rfl _ _ 36 rfl w.heap.size 69 i0 (.agg #[.int .i64 0, .int .i64 0, .int .i64 0]) 3 24 Try.underlying36 hi hz0 hz1 hz2 rfl (by decide) _ _ _ rfl (hrow.alloc _) ⟨W.heap.size, 0, none⟩ 1 1 [.int .i64 x1, .int .i64 x2, .int .i64 x3] rfl rfl (World.news_of_block (cs := #[.int .i64 x1, .int .i64 x2, .int .i64 x3]) (t := 69) (fr := (0, 0)) (heap_alloc_new W _)) (by simp [Value.oneCell']) (by unfold maxLen; omega) (by omega) (by simp; omega) ?_; intro v' w2 hown' hgrow _; obtain ⟨g', cap', rfl⟩ := ownsRow_succ hown'; obtain ⟨hv1, hv2, hr2, hk2, hb2⟩ := hv.appended (by decide) hrow hle (by omega) hown' hgrow; have hc1 := hv1.cell; have hf1 := hv1.frozen; have hK2 := Lib.hid (keepB_appended (u := .slice (some ⟨g', 0, none⟩) (pre.length + 1) cap') (B := w.heap.size) hgrow HN.out); have hgs := hgrow.size)
    refine ⟨hk2.from _, hK2.out, ⟨⟨_, hv2, ?_, ?_⟩, hB.trans hb2, ?_, hR3⟩⟩
    · rw [List.length_append, mvCells_snoc]
      exact hr2
    · have h1 := ne_cells hr2 ((hK2.out R (.inr rfl)).trans hcs) (by decide)
      simpa [Value.ownBlock] using h1
    · simp at hgs ⊢
      omega
  case done =>
    rintro D R W hD hR ⟨⟨v, hv, hrow, _⟩, hB, hW, hR3⟩ hK
    have hc := hv.cell
    obtain ⟨A', c', rfl⟩ := ownG_shape hrow
    gi_wp2
    refine ⟨by simp, .inl ⟨_, _, rfl, run_takeDeferred hK, ?_⟩⟩
    refine ⟨_, results_tmp rfl _ _ _, A', c', rfl, ownsRow_putObj hrow _ hK rfl, hB.trans (belowK_b (w := w) (Nat.le_refl _) W D _ _ (by omega) hK rfl rfl)⟩

theorem collect_priv (gf : Nat) (lb : Array Value) (bs : Nat → Prop) (M : List Mv) (w : World) (eg : ∀ args w, (callFunc gf args).run Try.prog w = .ok (.enter gf args) w) (hM : M.length ≤ 255) (hbs : ∀ b, bs b → b < w.heap.size) (hseq : SeqPriv 5 Try.prog gf lb mvEnc 2 bs M w) :
    Calls Try.prog 43 #[.func (.func gf) #[] lb] w fun e w' => ∃ A' c', e = .returned (.slice A' M.length c') ∧ OwnM w.heap.size w' A' M.length c' M ∧ Below w.heap.size w w' := by
  go_enter Try.func43, Try.ntmps43
  go_wp2_with fail
  refine (appendSeq_priv gf lb bs M _ eg hM hbs hseq).mono ?_
  rintro e w1 ⟨A', c', rfl, hO, hb⟩
  go_wp2
  go_ret
  exact ⟨A', c', rfl, hO, hb⟩

end Go.Proofs.Ytbcgomimfgggnaa

namespace Go.Proofs.Ytbcgomimfgggnaa
open Go.RowKit Go.Shelf
set_option linter.unusedVariables false

/-- The blocks S are the iterator's own: no elder than the world W0, there in W, of types that tp allows. -/
def OwnedBy (tp : Nat → Prop) (S : Nat → Prop) (B : Nat) (W : World) : Prop := ∀ b, S b → B ≤ b ∧ ∃ cs t, tp t ∧ W.heap[b]? = some (.cells cs t (0, 0))
theorem OwnedBy.lt {tp S : Nat → Prop} {B : Nat} {W : World} (h : OwnedBy tp S B W) : ∀ b, S b → b < W.heap.size := by
  intro b hb
  obtain ⟨_, cs, t, _, h2⟩ := h b hb
  exact (Array.getElem?_eq_some_iff.1 h2).1
theorem OwnedBy.keepB {tp S : Nat → Prop} {B : Nat} {W W' : World} (h : OwnedBy tp S B W) (hk : ∀ b, S b → W'.heap[b]? = W.heap[b]?) : OwnedBy tp S B W' := by
  intro b hb
  obtain ⟨h1, cs, t, h2, h3⟩ := h b hb
  exact ⟨h1, cs, t, h2, (hk b hb).trans h3⟩

/-- What the iterator owes: it keeps blocks S of its own, in which its rounds do not write; it writes into them between its yields, and takes new ones. -/
def SeqOwn {α : Type} (n : Nat) (P : Program) (g : Nat) (lb : Array Value) (encs : α → Array Value) (tp bs : Nat → Prop) (xs : List α) (w : World) : Prop :=
  ∀ (l : Nat) (J : (Nat → Prop) → List α → World → Prop) (W : World), Below w.heap.size w W → (∀ S, OwnFrom W.heap.size (J S)) →
    (∀ S pre A B b, W.heap.size ≤ b → S b → J S pre A → A.grownBy B (some b) → J S pre B) →
    (∀ (S S' : Nat → Prop) pre A, J S pre A → (∀ b, S' b → S b ∨ A.heap.size ≤ b) → J S' pre A) →
    (∀ S pre x W1, OwnedBy tp S W.heap.size W1 → (pre ++ [x]) <+: xs → J S pre W1 → YieldAt Fence.wide (n - 1) P l (encs x) W1 fun e W' => e = .returned (.bool true) ∧ J S (pre ++ [x]) W' ∧ KeepB (fun b => bs b ∨ S b) W1 W' ∧ KeepsFrom W.heap.size W1 W') →
    J (fun _ => False) [] W → CallsIn Fence.wide n P g (#[.func (.yield l) #[] #[]] ++ lb) W fun e W' => (∃ v, e = .returned v) ∧ ∃ S, J S xs W'
theorem SeqOwn.later {α : Type} {n : Nat} {P : Program} {g : Nat} {lb : Array Value} {encs : α → Array Value} {tp bs : Nat → Prop} {xs : List α} {w w' : World} (h : SeqOwn n P g lb encs tp bs xs w) (hb : Below w.heap.size w w') : SeqOwn n P g lb encs tp bs xs w' :=
  fun l J W hW => h l J W (hb.trans (hW.mono hb.size))
theorem SeqPriv.own {α : Type} {n : Nat} {P : Program} {g : Nat} {lb : Array Value} {encs : α → Array Value} {et : Nat} {tp bs : Nat → Prop} {xs : List α} {w : World} (h : SeqPriv n P g lb encs et bs xs w) (htp : tp et) : SeqOwn n P g lb encs tp bs xs w :=
  fun l J W hW c1 c2 c3 hY h0 => by
  refine (h l (fun R pre A => W.heap.size ≤ R ∧ J (fun b => b = R) pre A) W hW ?_ ?_ ?_).mono ?_
  · rintro R pre A B ⟨hR, hj⟩ hg
    exact ⟨hR, c2 _ pre A B R hR rfl hj hg⟩
  · rintro R pre x W1 hR ⟨cs, hcs⟩ hpx ⟨_, hj⟩
    obtain ⟨fn, tmps, assign, body, hy, hRr⟩ := hY (fun b => b = R) pre x W1 (by rintro b rfl; exact ⟨hR, cs, et, htp, hcs⟩) hpx hj
    exact ⟨fn, tmps, assign, body, hy, hRr.mono (by rintro e W' ⟨rfl, h1, h2, h3⟩; exact ⟨rfl, ⟨hR, h1⟩, h2, h3.size⟩)⟩
  · intro R hR
    exact ⟨hR, c3 _ _ [] W h0 (by rintro b rfl; exact .inr hR)⟩
  · rintro e W' ⟨hv, R, _, hj⟩
    exact ⟨hv, _, hj⟩
theorem ownG_ltS {e size B n : Nat} {w : World} {v : Value} {xs : List Value} (h : w.ownsRow B e size v n xs) : ∀ b, v.ownBlock = some b → b < w.heap.size := fun b hb => by
  obtain ⟨A, c, rfl⟩ := ownG_shape h
  rcases OwnG.form h with ⟨rfl, _⟩ | ⟨g, rfl, _, hlt⟩
  · cases hb
  · have hb' : some g = some b := hb
    injection hb' with hb'
    omega

/-- How a round ends: it goes on. -/
def heldPost {α : Type} (B : Nat) (bs S : Nat → Prop) (I : List α → World → Prop) (xs : List α) (W : World) : Exit → Act → World → Prop
  | .normal, _, W' => KeepsFrom B W W' ∧ KeepB (fun b => bs b ∨ S b) W W' ∧ I xs W'
  | _, _, _ => False

variable {P : Program} {n : Nat}

theorem rangeFunc_own {α : Type} {g : Operand} {ps : Array Tmp} {assign body : Code} {Q : Exit → Act → World → Prop} {a : Act} {w : World} (h1 : 1 ≤ n) {gf : Nat} {lb : Array Value}
    (hg : a.eval g = .func (.func gf) #[] lb) (eg : ∀ args w, (callFunc gf args).run P w = .ok (.enter gf args) w)
    {encs : α → Array Value} {tp bs : Nat → Prop} {xs : List α} (hseq : SeqOwn (n - 1) P gf lb encs tp bs xs w) (hps : ∀ x, (encs x).size = ps.size) (hbs : ∀ b, bs b → b < w.heap.size)
    (I : (Nat → Prop) → List α → World → Prop) (hI : ∀ S, OwnFrom w.heap.size (I S)) (hI2 : ∀ S pre A B b, w.heap.size + 2 ≤ b → S b → I S pre A → A.grownBy B (some b) → I S pre B) (hI3 : ∀ (S S' : Nat → Prop) pre A, I S pre A → (∀ b, S' b → S b ∨ A.heap.size ≤ b) → I S' pre A) (h0 : I (fun _ => False) [] w) (Ax : (Nat → Prop) → List α → α → Act → World → Prop) (hAx : ∀ S pre x a', OwnFrom w.heap.size (fun (_ : Unit) W => Ax S pre x a' W))
    (hassign : ∀ (l : Nat) (S : Nat → Prop) (pre : List α) (x : α) (W : World) (K : Act → World → Prop), OwnedBy tp S (w.heap.size + 2) W → (pre ++ [x]) <+: xs → I S pre W → (∀ a' W', KeepsFrom w.heap.size W W' → KeepB (fun b => bs b ∨ S b) W W' → I S pre W' → Ax S pre x a' W' → K a' W') →
      assign.wpIn (Fence.wide.inRound l) (n - 1 - 1) P (Exit.then K (fun _ _ _ => False)) { tmps := (ps.zip (encs x)).foldl (fun t (p, v) => t.setIfInBounds p v) a.tmps, defers := [] } W)
    (hbody : ∀ (l : Nat) (S : Nat → Prop) (pre : List α) (x : α) (a' : Act) (W : World), OwnedBy tp S (w.heap.size + 2) W → (pre ++ [x]) <+: xs → I S pre W → Ax S pre x a' W → body.wpIn (Fence.wide.inRound l) (n - 1 - 1) P (heldPost w.heap.size bs S (I S) (pre ++ [x]) W) a' W)
    (hdone : ∀ (D : Nat) (S : Nat → Prop) (W : World), w.heap.size ≤ D → I S xs W → W.heap[D]? = some (.deferred (some [])) → Q .normal { a with defers := { target := .collected D, args := #[] } :: a.defers } W) :
    (Code.rangeFunc g ps assign body).wpIn Fence.wide n P Q a w := by
  refine wpIn_rangeFunc fun fn hfn => ?_
  let R : LoopState → Option Code → Obj := fun st pe => .loop { state := st, pending := pe, fn, tmps := a.tmps, params := ps, assign, body, defers := w.heap.size }
  let L : Nat := w.heap.size + 1
  obtain ⟨V, hV⟩ : ∃ V, (w.alloc (.deferred (some []))).alloc (R .ready none) = V := ⟨_, rfl⟩
  have bV : Below w.heap.size w V := by rw [← hV]; exact ((Below.refl _ w).alloc (Nat.le_refl _) _).alloc (by simp) _
  have sV : V.heap.size = w.heap.size + 2 := by rw [← hV]; simp
  have kV : V.heap[w.heap.size]? = some (.deferred (some [])) := by
    rw [← hV]; exact (Below.heap_alloc _ _ _ (by simp)).trans (World.alloc_heap_new w _)
  have lV : V.heap[L]? = some (R .ready none) := by
    rw [← hV]; have := World.alloc_heap_new (w.alloc (.deferred (some []))) (R .ready none); rwa [World.size_alloc] at this
  have iV : I (fun _ => False) [] V := by rw [← hV]; exact (hI _).alloc _ ((hI _).alloc _ h0)
  let J : (Nat → Prop) → List α → World → Prop := fun S pre W => I S pre W ∧ W.heap[w.heap.size]? = some (.deferred (some [])) ∧ W.heap[L]? = some (R .ready none)
  refine ⟨L, [{ target := .collected w.heap.size, args := #[] }], V, { target := .fn (.func gf) lb, args := #[.func (.yield L) #[] #[]] }, V, gf, #[.func (.yield L) #[] #[]] ++ lb, V,
    by rw [← hV]; exact run_enterLoop_outer _ _ _ _ _, by simp only [resolve, hg]; simp [go_sem], fun _ _ => trivial, by simp [invoke, go_sem, eg], fun _ => h1, ?_⟩
  refine (hseq L J V bV (fun S s A B row ⟨i, k, l⟩ hg' hr => ?_) (fun S pre A B b hb hS ⟨i, k, l⟩ hg' => ⟨hI2 S pre A B b (by omega) hS i hg', (hg'.block _ (Array.getElem?_eq_some_iff.1 k).1 (fun e => by injection e with e; omega)).trans k, (hg'.block _ (Array.getElem?_eq_some_iff.1 l).1 (fun e => by injection e with e; show False; omega)).trans l⟩) (fun S S' pre A ⟨i, k, l⟩ h => ⟨hI3 S S' pre A i h, k, l⟩) ?round ⟨iV, kV, lV⟩).mono ?_
  · have hr' : ∀ r, row = some r → w.heap.size ≤ r ∧ ∃ o : Obj, A.heap[r]? = some o ∧ o.isCells = false := fun r e => by
      obtain ⟨h1, h2⟩ := hr r e
      exact ⟨by omega, h2⟩
    refine ⟨hI S s A B row i hg' hr', ?_, ?_⟩
    · exact (hg'.block _ (Array.getElem?_eq_some_iff.1 k).1 (fun e => by have := (hr _ e.symm).1; omega)).trans k
    · exact (hg'.block _ (Array.getElem?_eq_some_iff.1 l).1 (fun e => by have := (hr _ e.symm).1; show False; omega)).trans l
  case round =>
    rintro S pre x W hOw hpx ⟨i, k, l⟩
    rw [sV] at hOw
    have hKb : ∀ (U : World) (o o' : Obj), U.heap[L]? = some o → KeepB (fun b => bs b ∨ S b) U (U.putObj L o') := by
      intro U o o' h b hb
      refine World.putObj_heap_other ?_
      rcases hb with hb | hb
      · have := hbs b hb; show b ≠ L; omega
      · have := (hOw b hb).1; show b ≠ L; omega
    refine ⟨fn, _, assign, body, run_yield l (hps x), roundIn_of_wpIn hfn (hassign L S pre x W _ hOw hpx i fun a' U kf kp iU ax => ?_)⟩
    have kU := kf.same _ _ (Nat.le_refl _) k rfl
    have lU := kf.same _ _ (Nat.le_succ _) l rfl
    have ltU := (Array.getElem?_eq_some_iff.1 lU).1
    refine ⟨_, run_beginRound lU rfl, ?_⟩
    obtain ⟨U2, hU2⟩ : ∃ U2, U.putObj L (R .busy none) = U2 := ⟨_, rfl⟩
    have lU2 : U2.heap[L]? = some (R .busy none) := by rw [← hU2]; exact World.putObj_heap_same ltU
    have kU2 : U2.heap[w.heap.size]? = some (.deferred (some [])) := by rw [← hU2]; exact (World.putObj_heap_other (by show w.heap.size ≠ L; omega)).trans kU
    have iU2 : I S pre U2 := by rw [← hU2]; exact (hI S).putObj _ iU (Nat.le_succ _) lU rfl
    have aU2 : Ax S pre x a' U2 := by rw [← hU2]; exact (hAx S pre x a').putObj (s := ()) _ ax (Nat.le_succ _) lU rfl
    have pU2 : KeepB (fun b => bs b ∨ S b) U U2 := by rw [← hU2]; exact hKb _ _ _ lU
    have hO2 : OwnedBy tp S (w.heap.size + 2) U2 := (hOw.keepB (fun b hb => kp b (.inr hb))).keepB (fun b hb => pU2 b (.inr hb))
    show body.wpIn (Fence.wide.inRound L) (n - 1 - 1) P _ a' (U.putObj L (R .busy none))
    rw [hU2]
    refine wpIn_mono (hbody L S pre x a' U2 hO2 hpx iU2 aU2) ?_
    rintro (_ | _ | _ | _ | _ | _) a3 U3 hp <;> first | exact hp.elim | skip
    obtain ⟨kf3, kp3, i3⟩ := hp
    have l3 := kf3.same _ _ (Nat.le_succ _) lU2 rfl
    have k3 := kf3.same _ _ (Nat.le_refl _) kU2 rfl
    refine ⟨_, _, run_endRound none l3, rfl, ⟨(hI S).putObj _ i3 (Nat.le_succ _) l3 rfl, (World.putObj_heap_other (by show w.heap.size ≠ L; omega)).trans k3, World.putObj_heap_same (Array.getElem?_eq_some_iff.1 l3).1⟩, keepB_t kp (keepB_t pU2 (keepB_t kp3 (hKb _ _ _ l3))), ?_⟩
    have hp : ∀ (U : World) (o o' : Obj), U.heap[L]? = some o → KeepsFrom V.heap.size U (U.putObj L o') := fun U o o' h => ⟨by simp, fun j o2 hj ho _ => (World.putObj_heap_other (by rw [sV] at hj; show j ≠ L; omega)).trans ho⟩
    have hm : ∀ {X Y : World}, KeepsFrom w.heap.size X Y → KeepsFrom V.heap.size X Y := fun h => ⟨h.size, fun j o hj => h.same j o (by rw [sV] at hj; omega)⟩
    exact (hm kf).trans (((by rw [← hU2]; exact hp _ _ _ lU) : KeepsFrom V.heap.size U U2).trans ((hm kf3).trans (hp _ _ _ l3)))
  · rintro e W2 ⟨⟨v, rfl⟩, S, i, k, l⟩
    exact ⟨none, _, run_endLoop l (by simp), hdone _ S _ (Nat.le_refl _) ((hI S).putObj _ i (Nat.le_succ _) l rfl) ((World.putObj_heap_other (by show w.heap.size ≠ L; omega)).trans k)⟩

attribute [local go_sem] Oper.semAt_some

set_option maxRecDepth 100000 in
set_option maxHeartbeats 4000000 in
theorem appendSeq_own (gf : Nat) (lb : Array Value) (tp bs : Nat → Prop) (encs : Mv → Array Value) (hen : ∀ x, encs x = mvEnc x) (M : List Mv) (w : World) (eg : ∀ args w, (callFunc gf args).run Try.prog w = .ok (.enter gf args) w) (hM : M.length ≤ 1000) (hbs : ∀ b, bs b → b < w.heap.size) (hseq : SeqOwn 5 Try.prog gf lb encs tp bs M w) :
    Calls Try.prog 67 #[.slice none 0 0, .func (.func gf) #[] lb] w fun e w' => ∃ A' c', e = .returned (.slice A' M.length c') ∧ OwnM w.heap.size w' A' M.length c' M ∧ Below w.heap.size w w' := by
  obtain ⟨i0, hi, hz0, hz1, hz2⟩ := info_parts Try.infoM
  refine (callsIn_wide (n := 6)).1 ?_
  refine callsIn_of_wp_marks Try.func67 rfl trivial ?_ rfl
  simp only [Try.ntmps67, List.size_toArray, List.length_cons, List.length_nil, Nat.reduceAdd, Nat.reduceSub, Array.replicate_succ, Array.replicate_zero, List.push_toArray, List.append_toArray, List.nil_append, List.cons_append]
  gi_wp2_with fail
  have bM := Boxed.new w 36 (.slice none 0 0)
  have hB0 : Below w.heap.size w (w.alloc (.cells #[.slice none 0 0] 36)) := (Below.refl _ _).alloc (Nat.le_refl _) _
  have hsz : (w.alloc (.cells #[.slice none 0 0] 36)).heap.size = w.heap.size + 1 := by simp
  have hseq0 := hseq.later hB0
  generalize w.alloc (.cells #[.slice none 0 0] 36) = W0 at *
  refine rangeFunc_own (by omega) (gf := gf) (lb := lb) rfl eg hseq0 (fun x => by rw [hen]; rfl) (fun b hb => by have := hbs b hb; omega)
    (fun S pre W => (∃ v, Boxed W w.heap.size 36 v ∧ W.ownsRow w.heap.size 69 3 v pre.length (mvCells pre) ∧ ∀ b, S b → v.ownBlock ≠ some b) ∧ Below w.heap.size w W ∧ w.heap.size + 1 ≤ W.heap.size)
    (fun S => OwnFrom.and (Own.from (holdsRow_own w.heap.size w.heap.size 36 69 3 (fun pre : List Mv => pre.length) (fun pre => mvCells pre) (fun _ v => ∀ b, S b → v.ownBlock ≠ some b)) _) (OwnFrom.and (ownFrom_below (Nat.le_refl _) (by omega)) (ownFrom_size _ _)))
    (fun S pre A B b hb hS ⟨⟨v, hv, hrow, hne⟩, hB, hW⟩ hg => ⟨⟨v, hv.kept hg (by simp; omega), hrow.kept hg (.inr (hne b hS)), hne⟩, hB.grown hg hB.size (fun k hk => by injection hk with hk; omega), Nat.le_trans hW hg.size⟩)
    (fun S S' pre A ⟨⟨v, hv, hrow, hne⟩, hB, hW⟩ h => ⟨⟨v, hv, hrow, fun b hb => by
      rcases h b hb with h1 | h1
      · exact hne b h1
      · intro e
        have h2 := ownG_ltS hrow b e
        omega⟩, hB, hW⟩)
    ⟨⟨_, bM, World.ownsRow_nil _ _ _ _, by simp [Value.ownBlock]⟩, hB0, by omega⟩
    (fun S pre x a' W => ∃ Bx, w.heap.size < Bx ∧ Box W Bx 69 #[.int .i64 x.1, .int .i64 x.2.1, .int .i64 x.2.2] ∧ a' = { tmps := #[.slice none 0 0, .func (.func gf) #[] lb, .pointer (some ⟨w.heap.size, 0, none⟩), undef, .slice none 0 0, .pointer (some ⟨Bx, 0, none⟩), .func (.func gf) #[] lb, mvV x, undef, undef, undef, undef, undef], defers := [] })
    (fun S pre x a' _ X Y row hs hg hr => by obtain ⟨Bx, h1, h2, h3⟩ := hs; exact ⟨Bx, h1, box_own Bx 69 _ () X Y row h2 hg (fun r e => (hr r e).2), h3⟩)
    ?assign ?body ?done
  case assign =>
    rintro l S pre x W K hOw hpx ⟨⟨v, hv, hrow, hne⟩, hB, hW⟩ hK
    have hlt := hv.lt
    have hle := hB.size
    obtain ⟨x1, x2, x3⟩ := x
    rw [hen]
    dsimp only [mvEnc, mvV] at hK ⊢
    gi_wp2
    exact hK _ _ ((KeepsOthers.alloc _ _).from _) (keepB_below ((Below.refl W.heap.size W).alloc (Nat.le_refl _) _) (fun b hb => by
      rcases hb with hb | hb
      · have := hbs b hb; omega
      · exact hOw.lt b hb)) ⟨⟨v, hv.alloc _, hrow.alloc _, hne⟩, hB.alloc hle _, by simp; omega⟩ ⟨W.heap.size, by omega, Box.new W 69 _, rfl⟩
  case body =>
    rintro l S pre x a' W hOw hpx ⟨⟨v, hv, hrow, hne⟩, hB, hW⟩ ⟨Bx, hBx, bX, rfl⟩
    obtain ⟨A', c', rfl⟩ := ownG_shape hrow
    have hle := hB.size
    have HOw := Lib.hid hOw
    have HN := Lib.hid (show ∀ b, (bs b ∨ S b) → b < W.heap.size ∧ some b ≠ (Value.slice A' pre.length c').ownBlock ∧ b ≠ w.heap.size from fun b hb => by
      rcases hb with hb | hb
      · have h1 := hbs b hb
        exact ⟨by omega, fun e => by have := ows_bk hrow b e.symm; omega, by omega⟩
      · have h1 := hOw b hb
        exact ⟨hOw.lt b hb, fun e => hne b hb e.symm, by have := h1.1; omega⟩)
    have hlen : pre.length < 1001 := by
      have := hpx.length_le
      simp at this
      omega
    obtain ⟨x1, x2, x3⟩ := x
    dsimp only [mvV] at bX ⊢
    have hc := hv.cell
    obtain ⟨m0, m1, m2⟩ := bX.three
    clear hpx hOw
    gi_wp2_with (gi_at_builtin; refine wpListIn_append_own_at _ rfl _ _ 36 rfl w.heap.size 69 i0 (.agg #[.int .i64 0, .int .i64 0, .int .i64 0]) 3 24 Try.underlying36 hi hz0 hz1 hz2 rfl (by decide) _ _ _ rfl (hrow.alloc _) ⟨W.heap.size, 0, none⟩ 1 1 [.int .i64 x1, .int .i64 x2, .int .i64 x3] rfl rfl (World.news_of_block (cs := #[.int .i64 x1, .int .i64 x2, .int .i64 x3]) (t := 69) (fr := (0, 0)) (heap_alloc_new W _)) (by simp [Value.oneCell']) (by unfold maxLen; omega) (by omega) (by simp; omega) ?_; intro v' w2 hown' hgrow _ hat; obtain ⟨g', cap', rfl⟩ := ownsRow_succ hown'; have HAT := Lib.hid hat; clear hat; obtain ⟨hv1, hv2, hr2, hk2, hb2⟩ := hv.appended (by decide) hrow hle (by omega) hown' hgrow; have hc1 := hv1.cell; have hf1 := hv1.frozen; have hK2 := Lib.hid (keepB_appended (u := .slice (some ⟨g', 0, none⟩) (pre.length + 1) cap') (B := w.heap.size) hgrow HN.out); have hgs := hgrow.size)
    refine ⟨hk2.from _, hK2.out, ⟨⟨_, hv2, ?_, ?_⟩, hB.trans hb2, ?_⟩⟩
    · rw [List.length_append, mvCells_snoc]
      exact hr2
    · intro b hb
      obtain ⟨_, cs, t, h2, h3⟩ := HOw.out b hb
      have hlt := (Array.getElem?_eq_some_iff.1 h3).1
      intro e
      rcases HAT.out with h | h
      · exact hne b hb (h.symm.trans e)
      · have h' := h.symm.trans e
        rw [World.size_alloc] at h'
        injection h' with h'
        omega
    · simp at hgs ⊢
      omega
  case done =>
    rintro D S W hD ⟨⟨v, hv, hrow, _⟩, hB, hW⟩ hK
    have hc := hv.cell
    obtain ⟨A', c', rfl⟩ := ownG_shape hrow
    gi_wp2
    refine ⟨by simp, .inl ⟨_, _, rfl, run_takeDeferred hK, ?_⟩⟩
    refine ⟨_, results_tmp rfl _ _ _, A', c', rfl, ownsRow_putObj hrow _ hK rfl, hB.trans (belowK_b (w := w) (Nat.le_refl _) W D _ _ (by omega) hK rfl rfl)⟩

theorem collect_own (gf : Nat) (lb : Array Value) (tp bs : Nat → Prop) (encs : Mv → Array Value) (hen : ∀ x, encs x = mvEnc x) (M : List Mv) (w : World) (eg : ∀ args w, (callFunc gf args).run Try.prog w = .ok (.enter gf args) w) (hM : M.length ≤ 1000) (hbs : ∀ b, bs b → b < w.heap.size) (hseq : SeqOwn 5 Try.prog gf lb encs tp bs M w) :
    Calls Try.prog 43 #[.func (.func gf) #[] lb] w fun e w' => ∃ A' c', e = .returned (.slice A' M.length c') ∧ OwnM w.heap.size w' A' M.length c' M ∧ Below w.heap.size w w' := by
  go_enter Try.func43, Try.ntmps43
  go_wp2_with fail
  refine (appendSeq_own gf lb tp bs encs hen M _ eg hM hbs hseq).mono ?_
  rintro e w1 ⟨A', c', rfl, hO, hb⟩
  go_wp2
  go_ret
  exact ⟨A', c', rfl, hO, hb⟩


end Go.Proofs.Ytbcgomimfgggnaa

namespace Go.Proofs.Ytbcgomimfgggnaa
open Go.RowKit
set_option linter.unusedVariables false
set_option maxRecDepth 100000

/-- The list with its first i elements and its last i exchanged. -/
def rvN (L : List Mv) (i : Nat) : List Mv := (List.range L.length).map (fun k => if k < i ∨ L.length - 1 - k < i then L[L.length - 1 - k]?.getD (0, 0, 0) else L[k]?.getD (0, 0, 0))
theorem rvN_len (L : List Mv) (i : Nat) : (rvN L i).length = L.length := by simp [rvN]
theorem rvN_get {L : List Mv} {i k : Nat} (hk : k < L.length) : (rvN L i)[k]? = some (if k < i ∨ L.length - 1 - k < i then L[L.length - 1 - k]?.getD (0, 0, 0) else L[k]?.getD (0, 0, 0)) := by simp [rvN, hk]
theorem rvN_zero (L : List Mv) : rvN L 0 = L := by
  apply List.ext_getElem?
  intro k
  by_cases hk : k < L.length
  · rw [rvN_get hk, if_neg (by omega), List.getElem?_eq_getElem hk]; rfl
  · rw [List.getElem?_eq_none (by rw [rvN_len]; omega), List.getElem?_eq_none (by omega)]
theorem rvN_end {L : List Mv} {i : Nat} (h : L.length ≤ 2 * i + 1) : rvN L i = L.reverse := by
  apply List.ext_getElem?
  intro k
  by_cases hk : k < L.length
  · rw [rvN_get hk, List.getElem?_reverse hk]
    split
    · rw [List.getElem?_eq_getElem (by omega)]; rfl
    · rw [show L.length - 1 - k = k by omega, List.getElem?_eq_getElem hk]; rfl
  · rw [List.getElem?_eq_none (by rw [rvN_len]; omega), List.getElem?_eq_none (by rw [List.length_reverse]; omega)]
theorem rvN_step {L : List Mv} {i j : Nat} (hij : i + j + 1 = L.length) (h : i < j) : ((rvN L i).set i (L[j]?.getD (0, 0, 0))).set j (L[i]?.getD (0, 0, 0)) = rvN L (i + 1) := by
  apply List.ext_getElem?
  intro k
  by_cases hk : k < L.length
  · rw [rvN_get hk, List.getElem?_set, List.getElem?_set]
    by_cases hj : j = k
    · subst hj
      rw [if_pos rfl, if_pos (by rw [List.length_set, rvN_len]; exact hk), if_pos (by omega), show L.length - 1 - j = i by omega]
    · rw [if_neg hj]
      by_cases hi : i = k
      · subst hi
        rw [if_pos rfl, if_pos (by rw [rvN_len]; exact hk), if_pos (by omega), show L.length - 1 - i = j by omega]
      · rw [if_neg hi, rvN_get hk]
        congr 1
        by_cases h1 : k < i ∨ L.length - 1 - k < i
        · rw [if_pos h1, if_pos (by omega)]
        · rw [if_neg h1, if_neg (by omega)]
  · rw [List.getElem?_eq_none (by rw [List.length_set, List.length_set, rvN_len]; omega), List.getElem?_eq_none (by rw [rvN_len]; omega)]
theorem grown_drewM {w w' : World} {r : Option Nat} (h : w.grownBy w' r) : w.grownBy w'.drew r := ⟨h.os, h.tape, h.output, h.size, h.block⟩
theorem grown_thenM {w w1 w2 : World} {r : Option Nat} (h : w.grownBy w1 r) (k : w1.grownBy w2 r) : w.grownBy w2 r :=
  ⟨k.os.trans h.os, k.tape.trans h.tape, k.output.trans h.output, Nat.le_trans h.size k.size, fun b hb hr => (k.block b (Nat.lt_of_lt_of_le hb h.size) hr).trans (h.block b hb hr)⟩
theorem mvCells_set (x y z : Int) : ∀ (M : List Mv) (k : Nat), k < M.length → (((mvCells M).set (k * 3) (.int .i64 x)).set (k * 3 + 1) (.int .i64 y)).set (k * 3 + 2) (.int .i64 z) = mvCells (M.set k (x, y, z))
  | [], k, h => by simp at h
  | m :: M, 0, _ => by simp [mvCells, mvF]
  | m :: M, k + 1, h => by
    have ih := mvCells_set x y z M k (by simpa using h)
    have e : ∀ (m : Mv) (M : List Mv), mvCells (m :: M) = .int .i64 m.1 :: .int .i64 m.2.1 :: .int .i64 m.2.2 :: mvCells M := fun _ _ => rfl
    rw [e, List.set_cons_succ, e, ← ih, show (k + 1) * 3 = k * 3 + 3 by omega, show k * 3 + 3 + 1 = k * 3 + 1 + 3 by omega, show k * 3 + 3 + 2 = k * 3 + 2 + 3 by omega]
    simp only [List.set_cons_succ]
theorem OwnM.drewM {B n c : Nat} {w : World} {A : Option Addr} {M : List Mv} (h : OwnM B w A n c M) : OwnM B w.drew A n c M := h
theorem storedM {B n c g k : Nat} {w : World} {M : List Mv} {x y z : Int} (h : OwnM B w (some ⟨g, 0, none⟩) n c M) (hk : k < n) :
    OwnM B (((w.setCell ⟨g, k * 3, none⟩ (.int .i64 x)).setCell ⟨g, k * 3 + 1, none⟩ (.int .i64 y)).setCell ⟨g, k * 3 + 2, none⟩ (.int .i64 z)) (some ⟨g, 0, none⟩) n c (M.set k (x, y, z)) ∧
      w.grownBy (((w.setCell ⟨g, k * 3, none⟩ (.int .i64 x)).setCell ⟨g, k * 3 + 1, none⟩ (.int .i64 y)).setCell ⟨g, k * 3 + 2, none⟩ (.int .i64 z)) (some g) := by
  have hl := OwnM.len h
  obtain ⟨s1, e1⟩ := World.ownsRow.stored h (k * 3) (.int .i64 x)
  obtain ⟨s2, e2⟩ := World.ownsRow.stored s1 (k * 3 + 1) (.int .i64 y)
  obtain ⟨s3, e3⟩ := World.ownsRow.stored s2 (k * 3 + 2) (.int .i64 z)
  rw [mvCells_set x y z M k (by omega)] at s3
  exact ⟨s3, grown_thenM e1 (grown_thenM e2 e3)⟩

set_option maxHeartbeats 4000000 in
theorem reverseM_calls (B : Nat) (A : Option Addr) (n c : Nat) (M : List Mv) (w : World) (hn : n ≤ 1000) (hO : OwnM B w A n c M) (hB : B ≤ w.heap.size) :
    Calls Try.prog 91 #[.slice A n c] w fun e w' => e = .returned (.tuple #[]) ∧ OwnM B w' A n c M.reverse ∧ w.grownBy w' (Value.slice A n c).ownBlock := by
  have HL := Lib.hid (OwnM.len hO)
  have HO := Lib.hid hO
  clear hO
  go_enter Try.func91, Try.ntmps91
  go_wp2
  go_loopw [2, 3] (fun i j wr => ∃ (a : Nat) (b : Int), i = .int .i64 a ∧ j = .int .i64 b ∧ (a : Int) + b = (n : Int) - 1 ∧ a ≤ n ∧ OwnM B wr A n c (rvN M a) ∧ w.grownBy wr (Value.slice A n c).ownBlock) (fun i _ _ => n - (intOf i).toNat)
  case atStart => exact ⟨0, (n : Int) - 1, rfl, by go_num, by omega, by omega, by rw [rvN_zero]; exact HO.out, World.grownBy.refl _ _⟩
  case round =>
    obtain ⟨a, b, rfl, rfl, hab, han, hOa, hg⟩ := hrel
    have HOa := Lib.hid hOa
    have HG := Lib.hid hg
    clear hOa hg HO
    by_cases hlt : (a : Int) < b
    · obtain ⟨j, rfl⟩ := Int.eq_ofNat_of_zero_le (show 0 ≤ b by omega)
      obtain ⟨g, rfl, hgl, a0, a1, a2⟩ := (OwnM.mvs HOa.out) a (by rw [rvN_len, HL.out]; omega)
      obtain ⟨g', hg', _, b0, b1, b2⟩ := (OwnM.mvs HOa.out) j (by rw [rvN_len, HL.out]; omega)
      injection hg' with hg'
      injection hg' with hg'
      subst hg'
      have ea : (rvN M a)[a]?.getD (0, 0, 0) = M[a]?.getD (0, 0, 0) := by rw [rvN_get (by rw [HL.out]; omega), if_neg (by rw [HL.out]; omega)]; rfl
      have ej : (rvN M a)[j]?.getD (0, 0, 0) = M[j]?.getD (0, 0, 0) := by rw [rvN_get (by rw [HL.out]; omega), if_neg (by rw [HL.out]; omega)]; rfl
      rw [ea] at a0 a1 a2
      rw [ej] at b0 b1 b2
      have HST := Lib.hid (rvN_step (L := M) (i := a) (j := j) (by rw [HL.out]; omega) (by omega))
      clear ea ej
      generalize M[a]?.getD (0, 0, 0) = ma at *
      generalize M[j]?.getD (0, 0, 0) = mj at *
      obtain ⟨x1, x2, x3⟩ := ma
      obtain ⟨y1, y2, y3⟩ := mj
      dsimp only at a0 a1 a2 b0 b1 b2
      have fa0 := OwnG.frozen HOa.out rfl (a * 3)
      have fa1 := OwnG.frozen HOa.out rfl (a * 3 + 1)
      have fa2 := OwnG.frozen HOa.out rfl (a * 3 + 2)
      have fb0 := OwnG.frozen HOa.out rfl (j * 3)
      have fb1 := OwnG.frozen HOa.out rfl (j * 3 + 1)
      have fb2 := OwnG.frozen HOa.out rfl (j * 3 + 2)
      have hj0 : (0 : Int) ≤ (j : Int) := by omega
      have ha0 : (0 : Int) ≤ (a : Int) := by omega
      have hj1 : (j : Int) < (n : Int) := by omega
      have ha1 : (a : Int) < (n : Int) := by omega
      have hj : j < n := by omega
      have ha : a < n := by omega
      have haj : a ≠ j := by omega
      have n0 : ¬ a * 3 = j * 3 := by omega
      have n1 : ¬ a * 3 + 1 = j * 3 := by omega
      have n2 : ¬ a * 3 + 2 = j * 3 := by omega
      have n3 : ¬ a * 3 = j * 3 + 1 := by omega
      have n4 : ¬ a * 3 + 1 = j * 3 + 1 := by omega
      have n5 : ¬ a * 3 + 2 = j * 3 + 1 := by omega
      have n6 : ¬ a * 3 = j * 3 + 2 := by omega
      have n7 : ¬ a * 3 + 1 = j * 3 + 2 := by omega
      have n8 : ¬ a * 3 + 2 = j * 3 + 2 := by omega
      go_wp2_with fail
      go_region
      all_goals
        go_wp2
        go_roundw
        case rel =>
          obtain ⟨s1, e1⟩ := storedM (x := y1) (y := y2) (z := y3) HOa.out ha
          obtain ⟨s2, e2⟩ := storedM (x := x1) (y := x2) (z := x3) s1 hj
          rw [HST.out] at s2
          have e3 := grown_drewM (grown_thenM e1 e2)
          exact ⟨a + 1, (j : Int) - 1, by go_num, by go_num, by omega, by omega, OwnM.drewM s2, grown_thenM HG.out e3⟩
        case measure => simp [intOf]; omega
    · go_wp2
      go_end0
      refine ⟨rfl, ?_, HG.out⟩
      have := HOa.out
      rwa [rvN_end (by rw [HL.out]; omega)] at this

end Go.Proofs.Ytbcgomimfgggnaa

namespace Go.Proofs.Ytbcgomimfgggnaa
open Go.RowKit Go.Shelf
set_option linter.unusedVariables false
set_option maxRecDepth 100000
attribute [local go_sem] Oper.semAt_some

theorem grown_belowW {e size B n c B0 : Nat} {w w1 : World} {A : Option Addr} {xs : List Value} (h : OwnG e size B w A n c xs) (hg : w.grownBy w1 (Value.slice A n c).ownBlock) (h1 : B0 ≤ B) (h2 : B0 ≤ w.heap.size) : Below B0 w w1 := by
  refine (Below.refl B0 w).grown hg h2 (fun k hk => ?_)
  rcases h.form with ⟨rfl, rfl, rfl⟩ | ⟨g, rfl, hB, _⟩
  · simp [Value.ownBlock] at hk
  · simp only [Value.ownBlock, Option.some.injEq] at hk
    omega
theorem own_no_def {e size B n c D : Nat} {w : World} {A : Option Addr} {xs : List Value} {o : Option (List Deferred)} (h : OwnG e size B w A n c xs) (hD : w.heap[D]? = some (.deferred o)) : (Value.slice A n c).ownBlock ≠ some D := by
  intro e1
  rcases h.2 with ⟨hv, _⟩ | ⟨g, cap, cur, hv, _, hh, _⟩
  · rw [hv] at e1; cases e1
  · rw [hv] at e1
    simp only [Value.ownBlock, Option.some.injEq] at e1
    subst e1
    rw [hh] at hD
    cases hD

set_option maxRecDepth 100000 in
set_option maxHeartbeats 4000000 in
theorem wayBack_priv (gf : Nat) (lb : Array Value) (bs : Nat → Prop) (M : List Mv) (w : World) (eg : ∀ args w, (callFunc gf args).run Try.prog w = .ok (.enter gf args) w) (hM : M.length ≤ 255) (hbs : ∀ b, bs b → b < w.heap.size) (hseq : SeqPriv 5 Try.prog gf lb mvEnc 2 bs M w) :
    Calls Try.prog 71 #[.func (.func gf) #[] lb] w fun e w' => ∃ A' c', e = .returned (.slice A' (bkL M).length c') ∧ OwnM w.heap.size w' A' (bkL M).length c' (bkL M) ∧ Below w.heap.size w w' := by
  obtain ⟨i0, hi, hz0, hz1, hz2⟩ := info_parts Try.infoM
  refine (callsIn_wide (n := 6)).1 ?_
  refine callsIn_of_wp_marks Try.func71 rfl trivial ?_ rfl
  simp only [Try.ntmps71, List.size_toArray, List.length_cons, List.length_nil, Nat.reduceAdd, Nat.reduceSub, Array.replicate_succ, Array.replicate_zero, List.push_toArray, List.append_toArray, List.nil_append, List.cons_append]
  gi_wp2_with fail
  have bM := Boxed.new w 36 (.slice none 0 0)
  have hB0 : Below w.heap.size w (w.alloc (.cells #[.slice none 0 0] 36)) := (Below.refl _ _).alloc (Nat.le_refl _) _
  have hsz : (w.alloc (.cells #[.slice none 0 0] 36)).heap.size = w.heap.size + 1 := by simp
  have hseq0 := hseq.later hB0
  generalize w.alloc (.cells #[.slice none 0 0] 36) = W0 at *
  refine rangeFunc_priv (by omega) (gf := gf) (lb := lb) rfl eg hseq0 (fun _ => rfl) (fun b hb => by have := hbs b hb; omega)
    (fun R pre W => (∃ v, Boxed W w.heap.size 36 v ∧ W.ownsRow w.heap.size 69 3 v pre.length (mvCells (pre.map bkM)) ∧ v.ownBlock ≠ some R) ∧ Below w.heap.size w W ∧ w.heap.size + 1 ≤ W.heap.size ∧ w.heap.size + 3 ≤ R)
    (fun R => OwnFrom.and (Own.from (holdsRow_own w.heap.size w.heap.size 36 69 3 (fun pre : List Mv => pre.length) (fun pre => mvCells (pre.map bkM)) (fun _ v => v.ownBlock ≠ some R)) _) (OwnFrom.and (ownFrom_below (Nat.le_refl _) (by omega)) (OwnFrom.and (ownFrom_size _ _) (fun _ _ _ _ hs _ _ => hs))))
    ?grow
    (fun R hR => ⟨⟨_, bM, World.ownsRow_nil _ _ _ _, by simp [Value.ownBlock]⟩, hB0, by omega, by omega⟩)
    (fun R pre x a' W => ∃ Bx, w.heap.size < Bx ∧ Box W Bx 69 #[.int .i64 x.1, .int .i64 x.2.1, .int .i64 x.2.2] ∧ a' = { tmps := #[.func (.func gf) #[] lb, undef, .slice none 0 0, .pointer (some ⟨w.heap.size, 0, none⟩), .pointer (some ⟨Bx, 0, none⟩), .func (.func gf) #[] lb, mvV x, undef, undef, undef, undef, undef, undef, undef, undef, undef, undef, undef, undef, undef], defers := [] })
    (fun R pre x a' _ X Y row hs hg hr => by obtain ⟨Bx, h1, h2, h3⟩ := hs; exact ⟨Bx, h1, box_own Bx 69 _ () X Y row h2 hg (fun r e => (hr r e).2), h3⟩)
    ?assign ?body ?done
  case grow =>
    rintro R pre A B ⟨⟨v, hv, hrow, hne⟩, hB, hW, hR⟩ hg
    refine ⟨⟨v, hv.kept hg (by simp; omega), hrow.kept hg (.inr hne), hne⟩, hB.grown hg hB.size (fun k hk => by injection hk with hk; omega), Nat.le_trans hW hg.size, hR⟩
  case assign =>
    rintro l R pre x W K hR ⟨cs, hcs⟩ hpx ⟨⟨v, hv, hrow, hne⟩, hB, hW, hR3⟩ hK
    have hlt := hv.lt
    have hle := hB.size
    have hRl : R < W.heap.size := (Array.getElem?_eq_some_iff.1 hcs).1
    obtain ⟨x1, x2, x3⟩ := x
    dsimp only [mvEnc, mvV] at hK ⊢
    gi_wp2
    exact hK _ _ ((KeepsOthers.alloc _ _).from _) (keepB_below ((Below.refl W.heap.size W).alloc (Nat.le_refl _) _) (fun b hb => by
      rcases hb with hb | rfl
      · have := hbs b hb; omega
      · exact hRl)) ⟨⟨v, hv.alloc _, hrow.alloc _, hne⟩, hB.alloc hle _, by simp; omega, hR3⟩ ⟨W.heap.size, by omega, Box.new W 69 _, rfl⟩
  case body =>
    rintro l R pre x a' W hR ⟨cs, hcs⟩ hpx ⟨⟨v, hv, hrow, hne⟩, hB, hW, hR3⟩ ⟨Bx, hBx, bX, rfl⟩
    obtain ⟨A', c', rfl⟩ := ownG_shape hrow
    have hRl : R < W.heap.size := (Array.getElem?_eq_some_iff.1 hcs).1
    have hle := hB.size
    have HN := Lib.hid (show ∀ b, (bs b ∨ b = R) → b < W.heap.size ∧ some b ≠ (Value.slice A' pre.length c').ownBlock ∧ b ≠ w.heap.size from fun b hb => by
      rcases hb with hb | rfl
      · have h1 := hbs b hb
        exact ⟨by omega, fun e => by have := ows_bk hrow b e.symm; omega, by omega⟩
      · exact ⟨hRl, fun e => hne e.symm, by omega⟩)
    have hlen : pre.length < 256 := by
      have := hpx.length_le
      simp at this
      omega
    obtain ⟨x1, x2, x3⟩ := x
    dsimp only [mvV] at bX ⊢
    have hc := hv.cell
    obtain ⟨m0, m1, m2⟩ := bX.three
    clear hpx
    gi_wp2_with (gi_at_builtin; refine wpListIn_append_own _ rfl _ _ 36 rfl w.heap.size 69 i0 (.agg #[.int .i64 0, .int .i64 0, .int .i64 0]) 3 24 Try.underlying36 hi hz0 hz1 hz2 rfl (by decide) _ _ _ rfl (hrow.alloc _) ⟨W.heap.size, 0, none⟩ 1 1 [.int .i64 x1, .int .i64 x3, .int .i64 x2] rfl rfl (World.news_of_block (cs := #[.int .i64 x1, .int .i64 x3, .int .i64 x2]) (t := 69) (fr := (0, 0)) (heap_alloc_new W _)) (by simp [Value.oneCell']) (by unfold maxLen; omega) (by omega) (by simp; omega) ?_; intro v' w2 hown' hgrow _; obtain ⟨g', cap', rfl⟩ := ownsRow_succ hown'; obtain ⟨hv1, hv2, hr2, hk2, hb2⟩ := hv.appended (by decide) hrow hle (by omega) hown' hgrow; have hc1 := hv1.cell; have hf1 := hv1.frozen; have hK2 := Lib.hid (keepB_appended (u := .slice (some ⟨g', 0, none⟩) (pre.length + 1) cap') (B := w.heap.size) hgrow HN.out); have hgs := hgrow.size)
    refine ⟨hk2.from _, hK2.out, ⟨⟨_, hv2, ?_, ?_⟩, hB.trans hb2, ?_, hR3⟩⟩
    · rw [List.length_append, List.map_append, show List.map bkM [(x1, x2, x3)] = [(x1, x3, x2)] from rfl, mvCells_snoc]
      exact hr2
    · have h1 := ne_cells hr2 ((hK2.out R (.inr rfl)).trans hcs) (by decide)
      simpa [Value.ownBlock] using h1
    · simp at hgs ⊢
      omega
  case done =>
    rintro D R W hD hR ⟨⟨v, hv, hrow, _⟩, hB, hW, hR3⟩ hK
    have hc := hv.cell
    obtain ⟨A', c', rfl⟩ := ownG_shape hrow
    have hO : OwnM w.heap.size W A' M.length c' (M.map bkM) := hrow
    have HO := Lib.hid hO
    have HV := Lib.hid hv
    have HB := Lib.hid hB
    have HK := Lib.hid hK
    have hne := hv.not_row (by decide) hrow
    have hML : M.length ≤ 1000 := by omega
    clear hrow hO hv hK
    gi_wp2_with fail
    refine ⟨trivial, ?_⟩
    refine (callsIn_wide.2 (reverseM_calls w.heap.size A' M.length c' (M.map bkM) W hML HO.out HB.out.size)).mono ?_
    rintro e W3 ⟨rfl, hO3, hg3⟩
    have hv3 := HV.out.kept hg3 hne
    have hc3 := hv3.cell
    have hB3 := HB.out.trans (grown_belowW HO.out hg3 (Nat.le_refl _) HB.out.size)
    have hK3 : W3.heap[D]? = some (.deferred (some [])) := (hg3.block D (Array.getElem?_eq_some_iff.1 HK.out).1 (fun e => own_no_def HO.out HK.out e.symm)).trans HK.out
    have HO3 := Lib.hid hO3
    have HB3 := Lib.hid hB3
    have HK3 := Lib.hid hK3
    clear hc hO3 hB3 hK3 hg3
    gi_wp2
    refine ⟨by simp, .inl ⟨_, _, rfl, run_takeDeferred HK3.out, ?_⟩⟩
    have hlen : (bkL M).length = M.length := bkL_len M
    refine ⟨_, results_tmp rfl _ _ _, A', c', by rw [hlen]; rfl, ?_, HB3.out.trans (belowK_b (w := w) (Nat.le_refl _) W3 D _ _ (by omega) HK3.out rfl rfl)⟩
    rw [hlen]
    exact ownsRow_putObj HO3.out _ HK3.out rfl

end Go.Proofs.Ytbcgomimfgggnaa

namespace Go.Proofs.Ytbcgomimfgggnaa
open Go.RowKit
set_option linter.unusedVariables false
set_option maxRecDepth 100000

def goE (p : Int) (L : List Int) (a : Int) : Int := codeW p L a
def goL (p : Int) (L : List Int) (a : Int) : List Int := if codeW p L a = 0 then goalsL L a else []
theorem goL_len (p : Int) (L : List Int) (a : Int) (h : L.length ≤ 1048576) : (goL p L a).length ≤ 1048576 := by
  unfold goL
  split
  · rw [goalsL_len]; exact h
  · simp

end Go.Proofs.Ytbcgomimfgggnaa

namespace Go.Proofs.Ytbcgomimfgggnaa
open Go.RowKit
set_option linter.unusedVariables false
set_option maxRecDepth 100000

def wtL (p : Int) (L : List Int) (a : Int) : List Mv := if codeW p L a = 0 then wayL L a else []
theorem wtL_len (p : Int) (L : List Int) (a : Int) : (wtL p L a).length ≤ 255 := by
  unfold wtL
  split
  · next h =>
    have h8 := (state_facts (codeW_zero h).1 rfl).2.2.1
    exact wayL_bd h8
  · simp
theorem movesToPeg_calls (A : Option Addr) (n c : Nat) (a : Int) (w : World) :
    Calls Try.prog 69 #[.slice A n c, .int .i64 a] w fun e w' => e = .returned (.func (.func 89) #[] #[.pointer (some ⟨w.heap.size, 0, none⟩), .pointer (some ⟨w.heap.size + 1, 0, none⟩)]) ∧ w' = (w.alloc (.cells #[.slice A n c] 28)).alloc (.cells #[.int .i64 a] 2) := by
  go_enter Try.func69, Try.ntmps69
  go_wp2
  go_ret
  exact ⟨rfl, rfl⟩

end Go.Proofs.Ytbcgomimfgggnaa
