/- The iterator of the way, by the program: what it owes to its rounds. · A range over a function that keeps a private list between its yields. A law over the library's base law; no program. · Contracts: slices.Collect over an iterator that keeps a private list: the list of moves. · Contracts: WayToPeg, by the specification's model and by the program. · Contracts: FirstMove, by the specification's model. · The iterator of the way, by the program: what it owes to rounds that may leave. · A range over a function that keeps a private list between its yields, whose rounds may return. A law over the library's base law; no program. · Contracts: FirstMove, by the program. -/
import Derived.Test.YtnbjnlgdolhlmaaPk5
import Derived.Test.YtnbjnlgdolhlmaaPk2
namespace Go.Proofs.Ytnbjnlgdolhlmaa
open Go.RowKit Go.Shelf
set_option linter.unusedVariables false

/-- What the iterator owes: it keeps a private block R between its yields, in which its rounds do not write. -/
def SeqPriv {α : Type} (n : Nat) (P : Program) (g : Nat) (lb : Array Value) (encs : α → Array Value) (et : Nat) (bs : Nat → Prop) (xs : List α) (w : World) : Prop :=
  ∀ (l : Nat) (J : Nat → List α → World → Prop) (W : World), Below w.heap.size w W → (∀ R pre A B, J R pre A → A.grownBy B (some R) → J R pre B) →
    (∀ R pre x W1, W.heap.size ≤ R → (∃ cs, W1.heap[R]? = some (.cells cs et (0, 0))) → (pre ++ [x]) <+: xs → J R pre W1 → YieldAt Fence.wide (n - 1) P l (encs x) W1 fun e W' => e = .returned (.bool true) ∧ J R (pre ++ [x]) W' ∧ KeepB (fun b => bs b ∨ b = R) W1 W' ∧ W1.heap.size ≤ W'.heap.size) →
    (∀ R, W.heap.size ≤ R → J R [] W) → CallsIn Fence.wide n P g (#[.func (.yield l) #[] #[]] ++ lb) W fun e W' => (∃ v, e = .returned v) ∧ ∃ R, J R xs W'

theorem grownR {W W' : World} {r : Option Nat} (h : Below W.heap.size W W') : W.grownBy W' r := ⟨h.os, h.tape, h.output, h.size, fun k hk _ => h.block k hk⟩
theorem grownSet (W : World) (R i : Nat) (v : Value) : W.grownBy (W.setCell ⟨R, i, none⟩ v) (some R) :=
  ⟨rfl, rfl, rfl, by simp [World.setCell], fun k _ hk => heap_setCell_other W ⟨R, i, none⟩ k v (fun e => hk (by rw [e]))⟩
theorem ownCells {B : Nat} {w : World} {g n c : Nat} {L : List Int} (h : OwnG 2 1 B w (some ⟨g, 0, none⟩) n c (L.map (Value.int .i64))) : ∃ cs, w.heap[g]? = some (.cells cs 2 (0, 0)) := by
  rcases h.2 with ⟨hv, _⟩ | ⟨g1, cap, cur, hv, _, hh, _⟩
  · simp at hv
  · injection hv with h1
    injection h1 with h1
    injection h1 with h1
    subst h1
    exact ⟨_, hh⟩
theorem ownKeptW {B : Nat} {w w' : World} {g n c : Nat} {xs : List Value} (h : OwnG 2 1 B w (some ⟨g, 0, none⟩) n c xs) (hb : w'.heap[g]? = w.heap[g]?) (hs : w.heap.size ≤ w'.heap.size) : OwnG 2 1 B w' (some ⟨g, 0, none⟩) n c xs := by
  refine ⟨h.1, ?_⟩
  rcases h.2 with ⟨hv, h2⟩ | ⟨g1, cap, cur, hv, h3, hh, h4⟩
  · simp at hv
  · have hv' := hv
    injection hv' with h1
    injection h1 with h1
    injection h1 with h1
    subst h1
    exact .inr ⟨_, cap, cur, hv, h3, hb.trans hh, h4⟩
def mvEnc (m : Mv) : Array Value := #[mvV m]

set_option maxRecDepth 100000 in
set_option maxHeartbeats 4000000 in
theorem movesToPeg_priv (N bp ba : Nat) (hN : 1 ≤ N) (A : Option Addr) (n c : Nat) (L : List Int) (a : Int) (hA : A = none → c = 0) (hL : L.length = n) (hn : n ≤ 8) (hp : pegsOk L) (ha : 0 ≤ a ∧ a ≤ 2) (w : World) (hbp : Box w bp 24 #[.slice A n c]) (hba : Box w ba 2 #[.int .i64 a]) (hI : Ints w A L) :
    SeqPriv N Try.prog 53 #[.pointer (some ⟨bp, 0, none⟩), .pointer (some ⟨ba, 0, none⟩)] mvEnc 2 (fun b => b = bp ∨ b = ba) (wayL L a) w := by
  intro l J W hW hJ hY h0
  have hp1 := Lib.hid (hbp.below hW hbp.lt)
  have ha1 := Lib.hid (hba.below hW hba.lt)
  have HI := Lib.hid (hI.below hW)
  have HL := Lib.hid hL
  have HNA := Lib.hid hA
  clear hA
  have HP := Lib.hid hp
  clear hL hp hI
  refine callsIn_of_wp Try.func53 rfl trivial ?_ rfl
  simp only [Try.ntmps53, List.size_toArray, List.length_cons, List.length_nil, Nat.reduceAdd, Nat.reduceSub, Array.replicate_succ, Array.replicate_zero, List.push_toArray, List.append_toArray, List.nil_append, List.cons_append]
  refine wpIn_scope_once 0 (fun j a' w' => ∃ (Lc : List Int) (pre : List Mv) (R : Nat) (An : Option Addr) (cn : Nat) (u5 u6 u7 u8 u9 u10 u11 u12 u13 u14 u15 u16 u17 u18 u19 u20 u21 u22 u23 u24 u25 u26 u27 u28 u29 u30 u31 u32 u33 u34 u35 u36 u37 u38 : Value), a' = { tmps := #[.func (.yield l) #[] #[], .pointer (some ⟨bp, 0, none⟩), .pointer (some ⟨ba, 0, none⟩), undef, .slice An n cn, u5, u6, u7, u8, u9, u10, u11, u12, u13, u14, u15, u16, u17, u18, u19, u20, u21, u22, u23, u24, u25, u26, u27, u28, u29, u30, u31, u32, u33, u34, u35, u36, u37, u38], defers := [] } ∧ Hid (j = (distP Lc a).toNat) ∧ Hid (wayL L a = pre ++ wayL Lc a) ∧ Hid (Lc.length = n) ∧ Hid (pegsOk Lc) ∧ J R pre w' ∧ W.heap.size ≤ R ∧ (∀ g, An = some ⟨g, 0, none⟩ → g = R) ∧ OwnG 2 1 W.heap.size w' An n cn (Lc.map (Value.int .i64)) ∧ Box w' bp 24 #[.slice A n c] ∧ Box w' ba 2 #[.int .i64 a] ∧ W.heap.size ≤ w'.heap.size) rfl ?_ ?_
  · obtain ⟨c0, _⟩ := hp1.out.one
    gi_wp2_with fail
    refine ⟨trivial, ?_⟩
    refine (callsIn_wide.2 (cloneA_calls A n c L W HL.out (by omega) HNA.out HI.out)).mono ?_
    rintro e w1 ⟨An, cn, rfl, hO, hb⟩
    gi_wp2
    have hO' : OwnG 2 1 W.heap.size w1 An n cn (L.map (Value.int .i64)) := hO
    rcases hO'.form with ⟨rfl, h1, h2⟩ | ⟨g, rfl, hB, hg⟩
    · exact ⟨_, L, [], W.heap.size, none, cn, _, _, _, _, _, _, _, _, _, _, _, _, _, _, _, _, _, _, _, _, _, _, _, _, _, _, _, _, _, _, _, _, _, _, rfl, Lib.hid rfl, Lib.hid rfl, HL, HP, hJ _ _ _ _ (h0 _ (Nat.le_refl _)) (grownR hb), Nat.le_refl _, (fun g h => by cases h), hO', hp1.out.below hb hp1.out.lt, ha1.out.below hb ha1.out.lt, hb.size⟩
    · exact ⟨_, L, [], g, some ⟨g, 0, none⟩, cn, _, _, _, _, _, _, _, _, _, _, _, _, _, _, _, _, _, _, _, _, _, _, _, _, _, _, _, _, _, _, _, _, _, _, rfl, Lib.hid rfl, Lib.hid rfl, HL, HP, hJ _ _ _ _ (h0 _ hB) (grownR hb), hB, (fun g' h => by injection h with h; injection h with h; exact h.symm), hO', hp1.out.below hb hp1.out.lt, ha1.out.below hb ha1.out.lt, hb.size⟩
  · rintro j0 a' wr ⟨Lc, pre, R, An, cn, u5, u6, u7, u8, u9, u10, u11, u12, u13, u14, u15, u16, u17, u18, u19, u20, u21, u22, u23, u24, u25, u26, u27, u28, u29, u30, u31, u32, u33, u34, u35, u36, u37, u38, rfl, HJ0, HW, HLc, HPc, hJr, hR, hAR, hN1, hbp1, hba1, hsz⟩
    have HN := Lib.hid hN1
    obtain ⟨c1, _⟩ := hba1.one
    gi_wp2_with fail
    refine ⟨trivial, ?_⟩
    refine (callsIn_wide.2 (goalsOf_calls An n cn Lc a wr HLc.out hn (intsW HN.out) HPc.out ha)).mono ?_
    rintro e w2 ⟨g, rfl, hg, hrow, hb2⟩
    have HG := Lib.hid (own_of_row (B := wr.heap.size) hrow hg (by rw [goalsL_len]; exact HLc.out) hn)
    have HN2 := Lib.hid (OwnG.below HN.out hb2)
    have hbp2 := Lib.hid (hbp1.below hb2 hbp1.lt)
    have hba2 := Lib.hid (hba1.below hb2 hba1.lt)
    have hJ2 := hJ _ _ _ _ hJr (grownR (r := some R) hb2)
    have hs2 := hb2.size
    clear hrow hb2 HN hN1 c1 hJr hbp1 hba1
    gi_wp2
    gi_loopw [5, 6, 13] (fun _ _ i wr' => ∃ j : Nat, j ≤ n ∧ i = .int .i64 j ∧ Hid (∀ i, i < j → Lc[i]?.getD 0 = (goalsL Lc a)[i]?.getD 0) ∧ wr' = w2) (fun _ _ i _ => n - (intOf i).toNat)
    case atStart => exact ⟨0, Nat.zero_le _, rfl, Lib.hid (fun i hi => absurd hi (by omega)), rfl⟩
    case round =>
      obtain ⟨j, hj, rfl, HS, rfl⟩ := hrel
      by_cases hlt : j < n
      · obtain ⟨gn, rfl, hBn, hgnl, hcn⟩ := ownAtW HN2.out HLc.out hlt
        obtain rfl := hAR gn rfl
        obtain ⟨_, hag, hBg, hgl, hcg⟩ := ownAtW HG.out (by rw [goalsL_len]; exact HLc.out) hlt
        injection hag with hag
        injection hag with hag
        subst hag
        have hk0 : (0 : Int) ≤ (j : Int) := by omega
        have hk1 : (j : Int) < (n : Int) := by omega
        by_cases hne : Lc[j]?.getD 0 = (goalsL Lc a)[j]?.getD 0
        · have ht : (Lc[j]?.getD 0 == (goalsL Lc a)[j]?.getD 0) = true := by simpa using hne
          have HS2 := Lib.hid (show ∀ i, i < j + 1 → Lc[i]?.getD 0 = (goalsL Lc a)[i]?.getD 0 from fun i hi => by
            by_cases h : i = j
            · rw [h]; exact hne
            · exact HS.out i (by omega))
          clear hne
          gi_wp2
          go_roundw
          case rel => exact ⟨j + 1, by omega, by go_num, HS2, trivial⟩
          case measure => simp [intOf]; omega
        · have ht : (Lc[j]?.getD 0 == (goalsL Lc a)[j]?.getD 0) = false := by simpa using hne
          have HF := Lib.hid (fdW_is Lc a (by rw [HLc.out]; exact hlt) HS.out hne)
          clear hne
          have hmore := wayL_more HPc.out ha (by rw [HF.out, HLc.out]; exact hlt)
          have HMV := Lib.hid (show mvW Lc a = ((j : Int), Lc[j]?.getD 0, (goalsL Lc a)[j]?.getD 0) by unfold mvW; rw [HF.out])
          have HST := Lib.hid (show stepW Lc a = Lc.set j ((goalsL Lc a)[j]?.getD 0) by unfold stepW; rw [HF.out])
          have HW' := Lib.hid (show wayL L a = (pre ++ [((j : Int), Lc[j]?.getD 0, (goalsL Lc a)[j]?.getD 0)]) ++ wayL (stepW Lc a) a by rw [HW.out, hmore, HMV.out]; simp)
          have HLs := Lib.hid (show (stepW Lc a).length = n by rw [stepW_len]; exact HLc.out)
          have HPs := Lib.hid (stepW_pegs Lc a HPc.out ha)
          have HLT := Lib.hid (show (distP (stepW Lc a) a).toNat < j0 by
            have h1 := (fdW_lt_iff Lc a).1 (by rw [HF.out, HLc.out]; exact hlt)
            have h2 := (stepW_dist Lc a HPc.out ha h1).1
            have h3 := distP_nonneg (stepW Lc a) a
            rw [HJ0.out]
            omega)
          obtain ⟨fn, tmps, assign, body, hy, hR3⟩ := hY gn pre ((j : Int), Lc[j]?.getD 0, (goalsL Lc a)[j]?.getD 0) wr hR (ownCells HN2.out) ⟨_, HW'.out.symm⟩ hJ2
          dsimp only [mvEnc, mvV] at hy
          clear hmore
          gi_wp2
          refine hR3.mono ?_
          rintro e W3 ⟨rfl, hJ3, hk3, hs3⟩
          have HN3 := Lib.hid (ownKeptW HN2.out (hk3 _ (.inr rfl)) hs3)
          have hbp3 := Lib.hid ((hk3 _ (.inl (.inl rfl))).trans hbp2.out)
          have hba3 := Lib.hid ((hk3 _ (.inl (.inr rfl))).trans hba2.out)
          clear hcn
          obtain ⟨_, h0', _, hgnl3, hcn⟩ := ownAtW HN3.out HLc.out hlt
          injection h0' with h0'
          injection h0' with h0'
          subst h0'
          have hfz := OwnG.frozen HN3.out rfl j
          gi_wp2
          refine wpIn_goto ?_
          change _ ∧ _
          refine ⟨rfl, _, ⟨stepW Lc a, _, gn, some ⟨gn, 0, none⟩, cn, _, _, _, _, _, _, _, _, _, _, _, _, _, _, _, _, _, _, _, _, _, _, _, _, _, _, _, _, _, _, _, _, _, _, rfl, Lib.hid rfl, HW', HLs, HPs, hJ _ _ _ _ hJ3 (grownSet _ _ _ _), hR, (fun g h => by injection h with h; injection h with h; exact h.symm), ?_, ?_, ?_, ?_⟩, HLT.out⟩
          · have st := (World.ownsRow.stored HN3.out j (.int .i64 ((goalsL Lc a)[j]?.getD 0))).1
            rw [HST.out, List.map_set]
            exact st
          · exact (heap_setCell_other _ _ _ _ (by have := hbp.lt; have := hW.size; show bp ≠ gn; omega)).trans hbp3.out
          · exact (heap_setCell_other _ _ _ _ (by have := hba.lt; have := hW.size; show ba ≠ gn; omega)).trans hba3.out
          · simp [World.setCell]; omega
      · obtain rfl : j = n := by omega
        have HF := Lib.hid (fdW_all Lc a (fun i hi => HS.out i (by rw [HLc.out] at hi; exact hi)))
        have HE := Lib.hid (show pre = wayL L a by rw [HW.out, wayL_end HF.out, List.append_nil])
        gi_wp2
        simp only [Exit.jump]
        go_end0
        exact ⟨⟨_, rfl⟩, R, by rw [← HE.out]; exact hJ2⟩

end Go.Proofs.Ytnbjnlgdolhlmaa

namespace Go.Proofs.Ytnbjnlgdolhlmaa
open Go.RowKit Go.Shelf

/-- How a round ends: it goes on, and the private block is as it was. -/
def privPost {α : Type} (B : Nat) (bs : Nat → Prop) (I : Nat → List α → World → Prop) (R : Nat) (xs : List α) (W : World) : Exit → Act → World → Prop
  | .normal, _, W' => KeepsFrom B W W' ∧ KeepB (fun b => bs b ∨ b = R) W W' ∧ I R xs W'
  | _, _, _ => False

variable {P : Program} {n : Nat}

theorem rangeFunc_priv {α : Type} {g : Operand} {ps : Array Tmp} {assign body : Code} {Q : Exit → Act → World → Prop} {a : Act} {w : World} (h1 : 1 ≤ n) {gf : Nat} {lb : Array Value}
    (hg : a.eval g = .func (.func gf) #[] lb) (eg : ∀ args w, (callFunc gf args).run P w = .ok (.enter gf args) w)
    {encs : α → Array Value} {et : Nat} {bs : Nat → Prop} {xs : List α} (hseq : SeqPriv (n - 1) P gf lb encs et bs xs w) (hps : ∀ x, (encs x).size = ps.size) (hbs : ∀ b, bs b → b < w.heap.size)
    (I : Nat → List α → World → Prop) (hI : ∀ R, OwnFrom w.heap.size (I R)) (hIR : ∀ R pre A B, I R pre A → A.grownBy B (some R) → I R pre B) (h0 : ∀ R, w.heap.size + 2 ≤ R → I R [] w) (Ax : Nat → List α → α → Act → World → Prop) (hAx : ∀ R pre x a', OwnFrom w.heap.size (fun (_ : Unit) W => Ax R pre x a' W))
    (hassign : ∀ (l R : Nat) (pre : List α) (x : α) (W : World) (K : Act → World → Prop), w.heap.size + 2 ≤ R → (∃ cs, W.heap[R]? = some (.cells cs et (0, 0))) → (pre ++ [x]) <+: xs → I R pre W → (∀ a' W', KeepsFrom w.heap.size W W' → KeepB (fun b => bs b ∨ b = R) W W' → I R pre W' → Ax R pre x a' W' → K a' W') →
      assign.wpIn (Fence.wide.inRound l) (n - 1 - 1) P (Exit.then K (fun _ _ _ => False)) { tmps := (ps.zip (encs x)).foldl (fun t (p, v) => t.setIfInBounds p v) a.tmps, defers := [] } W)
    (hbody : ∀ (l R : Nat) (pre : List α) (x : α) (a' : Act) (W : World), w.heap.size + 2 ≤ R → (∃ cs, W.heap[R]? = some (.cells cs et (0, 0))) → (pre ++ [x]) <+: xs → I R pre W → Ax R pre x a' W → body.wpIn (Fence.wide.inRound l) (n - 1 - 1) P (privPost w.heap.size bs I R (pre ++ [x]) W) a' W)
    (hdone : ∀ (D R : Nat) (W : World), w.heap.size ≤ D → w.heap.size + 2 ≤ R → I R xs W → W.heap[D]? = some (.deferred (some [])) → Q .normal { a with defers := { target := .collected D, args := #[] } :: a.defers } W) :
    (Code.rangeFunc g ps assign body).wpIn Fence.wide n P Q a w := by
  refine wpIn_rangeFunc fun fn hfn => ?_
  -- the record of the loop, at each of its states
  let C : LoopState → Option Code → Obj := fun st pe => .loop { state := st, pending := pe, fn, tmps := a.tmps, params := ps, assign, body, defers := w.heap.size }
  -- the two blocks of book-keeping, and the world in which the iterator is called
  let L : Nat := w.heap.size + 1
  obtain ⟨V, hV⟩ : ∃ V, (w.alloc (.deferred (some []))).alloc (C .ready none) = V := ⟨_, rfl⟩
  have bV : Below w.heap.size w V := by rw [← hV]; exact ((Below.refl _ w).alloc (Nat.le_refl _) _).alloc (by simp) _
  have sV : V.heap.size = w.heap.size + 2 := by rw [← hV]; simp
  have kV : V.heap[w.heap.size]? = some (.deferred (some [])) := by
    rw [← hV]; exact (Below.heap_alloc _ _ _ (by simp)).trans (World.alloc_heap_new w _)
  have lV : V.heap[L]? = some (C .ready none) := by
    rw [← hV]; have := World.alloc_heap_new (w.alloc (.deferred (some []))) (C .ready none); rwa [World.size_alloc] at this
  have iV : ∀ R, w.heap.size + 2 ≤ R → I R [] V := by rw [← hV]; exact fun R hR => (hI R).alloc _ ((hI R).alloc _ (h0 R hR))
  -- what holds between two rounds
  let J : Nat → List α → World → Prop := fun R pre W => w.heap.size + 2 ≤ R ∧ I R pre W ∧ W.heap[w.heap.size]? = some (.deferred (some [])) ∧ W.heap[L]? = some (C .ready none)
  refine ⟨L, [{ target := .collected w.heap.size, args := #[] }], V, { target := .fn (.func gf) lb, args := #[.func (.yield L) #[] #[]] }, V, gf, #[.func (.yield L) #[] #[]] ++ lb, V,
    by rw [← hV]; exact run_enterLoop_outer _ _ _ _ _, by simp only [resolve, hg]; simp [go_sem], fun _ _ => trivial, by simp [invoke, go_sem, eg], fun _ => h1, ?_⟩
  refine (hseq L J V bV (fun R pre A B ⟨hR, i, k, l⟩ hb => ⟨hR, hIR _ _ _ _ i hb, (hb.block _ (Array.getElem?_eq_some_iff.1 k).1 (by simp; omega)).trans k, (hb.block _ (Array.getElem?_eq_some_iff.1 l).1 (by simp [L]; omega)).trans l⟩) ?round (fun R hR => ⟨by omega, iV R (by omega), kV, lV⟩)).mono ?_
  case round =>
    rintro R pre x W _ ⟨cs, hcs⟩ hpx ⟨hR, i, k, l⟩
    refine ⟨fn, _, assign, body, run_yield l (hps x), roundIn_of_wpIn hfn (hassign L R pre x W _ hR ⟨cs, hcs⟩ hpx i fun a' U kf kp iU ax => ?_)⟩
    have kU := kf.same _ _ (Nat.le_refl _) k rfl
    have lU := kf.same _ _ (Nat.le_succ _) l rfl
    have ltU := (Array.getElem?_eq_some_iff.1 lU).1
    have hKb : ∀ (A : World) (o' : Obj), KeepB (fun b => bs b ∨ b = R) A (A.putObj L o') := fun A o' b hb => World.putObj_heap_other (by
      rcases hb with hb | rfl
      · have := hbs b hb; show b ≠ w.heap.size + 1; omega
      · show b ≠ w.heap.size + 1; omega)
    refine ⟨_, run_beginRound lU rfl, ?_⟩
    -- the round begins: the record is busy
    obtain ⟨U2, hU2⟩ : ∃ U2, U.putObj L (C .busy none) = U2 := ⟨_, rfl⟩
    have lU2 : U2.heap[L]? = some (C .busy none) := by rw [← hU2]; exact World.putObj_heap_same ltU
    have kU2 : U2.heap[w.heap.size]? = some (.deferred (some [])) := by rw [← hU2]; exact (World.putObj_heap_other (by omega)).trans kU
    have iU2 : I R pre U2 := by rw [← hU2]; exact (hI R).putObj _ iU (Nat.le_succ _) lU rfl
    have aU2 : Ax R pre x a' U2 := by rw [← hU2]; exact (hAx R pre x a').putObj (s := ()) _ ax (Nat.le_succ _) lU rfl
    have pU2 : KeepB (fun b => bs b ∨ b = R) U U2 := by rw [← hU2]; exact hKb _ _
    have sU2 : U2.heap.size = U.heap.size := by rw [← hU2]; simp [World.putObj]
    show body.wpIn (Fence.wide.inRound L) (n - 1 - 1) P _ a' (U.putObj L (C .busy none))
    rw [hU2]
    refine wpIn_mono (hbody L R pre x a' U2 hR ⟨cs, (pU2 R (.inr rfl)).trans ((kp R (.inr rfl)).trans hcs)⟩ hpx iU2 aU2) ?_
    rintro (_ | _ | _ | _ | _ | _) a3 U3 hp <;> first | exact hp.elim | skip
    obtain ⟨kf3, kp3, i3⟩ := hp
    have l3 := kf3.same _ _ (Nat.le_succ _) lU2 rfl
    have k3 := kf3.same _ _ (Nat.le_refl _) kU2 rfl
    refine ⟨_, _, run_endRound none l3, rfl, ⟨hR, (hI R).putObj _ i3 (Nat.le_succ _) l3 rfl, (World.putObj_heap_other (by omega)).trans k3, World.putObj_heap_same (Array.getElem?_eq_some_iff.1 l3).1⟩, ?_, ?_⟩
    · exact keepB_t kp (keepB_t pU2 (keepB_t kp3 (hKb _ _)))
    · have h1 := kf.size
      have h2 := kf3.size
      simp [World.putObj]
      omega
  · rintro e W2 ⟨⟨v, rfl⟩, R, hR, i, k, l⟩
    exact ⟨none, _, run_endLoop l (by simp), hdone _ R _ (Nat.le_refl _) hR ((hI R).putObj _ i (Nat.le_succ _) l rfl) ((World.putObj_heap_other (by omega)).trans k)⟩

end Go.Proofs.Ytnbjnlgdolhlmaa

namespace Go.Proofs.Ytnbjnlgdolhlmaa
open Go.RowKit Go.Shelf
set_option linter.unusedVariables false
attribute [local go_sem] Oper.semAt_some

theorem SeqPriv.later {α : Type} {n : Nat} {P : Program} {g : Nat} {lb : Array Value} {encs : α → Array Value} {et : Nat} {bs : Nat → Prop} {xs : List α} {w w' : World} (h : SeqPriv n P g lb encs et bs xs w) (hb : Below w.heap.size w w') : SeqPriv n P g lb encs et bs xs w' :=
  fun l J W hW => h l J W (hb.trans (hW.mono hb.size))
theorem ne_cells {e size B n c g R : Nat} {w : World} {xs : List Value} {et : Nat} {cs : Array Value} (h : OwnG e size B w (some ⟨g, 0, none⟩) n c xs) (hR : w.heap[R]? = some (.cells cs et (0, 0))) (ht : e ≠ et) : g ≠ R := by
  rintro rfl
  rcases h.2 with ⟨hv, _⟩ | ⟨g1, cap, cur, hv, _, hh, _⟩
  · simp at hv
  · injection hv with h1
    injection h1 with h1
    injection h1 with h1
    subst h1
    rw [hh] at hR
    injection hR with hR
    injection hR with _ h3
    exact ht h3

set_option maxRecDepth 100000 in
set_option maxHeartbeats 4000000 in
theorem appendSeq_priv (gf : Nat) (lb : Array Value) (bs : Nat → Prop) (M : List Mv) (w : World) (eg : ∀ args w, (callFunc gf args).run Try.prog w = .ok (.enter gf args) w) (hM : M.length ≤ 255) (hbs : ∀ b, bs b → b < w.heap.size) (hseq : SeqPriv 5 Try.prog gf lb mvEnc 2 bs M w) :
    Calls Try.prog 52 #[.slice none 0 0, .func (.func gf) #[] lb] w fun e w' => ∃ A' c', e = .returned (.slice A' M.length c') ∧ OwnM w.heap.size w' A' M.length c' M ∧ Below w.heap.size w w' := by
  obtain ⟨i0, hi, hz0, hz1, hz2⟩ := info_parts Try.infoM
  refine (callsIn_wide (n := 6)).1 ?_
  refine callsIn_of_wp_marks Try.func52 rfl trivial ?_ rfl
  simp only [Try.ntmps52, List.size_toArray, List.length_cons, List.length_nil, Nat.reduceAdd, Nat.reduceSub, Array.replicate_succ, Array.replicate_zero, List.push_toArray, List.append_toArray, List.nil_append, List.cons_append]
  gi_wp2_with fail
  have bM := Boxed.new w 29 (.slice none 0 0)
  have hB0 : Below w.heap.size w (w.alloc (.cells #[.slice none 0 0] 29)) := (Below.refl _ _).alloc (Nat.le_refl _) _
  have hsz : (w.alloc (.cells #[.slice none 0 0] 29)).heap.size = w.heap.size + 1 := by simp
  have hseq0 := hseq.later hB0
  generalize w.alloc (.cells #[.slice none 0 0] 29) = W0 at *
  refine rangeFunc_priv (by omega) (gf := gf) (lb := lb) rfl eg hseq0 (fun _ => rfl) (fun b hb => by have := hbs b hb; omega)
    (fun R pre W => (∃ v, Boxed W w.heap.size 29 v ∧ W.ownsRow w.heap.size 39 3 v pre.length (mvCells pre) ∧ v.ownBlock ≠ some R) ∧ Below w.heap.size w W ∧ w.heap.size + 1 ≤ W.heap.size ∧ w.heap.size + 3 ≤ R)
    (fun R => OwnFrom.and (Own.from (holdsRow_own w.heap.size w.heap.size 29 39 3 (fun pre : List Mv => pre.length) (fun pre => mvCells pre) (fun _ v => v.ownBlock ≠ some R)) _) (OwnFrom.and (ownFrom_below (Nat.le_refl _) (by omega)) (OwnFrom.and (ownFrom_size _ _) (fun _ _ _ _ hs _ _ => hs))))
    ?grow
    (fun R hR => ⟨⟨_, bM, World.ownsRow_nil _ _ _ _, by simp [Value.ownBlock]⟩, hB0, by omega, by omega⟩)
    (fun R pre x a' W => ∃ Bx, w.heap.size < Bx ∧ Box W Bx 39 #[.int .i64 x.1, .int .i64 x.2.1, .int .i64 x.2.2] ∧ a' = { tmps := #[.slice none 0 0, .func (.func gf) #[] lb, .pointer (some ⟨w.heap.size, 0, none⟩), undef, .slice none 0 0, .pointer (some ⟨Bx, 0, none⟩), .func (.func gf) #[] lb, mvV x, undef, undef, undef, undef, undef], defers := [] })
    (fun R pre x a' _ X Y row hs hg hr => by obtain ⟨Bx, h1, h2, h3⟩ := hs; exact ⟨Bx, h1, box_own Bx 39 _ () X Y row h2 hg (fun r e => (hr r e).2), h3⟩)
    ?assign ?body ?done
  case grow =>
    rintro R pre A B ⟨⟨v, hv, hrow, hne⟩, hB, hW, hR⟩ hg
    refine ⟨⟨v, hv.kept hg (by simp; omega), hrow.kept hg (.inr hne), hne⟩, hB.grown hg hB.size (fun k hk => by injection hk with hk; omega), Nat.le_trans hW hg.size, hR⟩
  case assign =>
    rintro l R pre x W K hR ⟨cs, hcs⟩ hpx ⟨⟨v, hv, hrow, hne⟩, hB, hW, hR3⟩ hK
    have hlt := hv.lt
    have hle := hB.size
    have hRl : R < W.heap.size := (Array.getElem?_eq_some_iff.1 hcs).1
    obtain ⟨x1, x2, x3⟩ := x
    dsimp only [mvEnc, mvV] at hK ⊢
    gi_wp2
    exact hK _ _ ((KeepsOthers.alloc _ _).from _) (keepB_below ((Below.refl W.heap.size W).alloc (Nat.le_refl _) _) (fun b hb => by
      rcases hb with hb | rfl
      · have := hbs b hb; omega
      · exact hRl)) ⟨⟨v, hv.alloc _, hrow.alloc _, hne⟩, hB.alloc hle _, by simp; omega, hR3⟩ ⟨W.heap.size, by omega, Box.new W 39 _, rfl⟩
  case body =>
    rintro l R pre x a' W hR ⟨cs, hcs⟩ hpx ⟨⟨v, hv, hrow, hne⟩, hB, hW, hR3⟩ ⟨Bx, hBx, bX, rfl⟩
    obtain ⟨A', c', rfl⟩ := ownG_shape hrow
    have hRl : R < W.heap.size := (Array.getElem?_eq_some_iff.1 hcs).1
    have hle := hB.size
    have HN := Lib.hid (show ∀ b, (bs b ∨ b = R) → b < W.heap.size ∧ some b ≠ (Value.slice A' pre.length c').ownBlock ∧ b ≠ w.heap.size from fun b hb => by
      rcases hb with hb | rfl
      · have h1 := hbs b hb
        exact ⟨by omega, fun e => by have := ows_bk hrow b e.symm; omega, by omega⟩
      · exact ⟨hRl, fun e => hne e.symm, by omega⟩)
    have hlen : pre.length < 256 := by
      have := hpx.length_le
      simp at this
      omega
    obtain ⟨x1, x2, x3⟩ := x
    dsimp only [mvV] at bX ⊢
    have hc := hv.cell
    obtain ⟨m0, m1, m2⟩ := bX.three
    clear hpx
    gi_wp2_with (gi_at_builtin; refine wpListIn_append_own _ rfl _ _ 29 rfl w.heap.size 39 i0 (.agg #[.int .i64 0, .int .i64 0, .int .i64 0]) 3 24 Try.underlying29 hi hz0 hz1 hz2 rfl (by decide) _ _ _ rfl (hrow.alloc _) ⟨W.heap.size, 0, none⟩ 1 1 [.int .i64 x1, .int .i64 x2, .int .i64 x3] rfl rfl (World.news_of_block (cs := #[.int .i64 x1, .int .i64 x2, .int .i64 x3]) (t := 39) (fr := (0, 0)) (heap_alloc_new W _)) (by simp [Value.oneCell']) (by unfold maxLen; omega) (by omega) (by simp; omega) ?_; intro v' w2 hown' hgrow _; obtain ⟨g', cap', rfl⟩ := ownsRow_succ hown'; obtain ⟨hv1, hv2, hr2, hk2, hb2⟩ := hv.appended (by decide) hrow hle (by omega) hown' hgrow; have hc1 := hv1.cell; have hf1 := hv1.frozen; have hK2 := Lib.hid (keepB_appended (u := .slice (some ⟨g', 0, none⟩) (pre.length + 1) cap') (B := w.heap.size) hgrow HN.out); have hgs := hgrow.size)
    refine ⟨hk2.from _, hK2.out, ⟨⟨_, hv2, ?_, ?_⟩, hB.trans hb2, ?_, hR3⟩⟩
    · rw [List.length_append, mvCells_snoc]
      exact hr2
    · have h1 := ne_cells hr2 ((hK2.out R (.inr rfl)).trans hcs) (by decide)
      simpa [Value.ownBlock] using h1
    · simp at hgs ⊢
      omega
  case done =>
    rintro D R W hD hR ⟨⟨v, hv, hrow, _⟩, hB, hW, hR3⟩ hK
    have hc := hv.cell
    obtain ⟨A', c', rfl⟩ := ownG_shape hrow
    gi_wp2
    refine ⟨by simp, .inl ⟨_, _, rfl, run_takeDeferred hK, ?_⟩⟩
    refine ⟨_, results_tmp rfl _ _ _, A', c', rfl, ownsRow_putObj hrow _ hK rfl, hB.trans (belowK_b (w := w) (Nat.le_refl _) W D _ _ (by omega) hK rfl rfl)⟩

theorem collect_priv (gf : Nat) (lb : Array Value) (bs : Nat → Prop) (M : List Mv) (w : World) (eg : ∀ args w, (callFunc gf args).run Try.prog w = .ok (.enter gf args) w) (hM : M.length ≤ 255) (hbs : ∀ b, bs b → b < w.heap.size) (hseq : SeqPriv 5 Try.prog gf lb mvEnc 2 bs M w) :
    Calls Try.prog 28 #[.func (.func gf) #[] lb] w fun e w' => ∃ A' c', e = .returned (.slice A' M.length c') ∧ OwnM w.heap.size w' A' M.length c' M ∧ Below w.heap.size w w' := by
  go_enter Try.func28, Try.ntmps28
  go_wp2_with fail
  refine (appendSeq_priv gf lb bs M _ eg hM hbs hseq).mono ?_
  rintro e w1 ⟨A', c', rfl, hO, hb⟩
  go_wp2
  go_ret
  exact ⟨A', c', rfl, hO, hb⟩

end Go.Proofs.Ytnbjnlgdolhlmaa

namespace Go.Proofs.Ytnbjnlgdolhlmaa
open Go.RowKit
set_option linter.unusedVariables false

def wtL (p : Int) (L : List Int) (a : Int) : List Mv := if codeW p L a = 0 then wayL L a else []
theorem wtL_len (p : Int) (L : List Int) (a : Int) : (wtL p L a).length ≤ 255 := by
  unfold wtL
  split
  · next h =>
    have h8 := (state_facts (codeW_zero h).1 rfl).2.2.1
    exact wayL_bd h8
  · simp
theorem movesToPeg_calls (A : Option Addr) (n c : Nat) (a : Int) (w : World) :
    Calls Try.prog 29 #[.slice A n c, .int .i64 a] w fun e w' => e = .returned (.func (.func 53) #[] #[.pointer (some ⟨w.heap.size, 0, none⟩), .pointer (some ⟨w.heap.size + 1, 0, none⟩)]) ∧ w' = (w.alloc (.cells #[.slice A n c] 24)).alloc (.cells #[.int .i64 a] 2) := by
  go_enter Try.func29, Try.ntmps29
  go_wp2
  go_ret
  exact ⟨rfl, rfl⟩

set_option maxHeartbeats 1000000 in
theorem specWayToPeg_ret (A : Option Addr) (n c : Nat) (p : Int) (L : List Int) (a : Int) (w : World) (hL : L.length = n) (hn : n ≤ 1048576) (hA : A = none → c = 0) (hI : Ints w A L) :
    Calls Try.prog 7 #[.agg #[.int .i64 p, .slice A n c], .int .i64 a] w (RetMvs w (wtL p L a).length (wtL p L a) (codeW p L a)) := by
  have HL := Lib.hid hL
  have HNA := Lib.hid hA
  clear hA
  have X0 := Lib.hid (Box.new w 26 #[.int .i64 p, .slice A n c])
  have HB0 := Lib.hid ((Below.refl _ w).alloc (Nat.le_refl _) (.cells #[.int .i64 p, .slice A n c] 26))
  have HI0 := Lib.hid (hI.below HB0.out)
  clear hL hI
  by_cases hz : codeW p L a = 0
  · obtain ⟨hs, hp, ha⟩ := codeW_zero hz
    have e1 : wtL p L a = wayL L a := by unfold wtL; rw [if_pos hz]
    rw [e1, hz]
    have hz' : (codeW p L a != 0) = false := by simpa using hz
    subst hp
    have h8 := (state_facts hs HL.out).2.2.1
    have HP := Lib.hid (state_pegsOk hs)
    have HWB := Lib.hid (show (wayL L a).length ≤ 255 from wayL_bd (by rw [HL.out]; exact h8))
    clear e1 hz hs
    go_enter Try.func7, Try.ntmps7
    go_wp2_with fail
    refine (l02With_calls A n c 3 L a _ HL.out hn HI0.out).mono ?_
    rintro e w1 ⟨rfl, hb1⟩
    have X1 := Lib.hid (X0.out.below hb1 X0.out.lt)
    have HB1 := Lib.hid (HB0.out.trans (hb1.mono HB0.out.size))
    have HI1 := Lib.hid (HI0.out.below hb1)
    clear hb1
    obtain ⟨x0, x1, _, _⟩ := X1.out.two
    go_wp2_with fail
    refine (l02Way_calls A n c L a _ HL.out h8 HNA.out HI1.out HP.out ha).mono ?_
    rintro e w2 ⟨A', c', rfl, hO, hb2⟩
    have HB2 := Lib.hid (HB1.out.trans (hb2.mono HB1.out.size))
    have HO := Lib.hid (OwnG.mono hO HB1.out.size)
    clear hb2 hO
    go_wp2
    go_ret2
    exact ⟨_, _, rfl, HO.out, HB2.out⟩
  · have hz' : (codeW p L a != 0) = true := by simpa using hz
    have e1 : wtL p L a = [] := by unfold wtL; rw [if_neg hz]
    rw [e1]
    clear e1
    show Calls _ _ _ _ (RetMvs w ([] : List Mv).length [] (codeW p L a))
    go_enter Try.func7, Try.ntmps7
    go_wp2_with fail
    refine (l02With_calls A n c p L a _ HL.out hn HI0.out).mono ?_
    rintro e w1 ⟨rfl, hb1⟩
    have HB1 := Lib.hid (HB0.out.trans (hb1.mono HB0.out.size))
    clear hb1
    go_wp2
    go_ret2
    exact retMvs_zero rfl HB1.out

set_option maxHeartbeats 1000000 in
theorem implWayToPeg_ret (A : Option Addr) (n c : Nat) (p : Int) (L : List Int) (a : Int) (w : World) (hL : L.length = n) (hn : n ≤ 1048576) (hA : A = none → c = 0) (hI : Ints w A L) :
    Calls Try.prog 6 #[.agg #[.int .i64 p, .slice A n c], .int .i64 a] w (RetMvs w (wtL p L a).length (wtL p L a) (codeW p L a)) := by
  have HL := Lib.hid hL
  have HNA := Lib.hid hA
  clear hA
  have X0 := Lib.hid ((Box.new w 26 #[.int .i64 p, .slice A n c]).alloc (.cells #[.int .i64 p, .slice A n c] 26))
  have hX : Box ((w.alloc (.cells #[.int .i64 p, .slice A n c] 26)).alloc (.cells #[.int .i64 p, .slice A n c] 26)) (w.heap.size + 1) 26 #[.int .i64 p, .slice A n c] := by
    have := Box.new (w.alloc (.cells #[.int .i64 p, .slice A n c] 26)) 26 #[.int .i64 p, .slice A n c]
    rwa [World.size_alloc] at this
  have Y0 := Lib.hid hX
  have HB0 := Lib.hid (((Below.refl _ w).alloc (Nat.le_refl _) (.cells #[.int .i64 p, .slice A n c] 26)).alloc (by simp) (.cells #[.int .i64 p, .slice A n c] 26))
  have HI0 := Lib.hid (hI.below HB0.out)
  clear hL hI hX
  by_cases hz : codeW p L a = 0
  · obtain ⟨hs, hp, ha⟩ := codeW_zero hz
    have e1 : wtL p L a = wayL L a := by unfold wtL; rw [if_pos hz]
    rw [e1, hz]
    have hz' : (codeW p L a != 0) = false := by simpa using hz
    subst hp
    have h8 := (state_facts hs HL.out).2.2.1
    have HP := Lib.hid (state_pegsOk hs)
    have HWB := Lib.hid (show (wayL L a).length ≤ 255 from wayL_bd (by rw [HL.out]; exact h8))
    clear e1 hz hs
    go_enter Try.func6, Try.ntmps6
    go_wp2_with fail
    refine (codeOfPeg_one (w.heap.size + 1) A n c 3 L a _ Y0.out HL.out hn HI0.out).mono ?_
    rintro e w1 ⟨rfl, hb1⟩
    have X1 := Lib.hid (X0.out.below hb1 X0.out.lt)
    have HB1 := Lib.hid (HB0.out.trans (hb1.mono HB0.out.size))
    have HI1 := Lib.hid (HI0.out.below hb1)
    clear hb1
    obtain ⟨x0, x1, _, _⟩ := X1.out.two
    go_wp2_with fail
    refine (movesToPeg_calls A n c a _).mono ?_
    rintro e w2 ⟨rfl, rfl⟩
    have bP := (Box.new w1 24 #[.slice A n c]).alloc (.cells #[.int .i64 a] 2)
    have bA := Box.new (w1.alloc (.cells #[.slice A n c] 24)) 2 #[.int .i64 a]
    simp only [World.size_alloc] at bA
    have hb2 : Below w1.heap.size w1 ((w1.alloc (.cells #[.slice A n c] 24)).alloc (.cells #[.int .i64 a] 2)) := ((Below.refl _ _).alloc (Nat.le_refl _) _).alloc (by simp) _
    have hsz : ((w1.alloc (.cells #[.slice A n c] 24)).alloc (.cells #[.int .i64 a] 2)).heap.size = w1.heap.size + 2 := by simp
    have HI2 := Lib.hid (HI1.out.below hb2)
    have HB2 := Lib.hid (HB1.out.trans (hb2.mono HB1.out.size))
    have HSQ := Lib.hid (movesToPeg_priv 5 w1.heap.size (w1.heap.size + 1) (by omega) A n c L a HNA.out HL.out h8 HP.out ha _ bP bA HI2.out)
    clear hb2 x0 x1 bP bA
    go_wp2_with fail
    refine (collect_priv 53 _ _ (wayL L a) _ (enters_of Try.func53 (by kernel_rfl) rfl) HWB.out (fun b hb => by rcases hb with rfl | rfl <;> (rw [hsz]; omega)) HSQ.out).mono ?_
    rintro e w3 ⟨A', c', rfl, hO, hb3⟩
    have HB3 := Lib.hid (HB2.out.trans (hb3.mono HB2.out.size))
    have HO := Lib.hid (OwnG.mono hO HB2.out.size)
    clear hb3 hO hsz
    go_wp2
    go_ret2
    exact ⟨_, _, rfl, HO.out, HB3.out⟩
  · have hz' : (codeW p L a != 0) = true := by simpa using hz
    have e1 : wtL p L a = [] := by unfold wtL; rw [if_neg hz]
    rw [e1]
    clear e1
    show Calls _ _ _ _ (RetMvs w ([] : List Mv).length [] (codeW p L a))
    go_enter Try.func6, Try.ntmps6
    go_wp2_with fail
    refine (codeOfPeg_one (w.heap.size + 1) A n c p L a _ Y0.out HL.out hn HI0.out).mono ?_
    rintro e w1 ⟨rfl, hb1⟩
    have HB1 := Lib.hid (HB0.out.trans (hb1.mono HB0.out.size))
    clear hb1
    go_wp2
    go_ret2
    exact retMvs_zero rfl HB1.out

end Go.Proofs.Ytnbjnlgdolhlmaa

namespace Go.Proofs.Ytnbjnlgdolhlmaa
open Go.RowKit
set_option linter.unusedVariables false

theorem Box.set3 {w : World} {b t : Nat} {x y z a c d : Value} (h : Box w b t #[x, y, z]) : Box (((w.setCell ⟨b, 0, none⟩ a).setCell ⟨b, 1, none⟩ c).setCell ⟨b, 2, none⟩ d) b t #[a, c, d] := by
  have h1 := ((h.set 0 a).set 1 c).set 2 d
  simpa using h1
/-- The first move of the way; nothing if there is none. -/
def fmM (p : Int) (L : List Int) (a : Int) : Mv := if codeW p L a = 0 ∧ fdW L a < L.length then mvW L a else (0, 0, 0)
def fmE (p : Int) (L : List Int) (a : Int) : Int := if codeW p L a = 0 then (if fdW L a < L.length then 0 else 5) else codeW p L a
def RetFm (w : World) (m : Mv) (E : Int) (e : Ending) (w' : World) : Prop := e = .returned (.tuple #[.agg #[.int .i64 m.1, .int .i64 m.2.1, .int .i64 m.2.2], .int .i64 E]) ∧ Below w.heap.size w w'

set_option maxHeartbeats 1000000 in
theorem specFirstMove_ret (A : Option Addr) (n c : Nat) (p : Int) (L : List Int) (a : Int) (w : World) (hL : L.length = n) (hn : n ≤ 1048576) (hA : A = none → c = 0) (hI : Ints w A L) :
    Calls Try.prog 17 #[.agg #[.int .i64 p, .slice A n c], .int .i64 a] w (RetFm w (fmM p L a) (fmE p L a)) := by
  have HL := Lib.hid hL
  have HNA := Lib.hid hA
  clear hA
  have hb1 : Below w.heap.size w (w.alloc (.cells #[.int .i64 p, .slice A n c] 26)) := (Below.refl _ w).alloc (Nat.le_refl _) _
  have X0 := Lib.hid ((Box.new w 26 #[.int .i64 p, .slice A n c]).alloc (.cells #[.int .i64 0, .int .i64 0, .int .i64 0] 39))
  have hm := Box.new (w.alloc (.cells #[.int .i64 p, .slice A n c] 26)) 39 #[.int .i64 0, .int .i64 0, .int .i64 0]
  rw [World.size_alloc] at hm
  have M0 := Lib.hid hm
  have HB0 := Lib.hid (hb1.alloc (by simp) (.cells #[.int .i64 0, .int .i64 0, .int .i64 0] 39))
  have HI0 := Lib.hid (hI.below HB0.out)
  clear hL hI hm hb1
  by_cases hz : codeW p L a = 0
  · obtain ⟨hs, hp, ha⟩ := codeW_zero hz
    subst hp
    have hz' : (codeW 3 L a != 0) = false := by simpa using hz
    have h8 := (state_facts hs HL.out).2.2.1
    have HP := Lib.hid (state_pegsOk hs)
    have HWB := Lib.hid (show (wayL L a).length ≤ 255 from wayL_bd (by rw [HL.out]; exact h8))
    by_cases hf : fdW L a < L.length
    · have e1 : fmM 3 L a = mvW L a := by unfold fmM; rw [if_pos ⟨hz, hf⟩]
      have e2 : fmE 3 L a = 0 := by unfold fmE; rw [if_pos hz, if_pos hf]
      have HM := Lib.hid (wayL_more HP.out ha hf)
      rw [e1, e2]
      clear e1 e2 hz hs hf
      go_enter Try.func17, Try.ntmps17
      go_wp2_with fail
      refine (l02With_calls A n c 3 L a _ HL.out hn HI0.out).mono ?_
      rintro e w1 ⟨rfl, hb1⟩
      have X1 := Lib.hid (X0.out.below hb1 X0.out.lt)
      have M1 := Lib.hid (M0.out.below hb1 M0.out.lt)
      have HB1 := Lib.hid (HB0.out.trans (hb1.mono HB0.out.size))
      have HI1 := Lib.hid (HI0.out.below hb1)
      clear hb1
      obtain ⟨x0, x1, _, _⟩ := X1.out.two
      go_wp2_with fail
      refine (l02Way_calls A n c L a _ HL.out h8 HNA.out HI1.out HP.out ha).mono ?_
      rintro e w2 ⟨A', c', rfl, hO, hb2⟩
      have HB2 := Lib.hid (HB1.out.trans (hb2.mono HB1.out.size))
      have M2 := Lib.hid (M1.out.below hb2 M1.out.lt)
      obtain ⟨g, rfl, hg, k0, k1, k2⟩ := (OwnM.mvs hO) 0 (by rw [HM.out]; simp)
      have e0 : (wayL L a)[0]?.getD (0, 0, 0) = mvW L a := by rw [HM.out]; rfl
      rw [e0] at k0 k1 k2
      have hlen : ((wayL L a).length : Int) = ((wayL (stepW L a) a).length : Int) + 1 := by rw [HM.out]; simp
      have hl0 : (((wayL L a).length : Int) == 0) = false := by rw [beq_eq_false_iff_ne]; omega
      have hl1 : (0 : Int) < ((wayL L a).length : Int) := by omega
      clear hb2 hO x0 x1 e0 hlen
      have hf0 := M2.out.frozen 0
      have hf1 := M2.out.frozen 1
      have hf2 := M2.out.frozen 2
      clear HM
      generalize mvW L a = mv at *
      obtain ⟨y1, y2, y3⟩ := mv
      dsimp only at k0 k1 k2 ⊢
      rw [Nat.zero_mul] at k0
      rw [Nat.zero_mul, Nat.zero_add] at k1 k2
      generalize (wayL L a).length = len at *
      obtain ⟨m0, m1, m2⟩ := M2.out.three
      go_wp2
      obtain ⟨r0, r1, r2⟩ := (M2.out.set3 (a := .int .i64 y1) (c := .int .i64 y2) (d := .int .i64 y3)).three
      refine bodyPost_ret (v := .tuple #[.agg #[.int .i64 y1, .int .i64 y2, .int .i64 y3], .int .i64 0]) (by simp [results, Try.results17, go_sem, r0, r1, r2]) rfl ⟨rfl, ?_⟩
      exact ((HB2.out.setCell (by simp) _).setCell (by simp) _).setCell (by simp) _
    · have e1 : fmM 3 L a = (0, 0, 0) := by unfold fmM; rw [if_neg (fun h => hf h.2)]
      have e2 : fmE 3 L a = 5 := by unfold fmE; rw [if_pos hz, if_neg hf]
      have HM := Lib.hid (wayL_end (a := a) (L := L) (by have := fdW_le L a; omega))
      rw [e1, e2]
      clear e1 e2 hz hs hf
      go_enter Try.func17, Try.ntmps17
      go_wp2_with fail
      refine (l02With_calls A n c 3 L a _ HL.out hn HI0.out).mono ?_
      rintro e w1 ⟨rfl, hb1⟩
      have X1 := Lib.hid (X0.out.below hb1 X0.out.lt)
      have M1 := Lib.hid (M0.out.below hb1 M0.out.lt)
      have HB1 := Lib.hid (HB0.out.trans (hb1.mono HB0.out.size))
      have HI1 := Lib.hid (HI0.out.below hb1)
      clear hb1
      obtain ⟨x0, x1, _, _⟩ := X1.out.two
      go_wp2_with fail
      refine (l02Way_calls A n c L a _ HL.out h8 HNA.out HI1.out HP.out ha).mono ?_
      rintro e w2 ⟨A', c', rfl, hO, hb2⟩
      have HB2 := Lib.hid (HB1.out.trans (hb2.mono HB1.out.size))
      have M2 := Lib.hid (M1.out.below hb2 M1.out.lt)
      have hl0 : (((wayL L a).length : Int) == 0) = true := by rw [HM.out]; rfl
      clear hb2 hO x0 x1
      obtain ⟨m0, m1, m2⟩ := M2.out.three
      have hf0 := M2.out.frozen 0
      have hf1 := M2.out.frozen 1
      have hf2 := M2.out.frozen 2
      obtain ⟨r0, r1, r2⟩ := (M2.out.set3 (a := .int .i64 0) (c := .int .i64 0) (d := .int .i64 0)).three
      go_wp2
      refine bodyPost_ret (v := .tuple #[.agg #[.int .i64 0, .int .i64 0, .int .i64 0], .int .i64 5]) (by simp [results, Try.results17, go_sem, r0, r1, r2]) rfl ⟨rfl, ?_⟩
      exact ((HB2.out.setCell (by simp) _).setCell (by simp) _).setCell (by simp) _
  · have e1 : fmM p L a = (0, 0, 0) := by unfold fmM; rw [if_neg (fun h => hz h.1)]
    have e2 : fmE p L a = codeW p L a := by unfold fmE; rw [if_neg hz]
    have hz' : (codeW p L a != 0) = true := by simpa using hz
    rw [e1, e2]
    clear e1 e2 hz
    go_enter Try.func17, Try.ntmps17
    go_wp2_with fail
    refine (l02With_calls A n c p L a _ HL.out hn HI0.out).mono ?_
    rintro e w1 ⟨rfl, hb1⟩
    have M1 := Lib.hid (M0.out.below hb1 M0.out.lt)
    have HB1 := Lib.hid (HB0.out.trans (hb1.mono HB0.out.size))
    clear hb1
    obtain ⟨m0, m1, m2⟩ := M1.out.three
    have hf0 := M1.out.frozen 0
    have hf1 := M1.out.frozen 1
    have hf2 := M1.out.frozen 2
    obtain ⟨r0, r1, r2⟩ := (M1.out.set3 (a := .int .i64 0) (c := .int .i64 0) (d := .int .i64 0)).three
    go_wp2
    refine bodyPost_ret (v := .tuple #[.agg #[.int .i64 0, .int .i64 0, .int .i64 0], .int .i64 (codeW p L a)]) (by simp [results, Try.results17, go_sem, r0, r1, r2]) rfl ⟨rfl, ?_⟩
    exact ((HB1.out.setCell (by simp) _).setCell (by simp) _).setCell (by simp) _

end Go.Proofs.Ytnbjnlgdolhlmaa

namespace Go.Proofs.Ytnbjnlgdolhlmaa
open Go.RowKit Go.Shelf
set_option linter.unusedVariables false

/-- What the iterator owes: it keeps a private block R between its yields; a yield that answers false is the last. -/
def SeqPrivS {α : Type} (n : Nat) (P : Program) (g : Nat) (lb : Array Value) (encs : α → Array Value) (et : Nat) (bs : Nat → Prop) (xs : List α) (w : World) : Prop :=
  ∀ (l : Nat) (J : Nat → List α → World → Prop) (Z : World → Prop) (W : World), Below w.heap.size w W → (∀ R pre A B, J R pre A → A.grownBy B (some R) → J R pre B) →
    (∀ R pre x W1, W.heap.size ≤ R → (∃ cs, W1.heap[R]? = some (.cells cs et (0, 0))) → (pre ++ [x]) <+: xs → J R pre W1 → YieldAt Fence.wide (n - 1) P l (encs x) W1 fun e W' => (e = .returned (.bool true) ∧ J R (pre ++ [x]) W' ∧ KeepB (fun b => bs b ∨ b = R) W1 W' ∧ W1.heap.size ≤ W'.heap.size) ∨ (e = .returned (.bool false) ∧ Z W')) →
    (∀ R, W.heap.size ≤ R → J R [] W) → CallsIn Fence.wide n P g (#[.func (.yield l) #[] #[]] ++ lb) W fun e W' => (∃ v, e = .returned v) ∧ ((∃ R, J R xs W') ∨ Z W')

set_option maxRecDepth 100000 in
set_option maxHeartbeats 4000000 in
theorem movesToPeg_privS (N bp ba : Nat) (hN : 1 ≤ N) (A : Option Addr) (n c : Nat) (L : List Int) (a : Int) (hA : A = none → c = 0) (hL : L.length = n) (hn : n ≤ 8) (hp : pegsOk L) (ha : 0 ≤ a ∧ a ≤ 2) (w : World) (hbp : Box w bp 24 #[.slice A n c]) (hba : Box w ba 2 #[.int .i64 a]) (hI : Ints w A L) :
    SeqPrivS N Try.prog 53 #[.pointer (some ⟨bp, 0, none⟩), .pointer (some ⟨ba, 0, none⟩)] mvEnc 2 (fun b => b = bp ∨ b = ba) (wayL L a) w := by
  intro l J Z W hW hJ hY h0
  have hp1 := Lib.hid (hbp.below hW hbp.lt)
  have ha1 := Lib.hid (hba.below hW hba.lt)
  have HI := Lib.hid (hI.below hW)
  have HL := Lib.hid hL
  have HNA := Lib.hid hA
  clear hA
  have HP := Lib.hid hp
  clear hL hp hI
  refine callsIn_of_wp Try.func53 rfl trivial ?_ rfl
  simp only [Try.ntmps53, List.size_toArray, List.length_cons, List.length_nil, Nat.reduceAdd, Nat.reduceSub, Array.replicate_succ, Array.replicate_zero, List.push_toArray, List.append_toArray, List.nil_append, List.cons_append]
  refine wpIn_scope_once 0 (fun j a' w' => ∃ (Lc : List Int) (pre : List Mv) (R : Nat) (An : Option Addr) (cn : Nat) (u5 u6 u7 u8 u9 u10 u11 u12 u13 u14 u15 u16 u17 u18 u19 u20 u21 u22 u23 u24 u25 u26 u27 u28 u29 u30 u31 u32 u33 u34 u35 u36 u37 u38 : Value), a' = { tmps := #[.func (.yield l) #[] #[], .pointer (some ⟨bp, 0, none⟩), .pointer (some ⟨ba, 0, none⟩), undef, .slice An n cn, u5, u6, u7, u8, u9, u10, u11, u12, u13, u14, u15, u16, u17, u18, u19, u20, u21, u22, u23, u24, u25, u26, u27, u28, u29, u30, u31, u32, u33, u34, u35, u36, u37, u38], defers := [] } ∧ Hid (j = (distP Lc a).toNat) ∧ Hid (wayL L a = pre ++ wayL Lc a) ∧ Hid (Lc.length = n) ∧ Hid (pegsOk Lc) ∧ J R pre w' ∧ W.heap.size ≤ R ∧ (∀ g, An = some ⟨g, 0, none⟩ → g = R) ∧ OwnG 2 1 W.heap.size w' An n cn (Lc.map (Value.int .i64)) ∧ Box w' bp 24 #[.slice A n c] ∧ Box w' ba 2 #[.int .i64 a] ∧ W.heap.size ≤ w'.heap.size) rfl ?_ ?_
  · obtain ⟨c0, _⟩ := hp1.out.one
    gi_wp2_with fail
    refine ⟨trivial, ?_⟩
    refine (callsIn_wide.2 (cloneA_calls A n c L W HL.out (by omega) HNA.out HI.out)).mono ?_
    rintro e w1 ⟨An, cn, rfl, hO, hb⟩
    gi_wp2
    have hO' : OwnG 2 1 W.heap.size w1 An n cn (L.map (Value.int .i64)) := hO
    rcases hO'.form with ⟨rfl, h1, h2⟩ | ⟨g, rfl, hB, hg⟩
    · exact ⟨_, L, [], W.heap.size, none, cn, _, _, _, _, _, _, _, _, _, _, _, _, _, _, _, _, _, _, _, _, _, _, _, _, _, _, _, _, _, _, _, _, _, _, rfl, Lib.hid rfl, Lib.hid rfl, HL, HP, hJ _ _ _ _ (h0 _ (Nat.le_refl _)) (grownR hb), Nat.le_refl _, (fun g h => by cases h), hO', hp1.out.below hb hp1.out.lt, ha1.out.below hb ha1.out.lt, hb.size⟩
    · exact ⟨_, L, [], g, some ⟨g, 0, none⟩, cn, _, _, _, _, _, _, _, _, _, _, _, _, _, _, _, _, _, _, _, _, _, _, _, _, _, _, _, _, _, _, _, _, _, _, rfl, Lib.hid rfl, Lib.hid rfl, HL, HP, hJ _ _ _ _ (h0 _ hB) (grownR hb), hB, (fun g' h => by injection h with h; injection h with h; exact h.symm), hO', hp1.out.below hb hp1.out.lt, ha1.out.below hb ha1.out.lt, hb.size⟩
  · rintro j0 a' wr ⟨Lc, pre, R, An, cn, u5, u6, u7, u8, u9, u10, u11, u12, u13, u14, u15, u16, u17, u18, u19, u20, u21, u22, u23, u24, u25, u26, u27, u28, u29, u30, u31, u32, u33, u34, u35, u36, u37, u38, rfl, HJ0, HW, HLc, HPc, hJr, hR, hAR, hN1, hbp1, hba1, hsz⟩
    have HN := Lib.hid hN1
    obtain ⟨c1, _⟩ := hba1.one
    gi_wp2_with fail
    refine ⟨trivial, ?_⟩
    refine (callsIn_wide.2 (goalsOf_calls An n cn Lc a wr HLc.out hn (intsW HN.out) HPc.out ha)).mono ?_
    rintro e w2 ⟨g, rfl, hg, hrow, hb2⟩
    have HG := Lib.hid (own_of_row (B := wr.heap.size) hrow hg (by rw [goalsL_len]; exact HLc.out) hn)
    have HN2 := Lib.hid (OwnG.below HN.out hb2)
    have hbp2 := Lib.hid (hbp1.below hb2 hbp1.lt)
    have hba2 := Lib.hid (hba1.below hb2 hba1.lt)
    have hJ2 := hJ _ _ _ _ hJr (grownR (r := some R) hb2)
    have hs2 := hb2.size
    clear hrow hb2 HN hN1 c1 hJr hbp1 hba1
    gi_wp2
    gi_loopw [5, 6, 13] (fun _ _ i wr' => ∃ j : Nat, j ≤ n ∧ i = .int .i64 j ∧ Hid (∀ i, i < j → Lc[i]?.getD 0 = (goalsL Lc a)[i]?.getD 0) ∧ wr' = w2) (fun _ _ i _ => n - (intOf i).toNat)
    case atStart => exact ⟨0, Nat.zero_le _, rfl, Lib.hid (fun i hi => absurd hi (by omega)), rfl⟩
    case round =>
      obtain ⟨j, hj, rfl, HS, rfl⟩ := hrel
      by_cases hlt : j < n
      · obtain ⟨gn, rfl, hBn, hgnl, hcn⟩ := ownAtW HN2.out HLc.out hlt
        obtain rfl := hAR gn rfl
        obtain ⟨_, hag, hBg, hgl, hcg⟩ := ownAtW HG.out (by rw [goalsL_len]; exact HLc.out) hlt
        injection hag with hag
        injection hag with hag
        subst hag
        have hk0 : (0 : Int) ≤ (j : Int) := by omega
        have hk1 : (j : Int) < (n : Int) := by omega
        by_cases hne : Lc[j]?.getD 0 = (goalsL Lc a)[j]?.getD 0
        · have ht : (Lc[j]?.getD 0 == (goalsL Lc a)[j]?.getD 0) = true := by simpa using hne
          have HS2 := Lib.hid (show ∀ i, i < j + 1 → Lc[i]?.getD 0 = (goalsL Lc a)[i]?.getD 0 from fun i hi => by
            by_cases h : i = j
            · rw [h]; exact hne
            · exact HS.out i (by omega))
          clear hne
          gi_wp2
          go_roundw
          case rel => exact ⟨j + 1, by omega, by go_num, HS2, trivial⟩
          case measure => simp [intOf]; omega
        · have ht : (Lc[j]?.getD 0 == (goalsL Lc a)[j]?.getD 0) = false := by simpa using hne
          have HF := Lib.hid (fdW_is Lc a (by rw [HLc.out]; exact hlt) HS.out hne)
          clear hne
          have hmore := wayL_more HPc.out ha (by rw [HF.out, HLc.out]; exact hlt)
          have HMV := Lib.hid (show mvW Lc a = ((j : Int), Lc[j]?.getD 0, (goalsL Lc a)[j]?.getD 0) by unfold mvW; rw [HF.out])
          have HST := Lib.hid (show stepW Lc a = Lc.set j ((goalsL Lc a)[j]?.getD 0) by unfold stepW; rw [HF.out])
          have HW' := Lib.hid (show wayL L a = (pre ++ [((j : Int), Lc[j]?.getD 0, (goalsL Lc a)[j]?.getD 0)]) ++ wayL (stepW Lc a) a by rw [HW.out, hmore, HMV.out]; simp)
          have HLs := Lib.hid (show (stepW Lc a).length = n by rw [stepW_len]; exact HLc.out)
          have HPs := Lib.hid (stepW_pegs Lc a HPc.out ha)
          have HLT := Lib.hid (show (distP (stepW Lc a) a).toNat < j0 by
            have h1 := (fdW_lt_iff Lc a).1 (by rw [HF.out, HLc.out]; exact hlt)
            have h2 := (stepW_dist Lc a HPc.out ha h1).1
            have h3 := distP_nonneg (stepW Lc a) a
            rw [HJ0.out]
            omega)
          obtain ⟨fn, tmps, assign, body, hy, hR3⟩ := hY gn pre ((j : Int), Lc[j]?.getD 0, (goalsL Lc a)[j]?.getD 0) wr hR (ownCells HN2.out) ⟨_, HW'.out.symm⟩ hJ2
          dsimp only [mvEnc, mvV] at hy
          clear hmore
          gi_wp2
          refine hR3.mono ?_
          rintro e W3 (⟨rfl, hJ3, hk3, hs3⟩ | ⟨rfl, hZ⟩)
          rotate_left
          · gi_wp2
            simp only [Exit.jump]
            refine bodyPost_ret (results_none rfl _ _ _) rfl ?_
            exact ⟨⟨_, rfl⟩, .inr hZ⟩
          have HN3 := Lib.hid (ownKeptW HN2.out (hk3 _ (.inr rfl)) hs3)
          have hbp3 := Lib.hid ((hk3 _ (.inl (.inl rfl))).trans hbp2.out)
          have hba3 := Lib.hid ((hk3 _ (.inl (.inr rfl))).trans hba2.out)
          clear hcn
          obtain ⟨_, h0', _, hgnl3, hcn⟩ := ownAtW HN3.out HLc.out hlt
          injection h0' with h0'
          injection h0' with h0'
          subst h0'
          have hfz := OwnG.frozen HN3.out rfl j
          gi_wp2
          refine wpIn_goto ?_
          change _ ∧ _
          refine ⟨rfl, _, ⟨stepW Lc a, _, gn, some ⟨gn, 0, none⟩, cn, _, _, _, _, _, _, _, _, _, _, _, _, _, _, _, _, _, _, _, _, _, _, _, _, _, _, _, _, _, _, _, _, _, _, rfl, Lib.hid rfl, HW', HLs, HPs, hJ _ _ _ _ hJ3 (grownSet _ _ _ _), hR, (fun g h => by injection h with h; injection h with h; exact h.symm), ?_, ?_, ?_, ?_⟩, HLT.out⟩
          · have st := (World.ownsRow.stored HN3.out j (.int .i64 ((goalsL Lc a)[j]?.getD 0))).1
            rw [HST.out, List.map_set]
            exact st
          · exact (heap_setCell_other _ _ _ _ (by have := hbp.lt; have := hW.size; show bp ≠ gn; omega)).trans hbp3.out
          · exact (heap_setCell_other _ _ _ _ (by have := hba.lt; have := hW.size; show ba ≠ gn; omega)).trans hba3.out
          · simp [World.setCell]; omega
      · obtain rfl : j = n := by omega
        have HF := Lib.hid (fdW_all Lc a (fun i hi => HS.out i (by rw [HLc.out] at hi; exact hi)))
        have HE := Lib.hid (show pre = wayL L a by rw [HW.out, wayL_end HF.out, List.append_nil])
        gi_wp2
        simp only [Exit.jump]
        go_end0
        exact ⟨⟨_, rfl⟩, .inl ⟨R, by rw [← HE.out]; exact hJ2⟩⟩

end Go.Proofs.Ytnbjnlgdolhlmaa

namespace Go.Proofs.Ytnbjnlgdolhlmaa
open Go.RowKit Go.Shelf

/-- How a round ends: it goes on, and the private block is as it was; or it returns. -/
def privPostS {α : Type} (B : Nat) (bs : Nat → Prop) (Ix : World → Prop) (I : Nat → List α → World → Prop) (R : Nat) (xs : List α) (W : World) : Exit → Act → World → Prop
  | .normal, _, W' => KeepsFrom B W W' ∧ KeepB (fun b => bs b ∨ b = R) W W' ∧ I R xs W'
  | .ret, _, W' => KeepsFrom B W W' ∧ Ix W'
  | _, _, _ => False

variable {P : Program} {n : Nat}

theorem rangeFunc_privS {α : Type} {g : Operand} {ps : Array Tmp} {assign body : Code} {Q : Exit → Act → World → Prop} {a : Act} {w : World} (h1 : 1 ≤ n) {gf : Nat} {lb : Array Value}
    (hg : a.eval g = .func (.func gf) #[] lb) (eg : ∀ args w, (callFunc gf args).run P w = .ok (.enter gf args) w)
    {encs : α → Array Value} {et : Nat} {bs : Nat → Prop} {xs : List α} (hseq : SeqPrivS (n - 1) P gf lb encs et bs xs w) (hps : ∀ x, (encs x).size = ps.size) (hbs : ∀ b, bs b → b < w.heap.size)
    (I : Nat → List α → World → Prop) (Ix : World → Prop) (hIx : OwnFrom w.heap.size (fun (_ : Unit) W => Ix W)) (hI : ∀ R, OwnFrom w.heap.size (I R)) (hIR : ∀ R pre A B, I R pre A → A.grownBy B (some R) → I R pre B) (h0 : ∀ R, w.heap.size + 2 ≤ R → I R [] w) (Ax : Nat → List α → α → Act → World → Prop) (hAx : ∀ R pre x a', OwnFrom w.heap.size (fun (_ : Unit) W => Ax R pre x a' W))
    (hassign : ∀ (l R : Nat) (pre : List α) (x : α) (W : World) (K : Act → World → Prop), w.heap.size + 2 ≤ R → (∃ cs, W.heap[R]? = some (.cells cs et (0, 0))) → (pre ++ [x]) <+: xs → I R pre W → (∀ a' W', KeepsFrom w.heap.size W W' → KeepB (fun b => bs b ∨ b = R) W W' → I R pre W' → Ax R pre x a' W' → K a' W') →
      assign.wpIn (Fence.wide.inRound l) (n - 1 - 1) P (Exit.then K (fun _ _ _ => False)) { tmps := (ps.zip (encs x)).foldl (fun t (p, v) => t.setIfInBounds p v) a.tmps, defers := [] } W)
    (hbody : ∀ (l R : Nat) (pre : List α) (x : α) (a' : Act) (W : World), w.heap.size + 2 ≤ R → (∃ cs, W.heap[R]? = some (.cells cs et (0, 0))) → (pre ++ [x]) <+: xs → I R pre W → Ax R pre x a' W → body.wpIn (Fence.wide.inRound l) (n - 1 - 1) P (privPostS w.heap.size bs Ix I R (pre ++ [x]) W) a' W)
    (hdone : ∀ (D R : Nat) (W : World), w.heap.size ≤ D → w.heap.size + 2 ≤ R → I R xs W → W.heap[D]? = some (.deferred (some [])) → Q .normal { a with defers := { target := .collected D, args := #[] } :: a.defers } W)
    (hstop : ∀ (D : Nat) (W : World), w.heap.size ≤ D → Ix W → W.heap[D]? = some (.deferred (some [])) → Code.ret.wpIn Fence.wide n P Q { a with defers := { target := .collected D, args := #[] } :: a.defers } W) :
    (Code.rangeFunc g ps assign body).wpIn Fence.wide n P Q a w := by
  refine wpIn_rangeFunc fun fn hfn => ?_
  -- the record of the loop, at each of its states
  let C : LoopState → Option Code → Obj := fun st pe => .loop { state := st, pending := pe, fn, tmps := a.tmps, params := ps, assign, body, defers := w.heap.size }
  -- the two blocks of book-keeping, and the world in which the iterator is called
  let L : Nat := w.heap.size + 1
  obtain ⟨V, hV⟩ : ∃ V, (w.alloc (.deferred (some []))).alloc (C .ready none) = V := ⟨_, rfl⟩
  have bV : Below w.heap.size w V := by rw [← hV]; exact ((Below.refl _ w).alloc (Nat.le_refl _) _).alloc (by simp) _
  have sV : V.heap.size = w.heap.size + 2 := by rw [← hV]; simp
  have kV : V.heap[w.heap.size]? = some (.deferred (some [])) := by
    rw [← hV]; exact (Below.heap_alloc _ _ _ (by simp)).trans (World.alloc_heap_new w _)
  have lV : V.heap[L]? = some (C .ready none) := by
    rw [← hV]; have := World.alloc_heap_new (w.alloc (.deferred (some []))) (C .ready none); rwa [World.size_alloc] at this
  have iV : ∀ R, w.heap.size + 2 ≤ R → I R [] V := by rw [← hV]; exact fun R hR => (hI R).alloc _ ((hI R).alloc _ (h0 R hR))
  -- what holds between two rounds
  let J : Nat → List α → World → Prop := fun R pre W => w.heap.size + 2 ≤ R ∧ I R pre W ∧ W.heap[w.heap.size]? = some (.deferred (some [])) ∧ W.heap[L]? = some (C .ready none)
  let Z : World → Prop := fun W => Ix W ∧ W.heap[w.heap.size]? = some (.deferred (some [])) ∧ W.heap[L]? = some (C .done (some .ret))
  refine ⟨L, [{ target := .collected w.heap.size, args := #[] }], V, { target := .fn (.func gf) lb, args := #[.func (.yield L) #[] #[]] }, V, gf, #[.func (.yield L) #[] #[]] ++ lb, V,
    by rw [← hV]; exact run_enterLoop_outer _ _ _ _ _, by simp only [resolve, hg]; simp [go_sem], fun _ _ => trivial, by simp [invoke, go_sem, eg], fun _ => h1, ?_⟩
  refine (hseq L J Z V bV (fun R pre A B ⟨hR, i, k, l⟩ hb => ⟨hR, hIR _ _ _ _ i hb, (hb.block _ (Array.getElem?_eq_some_iff.1 k).1 (by simp; omega)).trans k, (hb.block _ (Array.getElem?_eq_some_iff.1 l).1 (by simp [L]; omega)).trans l⟩) ?round (fun R hR => ⟨by omega, iV R (by omega), kV, lV⟩)).mono ?_
  case round =>
    rintro R pre x W _ ⟨cs, hcs⟩ hpx ⟨hR, i, k, l⟩
    refine ⟨fn, _, assign, body, run_yield l (hps x), roundIn_of_wpIn hfn (hassign L R pre x W _ hR ⟨cs, hcs⟩ hpx i fun a' U kf kp iU ax => ?_)⟩
    have kU := kf.same _ _ (Nat.le_refl _) k rfl
    have lU := kf.same _ _ (Nat.le_succ _) l rfl
    have ltU := (Array.getElem?_eq_some_iff.1 lU).1
    have hKb : ∀ (A : World) (o' : Obj), KeepB (fun b => bs b ∨ b = R) A (A.putObj L o') := fun A o' b hb => World.putObj_heap_other (by
      rcases hb with hb | rfl
      · have := hbs b hb; show b ≠ w.heap.size + 1; omega
      · show b ≠ w.heap.size + 1; omega)
    refine ⟨_, run_beginRound lU rfl, ?_⟩
    -- the round begins: the record is busy
    obtain ⟨U2, hU2⟩ : ∃ U2, U.putObj L (C .busy none) = U2 := ⟨_, rfl⟩
    have lU2 : U2.heap[L]? = some (C .busy none) := by rw [← hU2]; exact World.putObj_heap_same ltU
    have kU2 : U2.heap[w.heap.size]? = some (.deferred (some [])) := by rw [← hU2]; exact (World.putObj_heap_other (by omega)).trans kU
    have iU2 : I R pre U2 := by rw [← hU2]; exact (hI R).putObj _ iU (Nat.le_succ _) lU rfl
    have aU2 : Ax R pre x a' U2 := by rw [← hU2]; exact (hAx R pre x a').putObj (s := ()) _ ax (Nat.le_succ _) lU rfl
    have pU2 : KeepB (fun b => bs b ∨ b = R) U U2 := by rw [← hU2]; exact hKb _ _
    have sU2 : U2.heap.size = U.heap.size := by rw [← hU2]; simp [World.putObj]
    show body.wpIn (Fence.wide.inRound L) (n - 1 - 1) P _ a' (U.putObj L (C .busy none))
    rw [hU2]
    refine wpIn_mono (hbody L R pre x a' U2 hR ⟨cs, (pU2 R (.inr rfl)).trans ((kp R (.inr rfl)).trans hcs)⟩ hpx iU2 aU2) ?_
    rintro (_ | _ | _ | _ | _ | _) a3 U3 hp <;> first | exact hp.elim | skip
    · obtain ⟨kf3, kp3, i3⟩ := hp
      have l3 := kf3.same _ _ (Nat.le_succ _) lU2 rfl
      have k3 := kf3.same _ _ (Nat.le_refl _) kU2 rfl
      refine ⟨_, _, run_endRound none l3, .inl ⟨rfl, ⟨hR, (hI R).putObj _ i3 (Nat.le_succ _) l3 rfl, (World.putObj_heap_other (by omega)).trans k3, World.putObj_heap_same (Array.getElem?_eq_some_iff.1 l3).1⟩, ?_, ?_⟩⟩
      · exact keepB_t kp (keepB_t pU2 (keepB_t kp3 (hKb _ _)))
      · have h1 := kf.size
        have h2 := kf3.size
        simp [World.putObj]
        omega
    · obtain ⟨kf3, i3⟩ := hp
      have l3 := kf3.same _ _ (Nat.le_succ _) lU2 rfl
      have k3 := kf3.same _ _ (Nat.le_refl _) kU2 rfl
      exact ⟨_, _, run_endRound (some .ret) l3, .inr ⟨rfl, hIx.putObj (s := ()) _ i3 (Nat.le_succ _) l3 rfl, (World.putObj_heap_other (by omega)).trans k3, World.putObj_heap_same (Array.getElem?_eq_some_iff.1 l3).1⟩⟩
  · rintro e W2 ⟨⟨v, rfl⟩, ⟨R, hR, i, k, l⟩ | ⟨i, k, l⟩⟩
    · exact ⟨none, _, run_endLoop l (by simp), hdone _ R _ (Nat.le_refl _) hR ((hI R).putObj _ i (Nat.le_succ _) l rfl) ((World.putObj_heap_other (by omega)).trans k)⟩
    · exact ⟨some .ret, _, run_endLoop l (by simp), hstop _ _ (Nat.le_refl _) (hIx.putObj (s := ()) _ i (Nat.le_succ _) l rfl) ((World.putObj_heap_other (by omega)).trans k)⟩

end Go.Proofs.Ytnbjnlgdolhlmaa

namespace Go.Proofs.Ytnbjnlgdolhlmaa
open Go.RowKit Go.Shelf
set_option linter.unusedVariables false
attribute [local go_sem] Oper.semAt_some

/-- What holds ahead of the round, and behind its return. -/
def FmI (b4 b5 B : Nat) (w0 : World) (R : Nat) (pre : List Mv) (W : World) : Prop :=
  (pre = [] ∧ b5 < R) ∧ Box W b4 39 #[.int .i64 0, .int .i64 0, .int .i64 0] ∧ Box W b5 2 #[.int .i64 0] ∧ Below B w0 W
def FmX (q : Prop) (b4 b5 B : Nat) (w0 : World) (m : Mv) (W : World) : Prop :=
  q ∧ Box W b4 39 #[.int .i64 m.1, .int .i64 m.2.1, .int .i64 m.2.2] ∧ Box W b5 2 #[.int .i64 0] ∧ Below B w0 W

theorem heap_set4 (D b4 b5 : Nat) (h4 : D ≠ b4) (h5 : D ≠ b5) (W : World) (x y z u : Value) {o : Obj} (h : W.heap[D]? = some o) :
    ((((W.setCell ⟨b4, 0, none⟩ x).setCell ⟨b4, 1, none⟩ y).setCell ⟨b4, 2, none⟩ z).setCell ⟨b5, 0, none⟩ u).heap[D]? = some o := by
  rw [heap_setCell_other _ _ _ _ h5, heap_setCell_other _ _ _ _ h4, heap_setCell_other _ _ _ _ h4, heap_setCell_other _ _ _ _ h4]
  exact h

set_option maxRecDepth 100000 in
set_option maxHeartbeats 4000000 in
theorem implFirstMove_ret (A : Option Addr) (n c : Nat) (p : Int) (L : List Int) (a : Int) (w : World) (hL : L.length = n) (hn : n ≤ 1048576) (hA : A = none → c = 0) (hI : Ints w A L) :
    Calls Try.prog 16 #[.agg #[.int .i64 p, .slice A n c], .int .i64 a] w (RetFm w (fmM p L a) (fmE p L a)) := by
  have HL := Lib.hid hL
  have HNA := Lib.hid hA
  clear hA
  obtain ⟨W0, hW0⟩ : ∃ W0, W0 = (((w.alloc (.cells #[.int .i64 p, .slice A n c] 26)).alloc (.cells #[.int .i64 0, .int .i64 0, .int .i64 0] 39)).alloc (.cells #[.int .i64 0] 2)).alloc (.cells #[.int .i64 p, .slice A n c] 26) := ⟨_, rfl⟩
  have hb0 : Below w.heap.size w W0 := by rw [hW0]; exact ((((Below.refl _ w).alloc (Nat.le_refl _) _).alloc (by simp) _).alloc (by simp; omega) _).alloc (by simp; omega) _
  have x0 : Box W0 w.heap.size 26 #[.int .i64 p, .slice A n c] := by rw [hW0]; exact (((Box.new w _ _).alloc _).alloc _).alloc _
  have x1 : Box W0 (w.heap.size + 1) 39 #[.int .i64 0, .int .i64 0, .int .i64 0] := by
    have h := Box.new (w.alloc (.cells #[.int .i64 p, .slice A n c] 26)) 39 #[.int .i64 0, .int .i64 0, .int .i64 0]
    rw [World.size_alloc] at h
    rw [hW0]; exact (h.alloc _).alloc _
  have x2 : Box W0 (w.heap.size + 1 + 1) 2 #[.int .i64 0] := by
    have h := Box.new ((w.alloc (.cells #[.int .i64 p, .slice A n c] 26)).alloc (.cells #[.int .i64 0, .int .i64 0, .int .i64 0] 39)) 2 #[.int .i64 0]
    rw [World.size_alloc, World.size_alloc] at h
    rw [hW0]; exact h.alloc _
  have x3 : Box W0 (w.heap.size + 1 + 1 + 1) 26 #[.int .i64 p, .slice A n c] := by
    have h := Box.new (((w.alloc (.cells #[.int .i64 p, .slice A n c] 26)).alloc (.cells #[.int .i64 0, .int .i64 0, .int .i64 0] 39)).alloc (.cells #[.int .i64 0] 2)) 26 #[.int .i64 p, .slice A n c]
    rw [World.size_alloc, World.size_alloc, World.size_alloc] at h
    rw [hW0]; exact h
  have hs0 : W0.heap.size = w.heap.size + 4 := by rw [hW0]; simp
  have X0 := Lib.hid x0
  have X1 := Lib.hid x1
  have X2 := Lib.hid x2
  have X3 := Lib.hid x3
  have HB0 := Lib.hid hb0
  have HI0 := Lib.hid (hI.below hb0)
  have HW0 := Lib.hid hW0
  clear hL hI x0 x1 x2 x3 hb0 hW0
  by_cases hz : codeW p L a = 0
  · obtain ⟨hs, hp, ha⟩ := codeW_zero hz
    subst hp
    have hz' : (codeW 3 L a != 0) = false := by simpa using hz
    have h8 := (state_facts hs HL.out).2.2.1
    have HP := Lib.hid (state_pegsOk hs)
    have HZ := Lib.hid hz
    have HWB := Lib.hid (show (wayL L a).length ≤ 255 from wayL_bd (by rw [HL.out]; exact h8))
    clear hz hs
    refine (callsIn_wide (n := 7)).1 ?_
    refine callsIn_of_wp_marks Try.func16 rfl trivial ?_ rfl
    simp only [Try.ntmps16, List.size_toArray, List.length_cons, List.length_nil, Nat.reduceAdd, Nat.reduceSub, Array.replicate_succ, Array.replicate_zero, List.push_toArray, List.append_toArray, List.nil_append, List.cons_append]
    gi_wp2_with fail
    rw [← HW0.out]
    refine ⟨trivial, ?_⟩
    refine (callsIn_wide.2 (codeOfPeg_one (w.heap.size + 1 + 1 + 1) A n c 3 L a W0 X3.out HL.out hn HI0.out)).mono ?_
    rintro e w1 ⟨rfl, hb1⟩
    have X11 := Lib.hid (X1.out.below hb1 X1.out.lt)
    have X21 := Lib.hid (X2.out.below hb1 X2.out.lt)
    have x01 := X0.out.below hb1 X0.out.lt
    have HB1 := Lib.hid (HB0.out.trans (hb1.mono HB0.out.size))
    have HI1 := Lib.hid (HI0.out.below hb1)
    have hs1 := hb1.size
    obtain ⟨c0, c1, _, _⟩ := x01.two
    clear hb1 x01
    gi_wp2_with fail
    refine ⟨trivial, ?_⟩
    refine (callsIn_wide.2 (movesToPeg_calls A n c a _)).mono ?_
    rintro e w2 ⟨rfl, hw2⟩
    have bP := (Box.new w1 24 #[.slice A n c]).alloc (.cells #[.int .i64 a] 2)
    have bA := Box.new (w1.alloc (.cells #[.slice A n c] 24)) 2 #[.int .i64 a]
    simp only [World.size_alloc] at bA
    have hb2 : Below w1.heap.size w1 ((w1.alloc (.cells #[.slice A n c] 24)).alloc (.cells #[.int .i64 a] 2)) := ((Below.refl _ _).alloc (Nat.le_refl _) _).alloc (by simp) _
    have hsz : ((w1.alloc (.cells #[.slice A n c] 24)).alloc (.cells #[.int .i64 a] 2)).heap.size = w1.heap.size + 2 := by simp
    rw [← hw2] at bP bA hb2 hsz
    have HI2 := Lib.hid (HI1.out.below hb2)
    have HB2 := Lib.hid (HB1.out.trans (hb2.mono HB1.out.size))
    have X12 := Lib.hid (X11.out.below hb2 X11.out.lt)
    have X22 := Lib.hid (X21.out.below hb2 X21.out.lt)
    have HSQ := Lib.hid (movesToPeg_privS 6 w1.heap.size (w1.heap.size + 1) (by omega) A n c L a HNA.out HL.out h8 HP.out ha _ bP bA HI2.out)
    have hsb := HB2.out.size
    clear hb2 c0 c1 bP bA hw2
    gi_wp2_with fail
    refine rangeFunc_privS (by omega) (gf := 53) (lb := #[.pointer (some ⟨w1.heap.size, 0, none⟩), .pointer (some ⟨w1.heap.size + 1, 0, none⟩)]) rfl (enters_of Try.func53 (by kernel_rfl) rfl) HSQ.out (fun _ => rfl) (fun b hb => by rcases hb with rfl | rfl <;> (rw [hsz]; omega))
      (FmI (w.heap.size + 1) (w.heap.size + 1 + 1) w.heap.size w) (FmX (fdW L a < L.length) (w.heap.size + 1) (w.heap.size + 1 + 1) w.heap.size w (mvW L a))
      (by
        show OwnFrom _ (fun (_ : Unit) W => fdW L a < L.length ∧ Box W _ _ _ ∧ Box W _ _ _ ∧ Below _ _ W)
        exact OwnFrom.and (ownFrom_pure _ (fun _ => fdW L a < L.length)) <| OwnFrom.and (Own.from (box_own _ _ _) _) (OwnFrom.and (Own.from (box_own _ _ _) _) (ownFrom_below (Nat.le_refl _) hsb)))
      (fun R => by
        show OwnFrom _ (fun (pre : List Mv) W => (pre = [] ∧ _ < R) ∧ Box W _ _ _ ∧ Box W _ _ _ ∧ Below _ _ W)
        exact OwnFrom.and (ownFrom_pure _ (fun pre : List Mv => pre = [] ∧ _ < R)) (OwnFrom.and (Own.from (box_own _ _ _) _) (OwnFrom.and (Own.from (box_own _ _ _) _) (ownFrom_below (Nat.le_refl _) hsb))))
      ?grow
      (fun R hR => ⟨⟨rfl, by omega⟩, X12.out, X22.out, HB2.out⟩)
      (fun R pre x a' W => ∃ Bx, w.heap.size + 1 + 1 < Bx ∧ Box W Bx 39 #[.int .i64 x.1, .int .i64 x.2.1, .int .i64 x.2.2] ∧ a' = { tmps := #[.agg #[.int .i64 3, .slice A n c], .int .i64 a, .pointer (some ⟨w.heap.size, 0, none⟩), undef, .pointer (some ⟨w.heap.size + 1, 0, none⟩), .pointer (some ⟨w.heap.size + 1 + 1, 0, none⟩), .int .i64 (codeW 3 L a), .pointer (some ⟨Bx, 0, none⟩), .int .i64 a, .agg #[.int .i64 3, .slice A n c], .slice (some ⟨w.heap.size + 1 + 1 + 1, 0, none⟩) 1 1, .int .i64 (codeW 3 L a), .int .i64 (codeW 3 L a), .bool false, undef, undef, .pointer (some ⟨w.heap.size, 1, none⟩), .slice A n c, .int .i64 a, .func (.func 53) #[] #[.pointer (some ⟨w1.heap.size, 0, none⟩), .pointer (some ⟨w1.heap.size + 1, 0, none⟩)], mvV x, undef, undef], defers := [] })
      (fun R pre x a' _ X Y row hs hg hr => by obtain ⟨Bx, h1, h2, h3⟩ := hs; exact ⟨Bx, h1, box_own Bx 39 _ () X Y row h2 hg (fun r e => (hr r e).2), h3⟩)
      ?assign ?body ?done ?stop
    case grow =>
      rintro R pre A B ⟨⟨rfl, hR⟩, h4, h5, hB⟩ hg
      have hR' : w.heap.size ≤ R := by omega
      exact ⟨⟨rfl, hR⟩, h4.grown hg (by simp; omega), h5.grown hg (by simp; omega), hB.grown hg hB.size (fun k hk => by injection hk with hk; omega)⟩
    case assign =>
      rintro l R pre x W K hR ⟨cs, hcs⟩ hpx ⟨⟨rfl, hR5⟩, h4, h5, hB⟩ hK
      have hRl : R < W.heap.size := (Array.getElem?_eq_some_iff.1 hcs).1
      have hlt := h5.lt
      have hle := hB.size
      obtain ⟨x1, x2, x3⟩ := x
      dsimp only [mvEnc, mvV] at hK ⊢
      gi_wp2
      exact hK _ _ ((KeepsOthers.alloc _ _).from _) (keepB_below ((Below.refl W.heap.size W).alloc (Nat.le_refl _) _) (fun b hb => by
        rcases hb with (rfl | rfl) | rfl
        · omega
        · omega
        · exact hRl)) ⟨⟨rfl, hR5⟩, h4.alloc _, h5.alloc _, hB.alloc hle _⟩ ⟨W.heap.size, hlt, Box.new W 39 _, rfl⟩
    case body =>
      rintro l R pre x a' W hR ⟨cs, hcs⟩ hpx ⟨⟨rfl, hR5⟩, h4, h5, hB⟩ ⟨Bx, hBx, bX, rfl⟩
      have hx : x = mvW L a ∧ fdW L a < L.length := by
        by_cases hf : fdW L a < L.length
        · rw [wayL_more HP.out ha hf] at hpx
          obtain ⟨t, ht⟩ := hpx
          simp at ht
          exact ⟨ht.1, hf⟩
        · rw [wayL_end (by have := fdW_le L a; omega)] at hpx
          obtain ⟨t, ht⟩ := hpx
          simp at ht
      obtain ⟨rfl, HF⟩ := hx
      obtain ⟨m, hm⟩ : ∃ m, m = mvW L a := ⟨_, rfl⟩
      rw [← hm] at bX ⊢
      have HM := Lib.hid hm
      clear hm hpx
      obtain ⟨k0, k1, k2⟩ := bX.three
      obtain ⟨m0, m1, m2⟩ := h4.three
      have f0 := h4.frozen 0
      have f1 := h4.frozen 1
      have f2 := h4.frozen 2
      obtain ⟨n0, nf⟩ := h5.one
      have H4 := Lib.hid h4
      have H5 := Lib.hid h5
      have HB := Lib.hid hB
      clear h4 h5 hB bX
      obtain ⟨y1, y2, y3⟩ := m
      dsimp only [mvV] at k0 k1 k2 ⊢
      gi_wp2
      refine ⟨((((KeepsOthers.setCell _ _ _).trans (KeepsOthers.setCell _ _ _)).trans (KeepsOthers.setCell _ _ _)).trans (KeepsOthers.setCell _ _ _)).from _, HF, ?_, ?_, ?_⟩
      · exact H4.out.set3.other (by simp) _
      · exact ((((H5.out.other (by simp) _).other (by simp) _).other (by simp) _).set 0 _)
      · exact (((HB.out.setCell (by simp) _).setCell (by simp) _).setCell (by simp) _).setCell (by simp; omega) _
    case done =>
      rintro D R W hD hR ⟨⟨hnil, _⟩, h4, h5, hB⟩ hK
      have hf : ¬ fdW L a < L.length := fun hf => by rw [wayL_more HP.out ha hf] at hnil; cases hnil
      have e1 := Lib.hid (show fmM 3 L a = (0, 0, 0) by unfold fmM; rw [if_neg (fun h => hf h.2)])
      have e2 := Lib.hid (show fmE 3 L a = 5 by unfold fmE; rw [if_pos HZ.out, if_neg hf])
      clear hnil hf
      obtain ⟨m0, m1, m2⟩ := h4.three
      have f0 := h4.frozen 0
      have f1 := h4.frozen 1
      have f2 := h4.frozen 2
      obtain ⟨n0, nf⟩ := h5.one
      have hDl : w.heap.size + 1 + 1 < D := by omega
      have H4 := Lib.hid (h4.set3 (a := .int .i64 0) (c := .int .i64 0) (d := .int .i64 0) |>.other (a := ⟨w.heap.size + 1 + 1, 0, none⟩) (by simp) (.int .i64 5))
      have H5 := Lib.hid (((((h5.other (a := ⟨w.heap.size + 1, 0, none⟩) (by simp) (.int .i64 0)).other (a := ⟨w.heap.size + 1, 1, none⟩) (by simp) (.int .i64 0)).other (a := ⟨w.heap.size + 1, 2, none⟩) (by simp) (.int .i64 0)).set 0 (.int .i64 5)))
      have HB := Lib.hid ((((hB.setCell (show w.heap.size ≤ (⟨w.heap.size + 1, 0, none⟩ : Addr).block by simp) (.int .i64 0)).setCell (show w.heap.size ≤ (⟨w.heap.size + 1, 1, none⟩ : Addr).block by simp) (.int .i64 0)).setCell (show w.heap.size ≤ (⟨w.heap.size + 1, 2, none⟩ : Addr).block by simp) (.int .i64 0)).setCell (show w.heap.size ≤ (⟨w.heap.size + 1 + 1, 0, none⟩ : Addr).block by simp; omega) (.int .i64 5))
      have HK := Lib.hid hK
      clear h4 h5 hB hK
      gi_wp2
      have hK' := heap_set4 D (w.heap.size + 1) (w.heap.size + 1 + 1) (by omega) (by omega) W (.int .i64 0) (.int .i64 0) (.int .i64 0) (.int .i64 5) HK.out
      generalize (((W.setCell ⟨w.heap.size + 1, 0, none⟩ (.int .i64 0)).setCell ⟨w.heap.size + 1, 1, none⟩ (.int .i64 0)).setCell ⟨w.heap.size + 1, 2, none⟩ (.int .i64 0)).setCell ⟨w.heap.size + 1 + 1, 0, none⟩ (.int .i64 5) = V at *
      refine ⟨by simp, .inl ⟨_, _, rfl, run_takeDeferred hK', ?_⟩⟩
      obtain ⟨r0, r1, r2⟩ := Box.three (show Box (V.putObj D (.deferred none)) (w.heap.size + 1) 39 #[.int .i64 0, .int .i64 0, .int .i64 0] from (World.putObj_heap_other (by omega)).trans H4.out)
      obtain ⟨s0, _⟩ := Box.one (show Box (V.putObj D (.deferred none)) (w.heap.size + 1 + 1) 2 #[.int .i64 5] from (World.putObj_heap_other (by omega)).trans H5.out)
      refine ⟨.tuple #[.agg #[.int .i64 0, .int .i64 0, .int .i64 0], .int .i64 5], (by simp [results, Try.results16, go_sem, r0, r1, r2, s0]), ?_⟩
      rw [e1.out, e2.out]
      exact ⟨rfl, HB.out.trans (belowK_b (w := w) (Nat.le_refl _) V D _ _ (by omega) hK' rfl rfl)⟩
    case stop =>
      rintro D W hD ⟨hf, h4, h5, hB⟩ hK
      have e1 := Lib.hid (show fmM 3 L a = mvW L a by unfold fmM; rw [if_pos ⟨HZ.out, hf⟩])
      have e2 := Lib.hid (show fmE 3 L a = 0 by unfold fmE; rw [if_pos HZ.out, if_pos hf])
      gi_wp2
      refine ⟨by simp, .inl ⟨_, _, rfl, run_takeDeferred hK, ?_⟩⟩
      obtain ⟨r0, r1, r2⟩ := Box.three (show Box (W.putObj D (.deferred none)) (w.heap.size + 1) 39 _ from (World.putObj_heap_other (by omega)).trans h4)
      obtain ⟨s0, _⟩ := Box.one (show Box (W.putObj D (.deferred none)) (w.heap.size + 1 + 1) 2 #[.int .i64 0] from (World.putObj_heap_other (by omega)).trans h5)
      refine ⟨.tuple #[.agg #[.int .i64 (mvW L a).1, .int .i64 (mvW L a).2.1, .int .i64 (mvW L a).2.2], .int .i64 0], (by simp [results, Try.results16, go_sem, r0, r1, r2, s0]), ?_⟩
      rw [e1.out, e2.out]
      exact ⟨rfl, hB.trans (belowK_b (w := w) (Nat.le_refl _) W D _ _ (by omega) hK rfl rfl)⟩
  · have e1 : fmM p L a = (0, 0, 0) := by unfold fmM; rw [if_neg (fun h => hz h.1)]
    have e2 : fmE p L a = codeW p L a := by unfold fmE; rw [if_neg hz]
    have hz' : (codeW p L a != 0) = true := by simpa using hz
    rw [e1, e2]
    clear e1 e2 hz
    go_enter Try.func16, Try.ntmps16
    go_wp2_with fail
    rw [← HW0.out]
    refine (codeOfPeg_one (w.heap.size + 1 + 1 + 1) A n c p L a W0 X3.out HL.out hn HI0.out).mono ?_
    rintro e w1 ⟨rfl, hb1⟩
    have M1 := Lib.hid (X1.out.below hb1 X1.out.lt)
    have N1 := Lib.hid (X2.out.below hb1 X2.out.lt)
    have HB1 := Lib.hid (HB0.out.trans (hb1.mono HB0.out.size))
    clear hb1
    obtain ⟨m0, m1, m2⟩ := M1.out.three
    have hf0 := M1.out.frozen 0
    have hf1 := M1.out.frozen 1
    have hf2 := M1.out.frozen 2
    obtain ⟨n0, nf⟩ := N1.out.one
    obtain ⟨r0, r1, r2⟩ := ((M1.out.set3 (a := .int .i64 0) (c := .int .i64 0) (d := .int .i64 0)).other (a := ⟨w.heap.size + 1 + 1, 0, none⟩) (by simp) (.int .i64 (codeW p L a))).three
    obtain ⟨s0, _⟩ := Box.one (show Box _ (w.heap.size + 1 + 1) 2 #[.int .i64 (codeW p L a)] from ((((N1.out.other (a := ⟨w.heap.size + 1, 0, none⟩) (by simp) (.int .i64 0)).other (a := ⟨w.heap.size + 1, 1, none⟩) (by simp) (.int .i64 0)).other (a := ⟨w.heap.size + 1, 2, none⟩) (by simp) (.int .i64 0)).set 0 (.int .i64 (codeW p L a))))
    go_wp2
    refine bodyPost_ret (v := .tuple #[.agg #[.int .i64 0, .int .i64 0, .int .i64 0], .int .i64 (codeW p L a)]) (by simp [results, Try.results16, go_sem, r0, r1, r2, s0]) rfl ⟨rfl, ?_⟩
    exact (((HB1.out.setCell (by simp) _).setCell (by simp) _).setCell (by simp) _).setCell (by simp; omega) _

end Go.Proofs.Ytnbjnlgdolhlmaa
