/- Contracts: the moves that rules allow, as a function that is ranged over. -/
import Derived.Test.YtglilhnmgfkfhaaIterW
import Derived.Test.YtglilhnmgfkfhaaIter
import Derived.Test.YtglilhnmgfkfhaaRuOf
namespace Go.Proofs.Ytglilhnmgfkfhaa
open Go.RowKit Go.Shelf
set_option linter.unusedVariables false

/-- The blocks S are the iterator's own: no elder than the world W0, there in W, of types that tp allows. -/
def OwnedBy (tp : Nat → Prop) (S : Nat → Prop) (B : Nat) (W : World) : Prop := ∀ b, S b → B ≤ b ∧ ∃ cs t, tp t ∧ W.heap[b]? = some (.cells cs t (0, 0))
theorem OwnedBy.lt {tp S : Nat → Prop} {B : Nat} {W : World} (h : OwnedBy tp S B W) : ∀ b, S b → b < W.heap.size := by
  intro b hb
  obtain ⟨_, cs, t, _, h2⟩ := h b hb
  exact (Array.getElem?_eq_some_iff.1 h2).1
theorem OwnedBy.keepB {tp S : Nat → Prop} {B : Nat} {W W' : World} (h : OwnedBy tp S B W) (hk : ∀ b, S b → W'.heap[b]? = W.heap[b]?) : OwnedBy tp S B W' := by
  intro b hb
  obtain ⟨h1, cs, t, h2, h3⟩ := h b hb
  exact ⟨h1, cs, t, h2, (hk b hb).trans h3⟩

/-- What the iterator owes: it keeps blocks S of its own between its yields, in which its rounds do not write. -/
def SeqHold {α : Type} (n : Nat) (P : Program) (g : Nat) (lb : Array Value) (encs : α → Array Value) (tp bs : Nat → Prop) (xs : List α) (w : World) : Prop :=
  ∀ (l : Nat) (J : (Nat → Prop) → List α → World → Prop) (W : World), Below w.heap.size w W → (∀ S, OwnFrom W.heap.size (J S)) →
    (∀ S pre x W1, OwnedBy tp S W.heap.size W1 → (pre ++ [x]) <+: xs → J S pre W1 → YieldAt Fence.wide (n - 1) P l (encs x) W1 fun e W' => e = .returned (.bool true) ∧ J S (pre ++ [x]) W' ∧ KeepB (fun b => bs b ∨ S b) W1 W' ∧ KeepsFrom W.heap.size W1 W') →
    (∀ S, (∀ b, S b → W.heap.size ≤ b) → J S [] W) → CallsIn Fence.wide n P g (#[.func (.yield l) #[] #[]] ++ lb) W fun e W' => (∃ v, e = .returned v) ∧ ∃ S, J S xs W'
theorem SeqHold.later {α : Type} {n : Nat} {P : Program} {g : Nat} {lb : Array Value} {encs : α → Array Value} {tp bs : Nat → Prop} {xs : List α} {w w' : World} (h : SeqHold n P g lb encs tp bs xs w) (hb : Below w.heap.size w w') : SeqHold n P g lb encs tp bs xs w' :=
  fun l J W hW => h l J W (hb.trans (hW.mono hb.size))

/-- How a round ends: it goes on. -/
def heldPost {α : Type} (B : Nat) (bs S : Nat → Prop) (I : List α → World → Prop) (xs : List α) (W : World) : Exit → Act → World → Prop
  | .normal, _, W' => KeepsFrom B W W' ∧ KeepB (fun b => bs b ∨ S b) W W' ∧ I xs W'
  | _, _, _ => False

variable {P : Program} {n : Nat}

theorem rangeFunc_hold {α : Type} {g : Operand} {ps : Array Tmp} {assign body : Code} {Q : Exit → Act → World → Prop} {a : Act} {w : World} (h1 : 1 ≤ n) {gf : Nat} {lb : Array Value}
    (hg : a.eval g = .func (.func gf) #[] lb) (eg : ∀ args w, (callFunc gf args).run P w = .ok (.enter gf args) w)
    {encs : α → Array Value} {tp bs : Nat → Prop} {xs : List α} (hseq : SeqHold (n - 1) P gf lb encs tp bs xs w) (hps : ∀ x, (encs x).size = ps.size) (hbs : ∀ b, bs b → b < w.heap.size)
    (I : (Nat → Prop) → List α → World → Prop) (hI : ∀ S, OwnFrom w.heap.size (I S)) (h0 : ∀ S : Nat → Prop, (∀ b, S b → w.heap.size + 2 ≤ b) → I S [] w) (Ax : (Nat → Prop) → List α → α → Act → World → Prop) (hAx : ∀ S pre x a', OwnFrom w.heap.size (fun (_ : Unit) W => Ax S pre x a' W))
    (hassign : ∀ (l : Nat) (S : Nat → Prop) (pre : List α) (x : α) (W : World) (K : Act → World → Prop), OwnedBy tp S (w.heap.size + 2) W → (pre ++ [x]) <+: xs → I S pre W → (∀ a' W', KeepsFrom w.heap.size W W' → KeepB (fun b => bs b ∨ S b) W W' → I S pre W' → Ax S pre x a' W' → K a' W') →
      assign.wpIn (Fence.wide.inRound l) (n - 1 - 1) P (Exit.then K (fun _ _ _ => False)) { tmps := (ps.zip (encs x)).foldl (fun t (p, v) => t.setIfInBounds p v) a.tmps, defers := [] } W)
    (hbody : ∀ (l : Nat) (S : Nat → Prop) (pre : List α) (x : α) (a' : Act) (W : World), OwnedBy tp S (w.heap.size + 2) W → (pre ++ [x]) <+: xs → I S pre W → Ax S pre x a' W → body.wpIn (Fence.wide.inRound l) (n - 1 - 1) P (heldPost w.heap.size bs S (I S) (pre ++ [x]) W) a' W)
    (hdone : ∀ (D : Nat) (S : Nat → Prop) (W : World), w.heap.size ≤ D → I S xs W → W.heap[D]? = some (.deferred (some [])) → Q .normal { a with defers := { target := .collected D, args := #[] } :: a.defers } W) :
    (Code.rangeFunc g ps assign body).wpIn Fence.wide n P Q a w := by
  refine wpIn_rangeFunc fun fn hfn => ?_
  let R : LoopState → Option Code → Obj := fun st pe => .loop { state := st, pending := pe, fn, tmps := a.tmps, params := ps, assign, body, defers := w.heap.size }
  let L : Nat := w.heap.size + 1
  obtain ⟨V, hV⟩ : ∃ V, (w.alloc (.deferred (some []))).alloc (R .ready none) = V := ⟨_, rfl⟩
  have bV : Below w.heap.size w V := by rw [← hV]; exact ((Below.refl _ w).alloc (Nat.le_refl _) _).alloc (by simp) _
  have sV : V.heap.size = w.heap.size + 2 := by rw [← hV]; simp
  have kV : V.heap[w.heap.size]? = some (.deferred (some [])) := by
    rw [← hV]; exact (Below.heap_alloc _ _ _ (by simp)).trans (World.alloc_heap_new w _)
  have lV : V.heap[L]? = some (R .ready none) := by
    rw [← hV]; have := World.alloc_heap_new (w.alloc (.deferred (some []))) (R .ready none); rwa [World.size_alloc] at this
  have iV : ∀ S : Nat → Prop, (∀ b, S b → V.heap.size ≤ b) → I S [] V := fun S hS => by rw [← hV]; exact (hI S).alloc _ ((hI S).alloc _ (h0 S (fun b hb => by rw [← sV]; exact hS b hb)))
  let J : (Nat → Prop) → List α → World → Prop := fun S pre W => I S pre W ∧ W.heap[w.heap.size]? = some (.deferred (some [])) ∧ W.heap[L]? = some (R .ready none)
  refine ⟨L, [{ target := .collected w.heap.size, args := #[] }], V, { target := .fn (.func gf) lb, args := #[.func (.yield L) #[] #[]] }, V, gf, #[.func (.yield L) #[] #[]] ++ lb, V,
    by rw [← hV]; exact run_enterLoop_outer _ _ _ _ _, by simp only [resolve, hg]; simp [go_sem], fun _ _ => trivial, by simp [invoke, go_sem, eg], fun _ => h1, ?_⟩
  refine (hseq L J V bV (fun S s A B row ⟨i, k, l⟩ hg' hr => ?_) ?round (fun S hS => ⟨iV S hS, kV, lV⟩)).mono ?_
  · have hr' : ∀ r, row = some r → w.heap.size ≤ r ∧ ∃ o : Obj, A.heap[r]? = some o ∧ o.isCells = false := fun r e => by
      obtain ⟨h1, h2⟩ := hr r e
      exact ⟨by omega, h2⟩
    refine ⟨hI S s A B row i hg' hr', ?_, ?_⟩
    · exact (hg'.block _ (Array.getElem?_eq_some_iff.1 k).1 (fun e => by have := (hr _ e.symm).1; omega)).trans k
    · exact (hg'.block _ (Array.getElem?_eq_some_iff.1 l).1 (fun e => by have := (hr _ e.symm).1; show False; omega)).trans l
  case round =>
    rintro S pre x W hOw hpx ⟨i, k, l⟩
    rw [sV] at hOw
    have hKb : ∀ (U : World) (o o' : Obj), U.heap[L]? = some o → KeepB (fun b => bs b ∨ S b) U (U.putObj L o') := by
      intro U o o' h b hb
      refine World.putObj_heap_other ?_
      rcases hb with hb | hb
      · have := hbs b hb; show b ≠ L; omega
      · have := (hOw b hb).1; show b ≠ L; omega
    refine ⟨fn, _, assign, body, run_yield l (hps x), roundIn_of_wpIn hfn (hassign L S pre x W _ hOw hpx i fun a' U kf kp iU ax => ?_)⟩
    have kU := kf.same _ _ (Nat.le_refl _) k rfl
    have lU := kf.same _ _ (Nat.le_succ _) l rfl
    have ltU := (Array.getElem?_eq_some_iff.1 lU).1
    refine ⟨_, run_beginRound lU rfl, ?_⟩
    obtain ⟨U2, hU2⟩ : ∃ U2, U.putObj L (R .busy none) = U2 := ⟨_, rfl⟩
    have lU2 : U2.heap[L]? = some (R .busy none) := by rw [← hU2]; exact World.putObj_heap_same ltU
    have kU2 : U2.heap[w.heap.size]? = some (.deferred (some [])) := by rw [← hU2]; exact (World.putObj_heap_other (by show w.heap.size ≠ L; omega)).trans kU
    have iU2 : I S pre U2 := by rw [← hU2]; exact (hI S).putObj _ iU (Nat.le_succ _) lU rfl
    have aU2 : Ax S pre x a' U2 := by rw [← hU2]; exact (hAx S pre x a').putObj (s := ()) _ ax (Nat.le_succ _) lU rfl
    have pU2 : KeepB (fun b => bs b ∨ S b) U U2 := by rw [← hU2]; exact hKb _ _ _ lU
    have hO2 : OwnedBy tp S (w.heap.size + 2) U2 := (hOw.keepB (fun b hb => kp b (.inr hb))).keepB (fun b hb => pU2 b (.inr hb))
    show body.wpIn (Fence.wide.inRound L) (n - 1 - 1) P _ a' (U.putObj L (R .busy none))
    rw [hU2]
    refine wpIn_mono (hbody L S pre x a' U2 hO2 hpx iU2 aU2) ?_
    rintro (_ | _ | _ | _ | _ | _) a3 U3 hp <;> first | exact hp.elim | skip
    obtain ⟨kf3, kp3, i3⟩ := hp
    have l3 := kf3.same _ _ (Nat.le_succ _) lU2 rfl
    have k3 := kf3.same _ _ (Nat.le_refl _) kU2 rfl
    refine ⟨_, _, run_endRound none l3, rfl, ⟨(hI S).putObj _ i3 (Nat.le_succ _) l3 rfl, (World.putObj_heap_other (by show w.heap.size ≠ L; omega)).trans k3, World.putObj_heap_same (Array.getElem?_eq_some_iff.1 l3).1⟩, keepB_t kp (keepB_t pU2 (keepB_t kp3 (hKb _ _ _ l3))), ?_⟩
    have hp : ∀ (U : World) (o o' : Obj), U.heap[L]? = some o → KeepsFrom V.heap.size U (U.putObj L o') := fun U o o' h => ⟨by simp, fun j o2 hj ho _ => (World.putObj_heap_other (by rw [sV] at hj; show j ≠ L; omega)).trans ho⟩
    have hm : ∀ {X Y : World}, KeepsFrom w.heap.size X Y → KeepsFrom V.heap.size X Y := fun h => ⟨h.size, fun j o hj => h.same j o (by rw [sV] at hj; omega)⟩
    exact (hm kf).trans (((by rw [← hU2]; exact hp _ _ _ lU) : KeepsFrom V.heap.size U U2).trans ((hm kf3).trans (hp _ _ _ l3)))
  · rintro e W2 ⟨⟨v, rfl⟩, S, i, k, l⟩
    exact ⟨none, _, run_endLoop l (by simp), hdone _ S _ (Nat.le_refl _) ((hI S).putObj _ i (Nat.le_succ _) l rfl) ((World.putObj_heap_other (by show w.heap.size ≠ L; omega)).trans k)⟩

attribute [local go_sem] Oper.semAt_some

def mvE (m : Mv) : Array Value := #[mvV m]
theorem roundIn_wide {n m : Nat} {P : Program} {l l' : Nat} {fn : FuncId} {tmps : Array Value} {assign body : Code} {w : World} {R : Ending → World → Prop} (h : RoundIn Fence.wide n P l fn tmps assign body w R) : RoundIn (Fence.wide.inRound l') m P l fn tmps assign body w R :=
  ⟨trivial, fun c cs _ => h.2 c cs (room_wide _)⟩
set_option maxRecDepth 100000 in
set_option maxHeartbeats 4000000 in
theorem legalMoves1_inX (n l Bx B : Nat) (hn : 1 ≤ n) (A : Option Addr) (nn c : Nat) (p : Int) (L : List Int) (hL : L.length = nn) (hcap : nn ≤ c) (hc63 : c ≤ 9223372036854775807) (hs : stateB p L = true) (P : Mv → Prop) (hP : ∀ d t : Nat, d < L.length → legalB p L d (L[d]?.getD 0) t = true → P ((d : Int), L[d]?.getD 0, (t : Int))) (J Jx : List Mv → World → Prop) (hJ : AbidesFrom B J)
    (hY : ∀ pre (x : Mv) W, P x → (pre ++ [x]) <+: movesL p L → J pre W → pre.length < 40 → YieldAt Fence.wide (n - 1) Try.prog l #[mvV x] W fun e W' =>
      (e = .returned (.bool true) ∧ J (pre ++ [x]) W' ∧ KeepB (stS Bx A L) W W') ∨ (e = .returned (.bool false) ∧ Jx (pre ++ [x]) W'))
    (W : World) (hBx : Box W Bx 33 #[.int .i64 p, .slice A nn c]) (hI : Ints W A L) (h0 : J [] W) :
    CallsIn Fence.wide n Try.prog 53 #[.func (.yield l) #[] #[], .pointer (some ⟨Bx, 0, none⟩)] W fun e W' => (∃ v, e = .returned v) ∧
      ((∃ ys, ys = movesL p L ∧ J ys W') ∨ (∃ pre, pre <+: movesL p L ∧ Jx pre W')) := by
  obtain ⟨h3, h5, h8, _⟩ := state_facts hs hL
  have HL := Lib.hid hL
  have HS := Lib.hid hs
  have HP := Lib.hid hP
  clear hL hs hP
  refine callsIn_of_wp Try.func53 rfl trivial ?_ rfl
  simp only [Try.ntmps53, List.size_toArray, List.length_cons, List.length_nil, Nat.reduceAdd, Nat.reduceSub, Array.replicate_succ, Array.replicate_zero, List.push_toArray, List.append_toArray, List.nil_append, List.cons_append]
  have hb0 := hBx.two
  obtain ⟨c0, c1, f0, f1⟩ := hb0
  gi_wp2
  gi_loopw [3, 4, 5, 6, 10, 17] (fun _ _ _ _ i _ wr => ∃ d : Nat, d ≤ nn ∧ i = .int .i64 d ∧ J (movesTo p L d) wr ∧ Box wr Bx 33 #[.int .i64 p, .slice A nn c] ∧ Ints wr A L)
    (fun _ _ _ _ i _ _ => nn - (intOf i).toNat)
  case atStart => exact ⟨0, Nat.zero_le _, rfl, h0, hBx, hI⟩
  case round =>
    obtain ⟨d, hd, rfl, hJs, hbx, hI1⟩ := hrel
    obtain ⟨c0, c1, f0, f1⟩ := hbx.two
    by_cases hlt : d < nn
    · obtain ⟨ad, rfl, had, hc⟩ := hI1 d (by rw [HL.out]; exact hlt)
      gi_wp2
      gi_loopw [5, 6, 17] (fun _ _ j wr => ∃ t : Nat, (t : Int) ≤ p ∧ j = .int .i64 t ∧ J (movesTo p L d ++ rowM p L d t) wr ∧ Box wr Bx 33 #[.int .i64 p, .slice (some ad) nn c] ∧ Ints wr (some ad) L)
        (fun _ _ j _ => p.toNat - (intOf j).toNat)
      case atStart => exact ⟨0, by omega, rfl, by simpa [rowM] using hJs, hbx, hI1⟩
      case round =>
        obtain ⟨t, ht, rfl, hJt, hbx2, hI2⟩ := hrel
        obtain ⟨c0, c1, f0, f1⟩ := hbx2.two
        have hz := hbx2.lt
        by_cases htl : (t : Int) < p
        · have hj : t < p.toNat := by omega
          by_cases hl : legalB p L d (L[d]?.getD 0) t = true
          · have hrow := Lib.hid (rowM_yes hl)
            have HPx := Lib.hid (HP.out d t (by rw [HL.out]; exact hlt) hl)
            have hpx : (movesTo p L d ++ rowM p L d t) ++ [((d : Int), L[d]?.getD 0, (t : Int))] <+: movesL p L := by have h := moves_prefix (p := p) (show d < L.length by rw [HL.out]; exact hlt) (show t + 1 ≤ p.toNat by omega); rwa [hrow.out, ← List.append_assoc] at h
            have HPX := Lib.hid hpx
            clear hpx
            have hlen := moves_lt HS.out (show d < L.length by rw [HL.out]; exact hlt) hj
            gi_wp2_with (refine ⟨trivial, ?_⟩; gi_at_call 54; refine (callsIn_wide.2 (isLegalMove_calls (some ad) nn c p L d (L[d]?.getD 0) t _ HL.out hcap hc63 (hI2.below ((Below.refl _ _).alloc (Nat.le_refl _) _)) HS.out)).mono ?_; rintro e w1 ⟨rfl, hb⟩; have hm := (Box.new wr 53 #[.int .i64 d, .int .i64 (L[d]?.getD 0), .int .i64 t]).below hb (by simp); obtain ⟨m0, m1, m2⟩ := hm.three; have hb1 : Below wr.heap.size wr w1 := ((Below.refl _ wr).alloc (Nat.le_refl _) _).trans (hb.mono (by simp)); have hbx3 := hbx2.below hb1 hbx2.lt; obtain ⟨c0, c1, f0, f1⟩ := hbx3.two; have hI3 := hI2.below hb1; obtain ⟨fn, tmps, assign, body, hy, hR⟩ := hY _ ((d : Int), L[d]?.getD 0, (t : Int)) w1 HPx.out HPX.out (abide hJ hJt hb1) hlen; clear hb hm; dsimp only [mvV] at hy)
            refine hR.mono ?_
            rintro e W3 (⟨rfl, hJ3, hk3⟩ | ⟨rfl, hJx3⟩)
            · gi_wp2
              go_roundw
              case rel => exact ⟨t + 1, by omega, by go_num, by rw [hrow.out, ← List.append_assoc]; exact hJ3, (hk3 Bx (.inl rfl)).trans hbx3, hI3.keepB hk3 (fun a e hne => .inr ⟨hne, a, e, rfl⟩)⟩
              case measure => simp [intOf]; omega
            · gi_wp2
              refine bodyPost_ret (results_none rfl _ _ _) rfl ?_
              exact ⟨⟨_, rfl⟩, .inr ⟨_, by have := moves_prefix (p := p) (show d < L.length by rw [HL.out]; exact hlt) (show t + 1 ≤ p.toNat by omega); rwa [hrow.out, ← List.append_assoc] at this, hJx3⟩⟩
          · have hl' : legalB p L d (L[d]?.getD 0) t = false := by simpa using hl
            have hrow := Lib.hid (rowM_no hl')
            clear hl
            gi_wp2_with (refine ⟨trivial, ?_⟩; gi_at_call 54; refine (callsIn_wide.2 (isLegalMove_calls (some ad) nn c p L d (L[d]?.getD 0) t _ HL.out hcap hc63 (hI2.below ((Below.refl _ _).alloc (Nat.le_refl _) _)) HS.out)).mono ?_; rintro e w1 ⟨rfl, hb⟩; have hm := (Box.new wr 53 #[.int .i64 d, .int .i64 (L[d]?.getD 0), .int .i64 t]).below hb (by simp); obtain ⟨m0, m1, m2⟩ := hm.three; have hb1 : Below wr.heap.size wr w1 := ((Below.refl _ wr).alloc (Nat.le_refl _) _).trans (hb.mono (by simp)); have hbx3 := hbx2.below hb1 hbx2.lt; obtain ⟨c0, c1, f0, f1⟩ := hbx3.two; have hI3 := hI2.below hb1; have hJ1 := abide hJ hJt hb1; clear hb hm)
            refine ⟨fun _ h => (by cases h), ?_⟩
            gi_wp2
            go_roundw
            case rel => exact ⟨t + 1, by omega, by go_num, by rw [hrow.out]; exact hJ1, hbx3, hI3⟩
            case measure => simp [intOf]; omega
        · obtain rfl : p = (t : Int) := by omega
          gi_wp2
          go_roundw
          case rel => exact ⟨d + 1, by omega, by go_num, hJt, hbx2, hI2⟩
          case measure => simp [intOf]; omega
    · obtain rfl : d = nn := by omega
      gi_wp2
      go_end0
      exact ⟨⟨_, rfl⟩, .inl ⟨_, rfl, by unfold movesL; rw [HL.out]; exact hJs⟩⟩


/-- The legal moves of a state: the promise. -/
theorem legalMoves_hold (n Bx : Nat) (hn : 1 ≤ n) (A : Option Addr) (nn c : Nat) (p : Int) (L : List Int) (hL : L.length = nn) (hcap : nn ≤ c) (hc63 : c ≤ 9223372036854775807) (hs : stateB p L = true) (tp : Nat → Prop) (w : World) (hBx : Box w Bx 33 #[.int .i64 p, .slice A nn c]) (hI : Ints w A L) :
    SeqHold n Try.prog 53 #[.pointer (some ⟨Bx, 0, none⟩)] mvE tp (stS Bx A L) (movesL p L) w := fun l J W hW hJ hY h0 => by
  refine (legalMoves1_inX n l Bx W.heap.size hn A nn c p L hL hcap hc63 hs (fun _ => True) (fun _ _ _ _ => trivial) (J (fun _ => False)) (fun _ _ => False)
    (fun s X Y row hs' hg hr => hJ _ s X Y row hs' hg (fun r e => by obtain ⟨h1, o, ho, hw⟩ := hr r e; exact ⟨h1, o, ho, Obj.not_cells_of_walk hw⟩)) ?_ W (hBx.below hW hBx.lt) (hI.below hW) (h0 _ (fun b hb => hb.elim))).mono ?_
  · rintro pre x W1 _ hpx hj _
    obtain ⟨fn, tmps, assign, body, hy, hR⟩ := hY (fun _ => False) pre x W1 (fun b hb => hb.elim) hpx hj
    refine ⟨fn, tmps, assign, body, hy, hR.mono ?_⟩
    rintro e W' ⟨rfl, h1, h2, _⟩
    exact .inl ⟨rfl, h1, fun b hb => h2 b (.inl hb)⟩
  · rintro e W' ⟨hv, ⟨ys, rfl, h1⟩ | ⟨pre, _, h1⟩⟩
    · exact ⟨hv, _, h1⟩
    · exact h1.elim

attribute [local go_sem] Oper.semAt_some

/-- The legal moves that rules allow. -/
def byB (r : Nat → Int) (m : Mv) : Bool := alR r m.2.1 m.2.2
def byL (r : Nat → Int) (L : List Int) : List Mv := (movesL 3 L).filter (byB r)
def tpBy (t : Nat) : Prop := t = 33 ∨ t = 68
def bsBy (bx bd : Nat) (A : Option Addr) (L : List Int) (b : Nat) : Prop := b = bd ∨ stS bx A L b

set_option maxHeartbeats 1000000 in
theorem movesBy_calls (n : Nat) (r : Nat → Int) (A : Option Addr) (nn c : Nat) (p : Int) (w : World) :
    CallsIn Fence.wide n Try.prog 28 #[.iface 31 (.agg (z9 r)), .agg #[.int .i64 p, .slice A nn c]] w fun e w' => e = .returned (.func (.func 42) #[] #[.pointer (some ⟨w.heap.size + 1, 0, none⟩), .pointer (some ⟨w.heap.size, 0, none⟩)]) ∧ w' = (w.alloc (.cells #[.iface 31 (.agg (z9 r))] 67)).alloc (.cells #[.int .i64 p, .slice A nn c] 33) := by
  refine callsIn_of_wp Try.func28 rfl trivial ?_ rfl
  simp only [Try.ntmps28, List.size_toArray, List.length_cons, List.length_nil, Nat.reduceAdd, Nat.reduceSub, Array.replicate_succ, Array.replicate_zero, List.push_toArray, List.append_toArray, List.nil_append, List.cons_append]
  gi_wp2
  go_ret
  exact ⟨rfl, rfl⟩

theorem legal_in3 {L : List Int} {d f t : Int} (hs : stateB 3 L = true) (h : legalB 3 L d f t = true) : (0 ≤ f ∧ f < 3) ∧ (0 ≤ t ∧ t < 3) := by
  unfold legalB at h
  rw [Bool.and_eq_true, decide_eq_true_iff] at h
  obtain ⟨⟨h1, h2, h3, h4, _, h5⟩, _⟩ := h
  have h6 := state_at hs d.toNat (by omega)
  rw [List.getD_eq_getElem?_getD] at h5
  omega
theorem filter_pre (f : Mv → Bool) {pre : List Mv} {x : Mv} {xs : List Mv} (h : (pre ++ [x]) <+: xs) (hx : f x = true) : pre.filter f ++ [x] <+: xs.filter f := by
  have := h.filter f
  rwa [List.filter_append, show List.filter f [x] = [x] by simp [hx]] at this
theorem filter_yes (f : Mv → Bool) {pre : List Mv} {x : Mv} (hx : f x = true) : (pre ++ [x]).filter f = pre.filter f ++ [x] := by
  rw [List.filter_append, show List.filter f [x] = [x] by simp [hx]]
theorem filter_no (f : Mv → Bool) {pre : List Mv} {x : Mv} (hx : f x = false) : (pre ++ [x]).filter f = pre.filter f := by
  rw [List.filter_append, show List.filter f [x] = [] by simp [hx], List.append_nil]
theorem ownFrom_later {β : Type} {B B' : Nat} {J : β → World → Prop} (h : OwnFrom B J) (hB : B ≤ B') : OwnFrom B' J :=
  fun s X Y row hs hg hr => h s X Y row hs hg (fun r e => by obtain ⟨h1, h2⟩ := hr r e; exact ⟨by omega, h2⟩)
/-- The blocks that an iterator over the moves keeps, and those behind it. -/
def ownS (S : Nat → Prop) (y : Nat) (b : Nat) : Prop := S b ∨ b = y ∨ b = y + 1

set_option maxRecDepth 100000 in
set_option maxHeartbeats 8000000 in
theorem movesBy1_hold (N bx bd : Nat) (hN : 4 ≤ N) (r : Nat → Int) (A : Option Addr) (nn c : Nat) (L : List Int) (hL : L.length = nn) (hcap : nn ≤ c) (hc63 : c ≤ 9223372036854775807) (hs : stateB 3 L = true) (w : World)
    (hX : Box w bx 33 #[.int .i64 3, .slice A nn c]) (hD : Box w bd 67 #[.iface 31 (.agg (z9 r))]) (hI : Ints w A L) :
    SeqHold N Try.prog 42 #[.pointer (some ⟨bx, 0, none⟩), .pointer (some ⟨bd, 0, none⟩)] mvE tpBy (bsBy bx bd A L) (byL r L) w := by
  intro l J W hW hJ hY h0
  have HX := Lib.hid (hX.below hW hX.lt)
  have HD := Lib.hid (hD.below hW hD.lt)
  have HI := Lib.hid (hI.below hW)
  have HL := Lib.hid hL
  have HS := Lib.hid hs
  have HY := Lib.hid hY
  have HJ := Lib.hid hJ
  have H0 := Lib.hid h0
  have hbx : bx < W.heap.size := (hX.below hW hX.lt).lt
  have hbd : bd < W.heap.size := (hD.below hW hD.lt).lt
  clear hL hs hY hJ h0 hX hD hI
  refine callsIn_of_wp_marks Try.func42 rfl trivial ?_ rfl
  simp only [Try.ntmps42, List.size_toArray, List.length_cons, List.length_nil, Nat.reduceAdd, Nat.reduceSub, Array.replicate_succ, Array.replicate_zero, List.push_toArray, List.append_toArray, List.nil_append, List.cons_append]
  obtain ⟨x0, x1, _, _⟩ := (HX.out.alloc (.cells #[.func (.yield l) #[] #[]] 68)).two
  gi_wp2_with fail
  refine ⟨trivial, fun _ => by omega, ?_⟩
  refine (legalMoves_calls _ A nn c 3 _).mono ?_
  rintro e w' ⟨rfl, rfl⟩
  gi_wp2_with fail
  have hmv : ∀ x, x ∈ movesL 3 L → legalB 3 L x.1 x.2.1 x.2.2 = true := fun x hx => movesTo_legal _ x hx
  obtain ⟨W0, hW0⟩ : ∃ W0, (W.alloc (.cells #[.func (.yield l) #[] #[]] 68)).alloc (.cells #[.int .i64 3, .slice A nn c] 33) = W0 := ⟨_, rfl⟩
  have sz : W0.heap.size = W.heap.size + 2 := by rw [← hW0]; simp
  have b0 : Below W.heap.size W W0 := by rw [← hW0]; exact ((Below.refl _ W).alloc (Nat.le_refl _) _).alloc (by simp) _
  have hy0 : Box W0 W.heap.size 68 #[.func (.yield l) #[] #[]] := by rw [← hW0]; exact (Box.new W _ _).alloc _
  have hs0 : Box W0 (W.heap.size + 1) 33 #[.int .i64 3, .slice A nn c] := by
    rw [← hW0]; have := Box.new (W.alloc (.cells #[.func (.yield l) #[] #[]] 68)) 33 #[.int .i64 3, .slice A nn c]; rwa [World.size_alloc] at this
  have hd0 : Box W0 bd 67 #[.iface 31 (.agg (z9 r))] := HD.out.below b0 HD.out.lt
  have hi0 : Ints W0 A L := HI.out.below b0
  have h00 : ∀ S : Nat → Prop, (∀ b, S b → W.heap.size ≤ b) → J S [] W0 := fun S hS => by
    rw [← hW0]; exact (HJ.out S).alloc _ ((HJ.out S).alloc _ (H0.out S hS))
  rw [hW0]
  clear hW0 x0 x1
  have HA := Lib.hid (fun (S : Nat → Prop) => (fun s X Y row hs' hg hr => HJ.out S s X Y row hs' hg (fun r e => by obtain ⟨h1, o, ho, hw⟩ := hr r e; exact ⟨h1, o, ho, Obj.not_cells_of_walk hw⟩) : AbidesFrom W.heap.size (J S)))
  refine rangeFunc_hold (by omega) (gf := 53) (lb := #[.pointer (some ⟨W.heap.size + 1, 0, none⟩)]) rfl (enters_of Try.func53 (by kernel_rfl) rfl)
    (legalMoves_hold (N - 1) (W.heap.size + 1) (by omega) A nn c 3 L HL.out hcap hc63 HS.out tpBy W0 hs0 hi0) (fun _ => rfl) ?bs
    (fun S pre Wc => (J (ownS S W.heap.size) (pre.filter (byB r)) Wc ∧ Box Wc W.heap.size 68 #[.func (.yield l) #[] #[]]) ∧ (Box Wc (W.heap.size + 1) 33 #[.int .i64 3, .slice A nn c] ∧ Box Wc bd 67 #[.iface 31 (.agg (z9 r))]) ∧ W.heap.size + 2 ≤ Wc.heap.size)
    (fun S => OwnFrom.and (OwnFrom.and ?oj (Own.from (box_own _ _ _) _)) (OwnFrom.and (OwnFrom.and (Own.from (box_own _ _ _) _) (Own.from (box_own _ _ _) _)) (ownFrom_size _ _)))
    (fun S hS => ⟨⟨h00 _ ?ows, hy0⟩, ⟨hs0, hd0⟩, by omega⟩)
    (fun S pre x a' Wc => ∃ Bx, W.heap.size + 2 ≤ Bx ∧ Box Wc Bx 53 #[.int .i64 x.1, .int .i64 x.2.1, .int .i64 x.2.2] ∧ a' = { tmps := #[.func (.yield l) #[] #[], .pointer (some ⟨bx, 0, none⟩), .pointer (some ⟨bd, 0, none⟩), .pointer (some ⟨W.heap.size, 0, none⟩), .pointer (some ⟨Bx, 0, none⟩), .agg #[.int .i64 3, .slice A nn c], .func (.func 53) #[] #[.pointer (some ⟨W.heap.size + 1, 0, none⟩)], mvV x, undef, undef, undef, undef, undef, undef, undef, undef, undef, undef, undef, undef], defers := [] })
    (fun S pre x a' _ X Y row hs hg hr => by obtain ⟨Bx, h1, h2, h3⟩ := hs; exact ⟨Bx, h1, box_own Bx 53 _ () X Y row h2 hg (fun r e => (hr r e).2), h3⟩)
    ?assign ?body ?done
  case bs =>
    intro b hb
    rcases stS_cases hi0 hb with rfl | h <;> omega
  case oj => 
    intro s X Y row hs hg hr
    exact ownFrom_later (HJ.out _) (by omega) _ X Y row hs hg hr
  case ows =>
    rintro b (h | rfl | rfl)
    · have := hS b h; omega
    · omega
    · omega
  case assign =>
    rintro l2 S pre x Wc K hOw hpx ⟨⟨hj, hy⟩, ⟨hst, hd⟩, hsz⟩ hK
    obtain ⟨x1, x2, x3⟩ := x
    dsimp only [mvE, mvV] at hK ⊢
    gi_wp2
    exact hK _ _ ((KeepsOthers.alloc _ _).from _) (keepB_below ((Below.refl Wc.heap.size Wc).alloc (Nat.le_refl _) _) (fun b hb => by
      rcases hb with hb | hb
      · rcases stS_cases hi0 hb with rfl | h <;> omega
      · exact hOw.lt b hb)) ⟨⟨(HJ.out _).alloc _ hj, hy.alloc _⟩, ⟨hst.alloc _, hd.alloc _⟩, by simp; omega⟩ ⟨Wc.heap.size, by omega, Box.new Wc 53 _, rfl⟩
  case body =>
    rintro l2 S pre x a' Wc hOw hpx ⟨⟨hj, hy⟩, ⟨hst, hd⟩, hsz⟩ ⟨Bx, hBx, bX, rfl⟩
    obtain ⟨⟨hf0, hf3⟩, ht0, ht3⟩ := legal_in3 HS.out (hmv x (hpx.subset (by simp)))
    have HP := Lib.hid hpx
    clear hpx
    obtain ⟨x1, x2, x3⟩ := x
    dsimp only [mvV] at bX hf0 hf3 ht0 ht3 ⊢
    obtain ⟨m0, m1, m2⟩ := bX.three
    obtain ⟨c0, f0⟩ := hd.one
    have HY0 := Lib.hid hy
    have HST := Lib.hid hst
    have HD1 := Lib.hid hd
    have HJ1 := Lib.hid hj
    have HBX := Lib.hid bX
    have HOw := Lib.hid hOw
    have hbl : ∀ b, stS (W.heap.size + 1) A L b ∨ S b → b < Wc.heap.size := fun b hb => by
      rcases hb with hb | hb
      · rcases stS_cases hi0 hb with rfl | h <;> omega
      · exact hOw.lt b hb
    have HBL := Lib.hid hbl
    clear hy hst hd hj bX hOw hbl
    have hm := meth_R r
    by_cases ha : alR r x2 x3 = true
    · have ha' := Lib.hid ha
      have hbyx := Lib.hid (show byB r (x1, x2, x3) = true from ha)
      have HR1 := Lib.hid (fun w1 (hb : Below Wc.heap.size Wc w1) => HY.out (ownS S W.heap.size) (pre.filter (byB r)) (x1, x2, x3) w1 (by
        rintro b (h | rfl | rfl)
        · obtain ⟨h1, cs, t, h2, h3⟩ := HOw.out b h
          exact ⟨by omega, cs, t, h2, (hb.block b (HBL.out b (.inr h))).trans h3⟩
        · exact ⟨Nat.le_refl _, _, _, .inr rfl, HY0.out.below hb HY0.out.lt⟩
        · exact ⟨by omega, _, _, .inl rfl, HST.out.below hb HST.out.lt⟩) (filter_pre _ HP.out hbyx.out) (abide (HA.out _) HJ1.out hb))
      gi_wp2_with (first | (refine ⟨trivial, fun _ => by omega, ?_⟩; refine (CallsIn.inRound l2 (callsIn_wide.2 (allowsR_calls' r x2 x3 ⟨hf0, hf3⟩ ⟨ht0, ht3⟩ _))).mono ?_; rintro e w1 ⟨rfl, hb⟩; have HK1 := Lib.hid (keepsOthers_of_below hb); have HB1 := Lib.hid hb; obtain ⟨y0, g0⟩ := (HY0.out.below hb HY0.out.lt).one; obtain ⟨m0, m1, m2⟩ := (HBX.out.below hb HBX.out.lt).three; obtain ⟨fn, tmps, assign, body, hyy, hR⟩ := HR1.out w1 hb; dsimp only [mvE, mvV] at hyy; clear hb) | fail)
      refine ⟨fun _ => by omega, (roundIn_wide hR).mono ?_⟩
      rintro e W3 ⟨rfl, hJ3, hk3, hf3'⟩
      gi_wp2
      have hkk : ∀ b, (stS (W.heap.size + 1) A L b ∨ S b) → W3.heap[b]? = w1.heap[b]? := fun b hb => hk3 b (by
        rcases hb with (rfl | ⟨hne, ad, e1, e2⟩) | hb
        · exact .inr (.inr (.inr rfl))
        · exact .inl (.inr (.inr ⟨hne, ad, e1, e2⟩))
        · exact .inr (.inl hb))
      have hs3 := Nat.le_trans HB1.out.size hf3'.size
      have hf4 : KeepsFrom W0.heap.size w1 W3 := ⟨hf3'.size, fun j o hj => hf3'.same j o (by omega)⟩
      refine ⟨(HK1.out.from _).trans hf4, keepB_t (keepB_below HB1.out HBL.out) hkk, ⟨⟨?_, ?_⟩, ⟨?_, ?_⟩, by omega⟩⟩
      · rw [filter_yes _ hbyx.out]
        exact hJ3
      · exact (hk3 _ (.inr (.inr (.inl rfl)))).trans (HY0.out.below HB1.out HY0.out.lt)
      · exact (hk3 _ (.inr (.inr (.inr rfl)))).trans (HST.out.below HB1.out HST.out.lt)
      · exact (hk3 _ (.inl (.inl rfl))).trans (HD1.out.below HB1.out HD1.out.lt)
    · have ha' := Lib.hid (show alR r x2 x3 = false by simpa using ha)
      have hbyx := Lib.hid (show byB r (x1, x2, x3) = false from ha'.out)
      have hx := ha'.out
      gi_wp2_with (first | (refine ⟨trivial, fun _ => by omega, ?_⟩; refine (CallsIn.inRound l2 (callsIn_wide.2 (allowsR_calls' r x2 x3 ⟨hf0, hf3⟩ ⟨ht0, ht3⟩ _))).mono ?_; rintro e w1 ⟨rfl, hb⟩; have HK1 := Lib.hid (keepsOthers_of_below hb); have HB1 := Lib.hid hb; clear hb) | fail)
      refine ⟨fun _ h => (by cases h), ?_⟩
      gi_wp2
      refine ⟨HK1.out.from _, keepB_below HB1.out HBL.out, ⟨⟨?_, HY0.out.below HB1.out HY0.out.lt⟩, ⟨HST.out.below HB1.out HST.out.lt, HD1.out.below HB1.out HD1.out.lt⟩, by have := HB1.out.size; omega⟩⟩
      rw [filter_no _ hbyx.out]
      exact abide (HA.out _) HJ1.out HB1.out
  case done =>
    rintro D S Wc hD ⟨⟨hj, hy⟩, ⟨hst, hd⟩, hsz⟩ hK
    gi_wp2
    refine ⟨by simp, .inl ⟨_, _, rfl, run_takeDeferred hK, ?_⟩⟩
    exact ⟨_, results_none rfl _ _ _, ⟨_, rfl⟩, _, (HJ.out _).putObj _ hj (by omega) hK rfl⟩

end Go.Proofs.Ytglilhnmgfkfhaa
