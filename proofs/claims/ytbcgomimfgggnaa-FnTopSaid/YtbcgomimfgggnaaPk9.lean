/- Contracts: WayBetween, of the program. · Contracts: WayBetween, of the program: the function. · Contracts: the states of a run, by the specification. · Contracts: the states of a run, by the program; both sides of StatesOfRun. · Contracts: the last state of a run, both sides. -/
import Derived.Test.YtbcgomimfgggnaaPk8
import Derived.Test.YtbcgomimfgggnaaPk4
import Derived.Test.YtbcgomimfgggnaaPk5
import Derived.Test.YtbcgomimfgggnaaPk3
import Derived.RegionIn
import Derived.Deep.Cut
import Derived.StillTailTactics
import Derived.Laws.Rows
namespace Go.Proofs.Ytbcgomimfgggnaa
open Go.RowKit Go.Shelf
set_option linter.unusedVariables false
set_option maxRecDepth 100000
attribute [local go_sem] Oper.semAt_some

theorem roundIn_wideO {n m : Nat} {P : Program} {l l' : Nat} {fn : FuncId} {tmps : Array Value} {assign body : Code} {w : World} {R : Ending → World → Prop} (h : RoundIn Fence.wide n P l fn tmps assign body w R) : RoundIn (Fence.wide.inRound l') m P l fn tmps assign body w R :=
  ⟨trivial, fun c cs _ => h.2 c cs (room_wide _)⟩
section
variable {P : Program} {a : Act} {w : World} {Q : Exit → Act → World → Prop} {F : Fence} {n : Nat}
/-- 'wpIn_scope_once', the label behind three statements. -/
theorem wpIn_scope_once3 {R1 R2 C R : Code} (l : Nat) (J : Nat → Act → World → Prop) (hf : findLabel (R1.seq (R2.seq (C.seq ((Code.label l).seq R)))) l = some (Code.skip.seq R))
    (first : R1.wpIn F n P (Exit.then (fun a w => R2.wpIn F n P (Exit.then (fun a w => C.wpIn F n P (Exit.then (fun a' w' => ∃ j, J j a' w') (fun _ _ _ => False)) a w) (fun _ _ _ => False)) a w) (fun _ _ _ => False)) a w)
    (pass : ∀ j a w, J j a w → R.wpIn F n P (Exit.jump l (fun a' w' => ∃ j', J j' a' w' ∧ j' < j) Q) a w) : (Code.scope (R1.seq (R2.seq (C.seq ((Code.label l).seq R))))).wpIn F n P Q a w := by
  refine wpIn_scope_ghost l J hf (wpIn_seq (wpIn_mono first ?_)) (fun j a w h => wpIn_seq (wpIn_skip (pass j a w h)))
  rintro (_ | _ | _ | _ | _ | _) a w h <;> first | exact h.elim | skip
  refine wpIn_seq (wpIn_mono h ?_)
  rintro (_ | _ | _ | _ | _ | _) a w h <;> first | exact h.elim | skip
  refine wpIn_seq (wpIn_mono h ?_)
  rintro (_ | _ | _ | _ | _ | _) a w h <;> first | exact h.elim | skip
  obtain ⟨j, h⟩ := h
  refine wpIn_seq (wpIn_label (wpIn_mono (pass j a w h) ?_))
  rintro (_ | _ | _ | _ | _ | _) a w h <;> first | exact h | skip
  obtain ⟨h1, j', h2, _⟩ := h
  exact ⟨h1, j', h2⟩
end
/-- The marks of loops that are over; they are there, none with a call. -/
def marksO (ds : List Nat) : List Deferred := ds.map fun D => { target := .collected D, args := #[] }
def MKO (ds : List Nat) (w : World) : Prop := ∀ D ∈ ds, w.heap[D]? = some (.deferred (some []))
theorem MKO.lt {ds : List Nat} {w : World} (h : MKO ds w) : ∀ D ∈ ds, D < w.heap.size := fun D hD => (Array.getElem?_eq_some_iff.1 (h D hD)).1
theorem MKO.below {ds : List Nat} {w w' : World} (h : MKO ds w) (hb : Below w.heap.size w w') : MKO ds w' := fun D hD => (hb.block D (h.lt D hD)).trans (h D hD)
theorem MKO.keeps {B : Nat} {ds : List Nat} {w w' : World} (h : MKO ds w) (hk : KeepsFrom B w w') (hB : ∀ D ∈ ds, B ≤ D) : MKO ds w' := fun D hD => hk.same D _ (hB D hD) (h D hD) rfl
theorem mko_own {β : Type} {B : Nat} {ds : List Nat} (hd : ∀ D ∈ ds, D < B) : OwnFrom B (fun (_ : β) W => MKO ds W) := fun s X Y row hs hg hrow D hD => by
  refine (hg.block D (MKO.lt hs D hD) ?_).trans (hs D hD)
  intro e
  obtain ⟨h1, _⟩ := hrow D e.symm
  have := hd D hD
  omega
theorem leavesO {F : Fence} {n : Nat} {P : Program} {fn : Func} {tmps : Array Value} {R : Ending → World → Prop} {K : World → Prop} {B : Nat} (hK : ∀ W D o, B ≤ D → K W → W.heap[D]? = some (.deferred (some [])) → K (W.putObj D (.deferred o))) : ∀ (ds : List Nat) (W : World), MKO ds W → ds.Nodup → (∀ D ∈ ds, B ≤ D) → K W →
    (∀ W', K W' → LeavesIn F n P fn tmps R [] .returning W') → LeavesInM F n P fn tmps R (marksO ds) .returning W
  | [], W, _, _, _, hW, h => h W hW
  | D :: ds, W, hk, hn, hs, hW, h => by
    have hD := hk D (by simp)
    rw [List.nodup_cons] at hn
    refine ⟨by simp, .inl ⟨D, W.putObj D (.deferred none), rfl, run_takeDeferred hD, ?_⟩⟩
    exact leavesO hK ds _ (fun E hE => (World.putObj_heap_other (fun e => hn.1 (by rw [← e]; exact hE))).trans (hk E (by simp [hE]))) hn.2 (fun E hE => hs E (by simp [hE])) (hK _ _ _ (hs D (by simp)) hW hD) h

/-- The blocks that the iterator reads: its boxes and both lists. -/
def bsB (bx bc by' : Nat) (A B : Option Addr) (L M : List Int) (b : Nat) : Prop := b = bc ∨ stS bx A L b ∨ stS by' B M b
/-- What is left of the way, from the label on. -/
def tlB (M : List Int) (D : Nat) (P Q nx asd : Int) : List Mv :=
  if nx = Q then bkL (wayL (M.take D) asd) else wayL (List.replicate D asd) P ++ ([((D : Int), 3 - P - Q, Q)] ++ bkL (wayL (M.take D) P))
def rmB (M : List Int) (D : Nat) (P Q : Int) (Lc : List Int) (at' nx asd : Int) : List Mv := wayL Lc asd ++ ([((D : Int), at', nx)] ++ tlB M D P Q nx asd)
theorem rm_one (L M : List Int) (D : Nat) (P Q : Int) : w1L L M D P Q = rmB M D P Q (L.take D) P Q (3 - P - Q) := by unfold w1L rmB tlB; rw [if_pos rfl]
theorem rm_two (L M : List Int) (D : Nat) (P Q : Int) (h : 3 - P - Q ≠ Q) : w2L L M D P Q = rmB M D P Q (L.take D) P (3 - P - Q) Q := by unfold w2L rmB tlB; rw [if_neg h]
theorem tl_two (M : List Int) (D : Nat) (P Q nx asd : Int) (h : nx ≠ Q) : tlB M D P Q nx asd = rmB M D P Q (List.replicate D asd) (3 - P - Q) Q P := by unfold tlB rmB tlB; rw [if_neg h, if_pos rfl]
theorem tl_one (M : List Int) (D : Nat) (P Q asd : Int) : tlB M D P Q Q asd = bkL (wayL (M.take D) asd) := by unfold tlB; rw [if_pos rfl]
theorem KeepsFrom.below' {B : Nat} {W W' : World} (h : Below W.heap.size W W') : KeepsFrom B W W' := (keepsOthers_of_below h).from B

/-- A frame whose first nine slots are these, of 88. -/
def Fr9 (a : Act) (vs : List Value) (ds : List Deferred) : Prop := a.defers = ds ∧ ∃ r : List Value, r.length = 79 ∧ a.tmps.toList = vs ++ r
theorem list79 (r : List Value) (h : r.length = 79) : ∃ f : Nat → Value, r = [f 0, f 1, f 2, f 3, f 4, f 5, f 6, f 7, f 8, f 9, f 10, f 11, f 12, f 13, f 14, f 15, f 16, f 17, f 18, f 19, f 20, f 21, f 22, f 23, f 24, f 25, f 26, f 27, f 28, f 29, f 30, f 31, f 32, f 33, f 34, f 35, f 36, f 37, f 38, f 39, f 40, f 41, f 42, f 43, f 44, f 45, f 46, f 47, f 48, f 49, f 50, f 51, f 52, f 53, f 54, f 55, f 56, f 57, f 58, f 59, f 60, f 61, f 62, f 63, f 64, f 65, f 66, f 67, f 68, f 69, f 70, f 71, f 72, f 73, f 74, f 75, f 76, f 77, f 78] := by
  refine ⟨fun k => r[k]?.getD undef, ?_⟩
  have h2 : r = (List.range 79).map (fun k => r[k]?.getD undef) := by
    apply List.ext_getElem?
    intro k
    by_cases hk : k < 79
    · rw [List.getElem?_map, List.getElem?_range hk, List.getElem?_eq_getElem (by omega), Option.map_some, List.getElem?_eq_getElem (by omega)]; rfl
    · rw [List.getElem?_eq_none (by omega), List.getElem?_eq_none (by simp; omega)]
  exact h2
theorem act_is {a : Act} {T : Array Value} {ds : List Deferred} (h1 : a.defers = ds) (h2 : a.tmps.toList = T.toList) : a = { tmps := T, defers := ds } := by
  obtain ⟨tm, df⟩ := a
  have h3 : tm = T := Array.ext' h2
  subst h3
  have h4 : df = ds := h1
  subst h4
  rfl
theorem own_noneW {e s B : Nat} {w : World} {A : Option Addr} {n c : Nat} {xs : List Value} (h : OwnG e s B w A n c xs) : A = none → c = 0 := fun e => by
  rcases h.form with ⟨_, _, h3⟩ | ⟨_, h, _⟩
  · exact h3
  · rw [e] at h; cases h
theorem mvs_keep {V V' : World} {g : Nat} {M : List Mv} (h : Mvs V (some ⟨g, 0, none⟩) M) (hk : V'.heap[g]? = V.heap[g]?) : Mvs V' (some ⟨g, 0, none⟩) M := by
  intro k hlt
  obtain ⟨g2, e, hg, v0, v1, v2⟩ := h k hlt
  injection e with e
  injection e with e
  subst e
  have hlt2 : g < V'.heap.size := by
    rcases Nat.lt_or_ge g V'.heap.size with h' | h'
    · exact h'
    · rw [Array.getElem?_eq_none h', Array.getElem?_eq_getElem hg] at hk; cases hk
  exact ⟨g, rfl, hlt2, (World.cell?_of_block (a := ⟨g, k * 3, none⟩) hk).trans v0, (World.cell?_of_block (a := ⟨g, k * 3 + 1, none⟩) hk).trans v1, (World.cell?_of_block (a := ⟨g, k * 3 + 2, none⟩) hk).trans v2⟩
theorem ownF_below {β : Type} {B : Nat} {J : β → World → Prop} (hJ : OwnFrom B J) {s : β} {W W' : World} (hs : J s W) (h : Below W.heap.size W W') : J s W' := hJ s W W' none hs (grown_of_below h) (fun r e => by cases e)
/-- What the iterator leans on: its box of the yield, the captured boxes, the second list, the marks. -/
def KpB (N l bx bc by' n c d : Nat) (ad ad' : Addr) (M : List Int) (D : Nat) (P Q : Int) (ds : List Nat) (V : World) : Prop :=
  Box V N 97 #[.func (.yield l) #[] #[]] ∧ Box V bx 30 #[.int .i64 3, .slice (some ad) n c] ∧ Box V by' 30 #[.int .i64 3, .slice (some ad') n d] ∧ Box V bc 64 #[.int .i64 D, .int .i64 P, .int .i64 Q, .int .i64 (3 - P - Q)] ∧ Ints V (some ad') M ∧ MKO ds V ∧ N + 1 ≤ V.heap.size
section
variable {N l bx bc by' n c d : Nat} {ad ad' : Addr} {M : List Int} {D : Nat} {P Q : Int} {ds : List Nat} {V V' : World}
theorem KpB.below (h : KpB N l bx bc by' n c d ad ad' M D P Q ds V) (hb : Below V.heap.size V V') : KpB N l bx bc by' n c d ad ad' M D P Q ds V' := by
  obtain ⟨h1, h2, h3, h4, h5, h6, h7⟩ := h
  exact ⟨h1.below hb h1.lt, h2.below hb h2.lt, h3.below hb h3.lt, h4.below hb h4.lt, h5.below hb, h6.below hb, Nat.le_trans h7 hb.size⟩
theorem ints_block {V : World} {A : Addr} {L : List Int} (h : Ints V (some A) L) (hne : L ≠ []) : A.block < V.heap.size := by
  obtain ⟨a, e, hlt, _⟩ := h 0 (List.length_pos_iff.2 hne)
  injection e with e
  subst e
  exact hlt
/-- All these blocks lie below B. -/
def LwB (N bx bc by' : Nat) (ad' : Addr) (M : List Int) (ds : List Nat) (B : Nat) : Prop := N < B ∧ bx < B ∧ by' < B ∧ bc < B ∧ (M ≠ [] → ad'.block < B) ∧ ∀ D ∈ ds, D < B
theorem KpB.low (h : KpB N l bx bc by' n c d ad ad' M D P Q ds V) : LwB N bx bc by' ad' M ds V.heap.size := by
  obtain ⟨h1, h2, h3, h4, h5, h6, h7⟩ := h
  exact ⟨h1.lt, h2.lt, h3.lt, h4.lt, ints_block h5, h6.lt⟩
theorem ints_grownR {V V' : World} {A : Addr} {L : List Int} {b : Nat} (h : Ints V (some A) L) (hg : V.grownBy V' (some b)) (hb : L ≠ [] → A.block ≠ b) : Ints V' (some A) L := by
  intro k hk
  have hne : L ≠ [] := by intro e; rw [e] at hk; simp at hk
  obtain ⟨a, e, hlt, hc⟩ := h k hk
  injection e with e
  subst e
  have hh := hg.block A.block hlt (fun e => hb hne (by injection e))
  refine ⟨A, rfl, Nat.lt_of_lt_of_le hlt hg.size, ?_⟩
  rw [← hc]
  unfold World.cell?
  rw [add_block, hh]
theorem KpB.grown {B b : Nat} (h : KpB N l bx bc by' n c d ad ad' M D P Q ds V) (hl : LwB N bx bc by' ad' M ds B) (hb : B ≤ b) (hg : V.grownBy V' (some b)) : KpB N l bx bc by' n c d ad ad' M D P Q ds V' := by
  obtain ⟨h1, h2, h3, h4, h5, h6, h7⟩ := h
  obtain ⟨l1, l2, l3, l4, l5, l6⟩ := hl
  refine ⟨h1.grown hg (fun e => by injection e with e; omega), h2.grown hg (fun e => by injection e with e; omega), h3.grown hg (fun e => by injection e with e; omega), h4.grown hg (fun e => by injection e with e; omega), ints_grownR h5 hg (fun hne => by have := l5 hne; omega), fun E hE => ?_, Nat.le_trans h7 hg.size⟩
  exact (hg.block E (h6.lt E hE) (fun e => by injection e with e; have := l6 E hE; omega)).trans (h6 E hE)
theorem KpB.yields {L : List Int} {S : Nat → Prop} {B : Nat} (h : KpB N l bx bc by' n c d ad ad' M D P Q ds V) (hk : KeepB (fun b => bsB bx bc by' (some ad) (some ad') L M b ∨ S b) V V') (hS : S N) (hf : KeepsFrom B V V') (hB : ∀ E ∈ ds, B ≤ E) : KpB N l bx bc by' n c d ad ad' M D P Q ds V' := by
  obtain ⟨h1, h2, h3, h4, h5, h6, h7⟩ := h
  exact ⟨(hk N (.inr hS)).trans h1, (hk bx (.inl (.inr (.inl (.inl rfl))))).trans h2, (hk by' (.inl (.inr (.inr (.inl rfl))))).trans h3, (hk bc (.inl (.inl rfl))).trans h4, h5.keepB hk (fun a e hne => .inl (.inr (.inr (.inr ⟨hne, a, e, rfl⟩)))), h6.keeps hf hB, Nat.le_trans h7 hf.size⟩
theorem KpB.from {β : Type} {B : Nat} (hd : ∀ E ∈ ds, E < B) : OwnFrom B (fun (_ : β) V => KpB N l bx bc by' n c d ad ad' M D P Q ds V) := fun s X Y row h hg hr => by
  obtain ⟨h1, h2, h3, h4, h5, h6, h7⟩ := h
  have hr' : ∀ r, row = some r → ∃ o : Obj, X.heap[r]? = some o ∧ o.isCells = false := fun r e => (hr r e).2
  exact ⟨box_own N _ _ () X Y row h1 hg hr', box_own bx _ _ () X Y row h2 hg hr', box_own by' _ _ () X Y row h3 hg hr', box_own bc _ _ () X Y row h4 hg hr', ints_own (some ad') M () X Y row h5 hg hr', mko_own (β := Unit) hd () X Y row h6 hg hr, Nat.le_trans h7 hg.size⟩
end
/-- The blocks of an iterator within: its own, the yield's box, the boxes of what it captured. -/
def exS (S : Nat → Prop) (N p : Nat) (b : Nat) : Prop := S b ∨ b = N ∨ b = p ∨ b = p + 1
/-- What holds at the label. -/
def AtB (J : (Nat → Prop) → List Mv → World → Prop) (N l bx bc by' n c d : Nat) (ad ad' : Addr) (M : List Int) (WL : List Mv) (D : Nat) (P Q : Int) (j : Nat) (Al : Option Addr) (cl : Nat) (Lc : List Int) (at' nx asd : Int) (ds : List Nat) (w' : World) : Prop :=
  ∃ (pre : List Mv), (Hid (WL = pre ++ rmB M D P Q Lc at' nx asd) ∧ Hid (j = if nx = Q then 0 else 1) ∧ (nx = Q ∨ nx = 3 - P - Q) ∧ (0 ≤ asd ∧ asd ≤ 2)) ∧ (Hid (Lc.length = D) ∧ Hid (pegsOk Lc) ∧ (Al = none → cl = 0) ∧ Ints w' Al Lc) ∧ J (fun b => b = N) pre w' ∧
    KpB N l bx bc by' n c d ad ad' M D P Q ds w' ∧ (ds.Nodup ∧ (∀ E ∈ ds, N + 1 ≤ E))

set_option maxHeartbeats 40000000 in
theorem movesBetween1_own (bx bc by' : Nat) (ad ad' : Addr) (n c d : Nat) (L M : List Int) (D : Nat) (P Q : Int) (hL : L.length = n) (hM : M.length = n) (hn : n ≤ 8) (hcap : n ≤ c) (hc63 : c ≤ 9223372036854775807) (hdap : n ≤ d) (hd63 : d ≤ 9223372036854775807)
    (hpL : pegsOk L) (hpM : pegsOk M) (hg : grt L M n = D) (hP : L[D]?.getD 0 = P) (hQ : M[D]?.getD 0 = Q) (w : World) (hX : Box w bx 30 #[.int .i64 3, .slice (some ad) n c]) (hYb : Box w by' 30 #[.int .i64 3, .slice (some ad') n d]) (hCb : Box w bc 64 #[.int .i64 D, .int .i64 P, .int .i64 Q, .int .i64 (3 - P - Q)]) (hI : Ints w (some ad) L) (hJ : Ints w (some ad') M) :
    SeqOwn 5 Try.prog 68 #[.pointer (some ⟨bx, 0, none⟩), .pointer (some ⟨bc, 0, none⟩), .pointer (some ⟨by', 0, none⟩)] mvEnc (fun _ => True) (bsB bx bc by' (some ad) (some ad') L M) (wbD L M D) w := by
  intro l J W hW c1 c2 c3 hY h0
  have HX := Lib.hid (hX.below hW hX.lt)
  have HYB := Lib.hid (hYb.below hW hYb.lt)
  have HC := Lib.hid (hCb.below hW hCb.lt)
  have HI := Lib.hid (hI.below hW)
  have HJ := Lib.hid (hJ.below hW)
  have HL := Lib.hid hL
  have HM := Lib.hid hM
  have HPL := Lib.hid hpL
  have HPM := Lib.hid hpM
  have HG := Lib.hid hg
  have C1 := Lib.hid c1
  have C2 := Lib.hid c2
  have C3 := Lib.hid c3
  have HY := Lib.hid hY
  have H0 := Lib.hid h0
  obtain ⟨hD, hP0, hP1, hQ0, hQ1, hne⟩ := carry_facts hpL hpM hL hM hg
  rw [hP] at hP0 hP1 hne
  rw [hQ] at hQ0 hQ1 hne
  have hbx : bx < W.heap.size := HX.out.lt
  have hby : by' < W.heap.size := HYB.out.lt
  have hbc : bc < W.heap.size := HC.out.lt
  have HNU := Lib.hid (fun V hW1 hW2 => numbersOf_calls (some ad) n c 3 L (some ad') d 3 M D V hL hM hn hW1 hW2 hcap hc63 hdap hd63 hpL hpM hg)
  rw [hP, hQ] at HNU
  obtain ⟨WL, hWL⟩ : ∃ WL, wbD L M D = WL := ⟨_, rfl⟩
  rw [hWL] at hY ⊢
  unfold wbD at hWL
  rw [hP, hQ] at hWL
  rw [show wbD L M D = WL from by unfold wbD; rw [hP, hQ]; exact hWL] at HY
  generalize oneN L M D = one at *
  generalize twoN L M D = two at *
  have HWL := Lib.hid hWL
  have HLT : Hid ((L.take D).length = D) := by unfold Hid; rw [List.length_take, HL.out]; omega
  have HMT : Hid ((M.take D).length = D) := by unfold Hid; rw [List.length_take, HM.out]; omega
  have HPLT := Lib.hid (pegsOk_take HPL.out D)
  have HPMT := Lib.hid (pegsOk_take HPM.out D)
  have hr : 0 ≤ 3 - P - Q ∧ 3 - P - Q ≤ 2 := by omega
  have hn2 : 3 - P - Q ≠ Q := by omega
  clear hX hYb hCb hI hJ hL hM hpL hpM hg c1 c2 c3 hY h0 hWL hP hQ hW
  refine callsIn_of_wp_marks Try.func68 rfl trivial ?_ rfl
  simp only [Try.ntmps68, List.size_toArray, List.length_cons, List.length_nil, Nat.reduceAdd, Nat.reduceSub, Array.replicate_succ, Array.replicate_zero, List.push_toArray, List.append_toArray, List.nil_append, List.cons_append]
  have hal : Below W.heap.size W (W.alloc (.cells #[.func (.yield l) #[] #[]] 97)) := (Below.refl _ _).alloc (Nat.le_refl _) _
  have HX1 := Lib.hid (HX.out.below hal HX.out.lt)
  have HYB1 := Lib.hid (HYB.out.below hal HYB.out.lt)
  have HC1 := Lib.hid (HC.out.below hal HC.out.lt)
  have HI1 := Lib.hid (HI.out.below hal)
  have HJ1 := Lib.hid (HJ.out.below hal)
  have HYD := Lib.hid (Box.new W 97 #[.func (.yield l) #[] #[]])
  have H01 := Lib.hid ((C1.out (fun b => b = W.heap.size)).alloc (.cells #[.func (.yield l) #[] #[]] 97) (C3.out _ _ _ _ H0.out (fun b hb => .inr (by rw [hb]; exact Nat.le_refl _))))
  have HB1 := Lib.hid hal
  clear hal HX HYB HC HI HJ H0
  gi_wp2_with fail
  generalize hW1 : W.alloc (.cells #[.func (.yield l) #[] #[]] 97) = W1 at *
  have hsz1 : W1.heap.size = W.heap.size + 1 := by rw [← hW1]; simp
  clear hW1
  refine wpIn_scope_once3 0 (fun j a' w' => ∃ (Al : Option Addr) (cl : Nat) (Lc : List Int) (at' nx asd : Int) (ds : List Nat), Fr9 a' [.func (.yield l) #[] #[], .pointer (some ⟨bx, 0, none⟩), .pointer (some ⟨bc, 0, none⟩), .pointer (some ⟨by', 0, none⟩), .pointer (some ⟨W.heap.size, 0, none⟩), .slice Al D cl, .int .i64 at', .int .i64 nx, .int .i64 asd] (marksO ds) ∧ AtB J W.heap.size l bx bc by' n c d ad ad' M WL D P Q j Al cl Lc at' nx asd ds w') rfl ?_ ?_
  · obtain ⟨x0, x1, _, _⟩ := HX1.out.two
    obtain ⟨k0, k1, k2, k3⟩ := HC1.out.four
    obtain ⟨y0, y1, _, _⟩ := HYB1.out.two
    have hi0 : (0 : Int) ≤ (D : Int) := by omega
    have hi2 : (D : Int) ≤ (c : Int) := by omega
    gi_wp2_with fail
    gi_region
    gi_wp2_with fail
    refine ⟨trivial, ?_⟩
    refine (callsIn_wide.2 (HNU.out W1.drew HI1.out HJ1.out)).mono ?_
    rintro e w2 ⟨rfl, hb⟩
    have hb' : Below W1.heap.size W1 w2 := undrew hb
    have HX2 := Lib.hid (HX1.out.below hb' HX1.out.lt)
    have HYB2 := Lib.hid (HYB1.out.below hb' HYB1.out.lt)
    have HC2 := Lib.hid (HC1.out.below hb' HC1.out.lt)
    have HYD2 := Lib.hid (HYD.out.below hb' HYD.out.lt)
    have HI2 := Lib.hid (HI1.out.below hb')
    have HJ2 := Lib.hid (HJ1.out.below hb')
    have H02 := Lib.hid (ownF_below (C1.out _) H01.out hb')
    have hs2 := hb'.size
    have HKP : Hid (KpB W.heap.size l bx bc by' n c d ad ad' M D P Q [] w2) := ⟨HYD2.out, HX2.out, HYB2.out, HC2.out, HJ2.out, (fun E hE => by cases hE), by rw [← hsz1]; exact hs2⟩
    clear hb hb' x0 x1 k0 k1 k2 k3 y0 y1 HX1 HYB1 HC1 HYD HI1 HJ1 H01
    obtain ⟨k0, k1, k2, k3⟩ := HC2.out.four
    by_cases hlt : two < one
    · have HE := Lib.hid (show w2L L M D P Q = WL by have h := HWL.out; rw [if_neg (by omega)] at h; exact h)
      have hE2 := HE.out
      rw [rm_two L M D P Q hn2] at hE2
      have hd : Below w2.heap.size w2 w2.drew := (Below.refl _ _).drew
      have HAT : Hid (AtB J W.heap.size l bx bc by' n c d ad ad' M WL D P Q 1 (some ad) c (L.take D) P (3 - P - Q) Q [] w2.drew) := ⟨[], ⟨Lib.hid (hE2.symm.trans (List.nil_append _).symm), Lib.hid (by rw [if_neg hn2]), .inr rfl, ⟨hQ0, hQ1⟩⟩, ⟨HLT, HPLT, (fun h => by cases h), (HI2.out.below hd).take D⟩, ownF_below (C1.out _) H02.out hd, HKP.out.below hd, ⟨List.nodup_nil, fun D hD => by cases hD⟩⟩
      clear hd
      clear hE2
      gi_wp2_with fail
      gi_region
      gi_wp2
      refine ⟨1, some ad, c, L.take D, P, 3 - P - Q, Q, [], ⟨rfl, [_, _, _, _, _, _, _, _, _, _, _, _, _, _, _, _, _, _, _, _, _, _, _, _, _, _, _, _, _, _, _, _, _, _, _, _, _, _, _, _, _, _, _, _, _, _, _, _, _, _, _, _, _, _, _, _, _, _, _, _, _, _, _, _, _, _, _, _, _, _, _, _, _, _, _, _, _, _, _], rfl, rfl⟩, ?_⟩
      exact HAT.out
    · have HE := Lib.hid (show w1L L M D P Q = WL by have h := HWL.out; rw [if_pos (by omega)] at h; exact h)
      have hE2 := HE.out
      rw [rm_one L M D P Q] at hE2
      have HAT : Hid (AtB J W.heap.size l bx bc by' n c d ad ad' M WL D P Q 0 (some ad) c (L.take D) P Q (3 - P - Q) [] w2) := ⟨[], ⟨Lib.hid (hE2.symm.trans (List.nil_append _).symm), Lib.hid (by rw [if_pos rfl]), .inl rfl, hr⟩, ⟨HLT, HPLT, (fun h => by cases h), HI2.out.take D⟩, H02.out, HKP.out, ⟨List.nodup_nil, fun D hD => by cases hD⟩⟩
      clear hE2
      gi_wp2_with fail
      refine ⟨0, some ad, c, L.take D, P, Q, 3 - P - Q, [], ⟨rfl, [_, _, _, _, _, _, _, _, _, _, _, _, _, _, _, _, _, _, _, _, _, _, _, _, _, _, _, _, _, _, _, _, _, _, _, _, _, _, _, _, _, _, _, _, _, _, _, _, _, _, _, _, _, _, _, _, _, _, _, _, _, _, _, _, _, _, _, _, _, _, _, _, _, _, _, _, _, _, _], rfl, rfl⟩, ?_⟩
      exact HAT.out
  · clear HX1 HYB1 HC1 HYD HI1 HJ1 H01 HNU HWL
    rintro j0 a' wr ⟨Al, cl, Lc, at', nx, asd, ds, ⟨hdf, r, hr79, htm⟩, pre, ⟨HWL, HJ0, hnx, hasd⟩, ⟨HLc, HPc, hAl, hIc⟩, hJr, hkp, ⟨hnd, hge⟩⟩
    obtain ⟨f, rfl⟩ := list79 r hr79
    obtain rfl : a' = { tmps := #[.func (.yield l) #[] #[], .pointer (some ⟨bx, 0, none⟩), .pointer (some ⟨bc, 0, none⟩), .pointer (some ⟨by', 0, none⟩), .pointer (some ⟨W.heap.size, 0, none⟩), .slice Al D cl, .int .i64 at', .int .i64 nx, .int .i64 asd, f 0, f 1, f 2, f 3, f 4, f 5, f 6, f 7, f 8, f 9, f 10, f 11, f 12, f 13, f 14, f 15, f 16, f 17, f 18, f 19, f 20, f 21, f 22, f 23, f 24, f 25, f 26, f 27, f 28, f 29, f 30, f 31, f 32, f 33, f 34, f 35, f 36, f 37, f 38, f 39, f 40, f 41, f 42, f 43, f 44, f 45, f 46, f 47, f 48, f 49, f 50, f 51, f 52, f 53, f 54, f 55, f 56, f 57, f 58, f 59, f 60, f 61, f 62, f 63, f 64, f 65, f 66, f 67, f 68, f 69, f 70, f 71, f 72, f 73, f 74, f 75, f 76, f 77, f 78], defers := marksO ds } := act_is hdf htm
    clear hdf htm hr79
    have HD8 : D ≤ 8 := by omega
    have HKP := Lib.hid hkp
    have HJR := Lib.hid hJr
    have HGE := Lib.hid hge
    have HND := Lib.hid hnd
    have HIC := Lib.hid hIc
    have HAL := Lib.hid hAl
    clear hkp hJr hge hnd hIc hAl
    gi_wp2_with fail
    refine ⟨trivial, ?_⟩
    refine (callsIn_wide.2 (movesToPeg_calls Al D cl asd wr)).mono ?_
    rintro e w2 ⟨rfl, hw2⟩
    have bP := (Box.new wr 28 #[.slice Al D cl]).alloc (.cells #[.int .i64 asd] 2)
    have bA := Box.new (wr.alloc (.cells #[.slice Al D cl] 28)) 2 #[.int .i64 asd]
    simp only [World.size_alloc] at bA
    have hb2 : Below wr.heap.size wr ((wr.alloc (.cells #[.slice Al D cl] 28)).alloc (.cells #[.int .i64 asd] 2)) := ((Below.refl _ _).alloc (Nat.le_refl _) _).alloc (by simp) _
    have hsz2 : ((wr.alloc (.cells #[.slice Al D cl] 28)).alloc (.cells #[.int .i64 asd] 2)).heap.size = wr.heap.size + 2 := by simp
    rw [← hw2] at bP bA hb2 hsz2
    clear hw2
    have hIC2 := HIC.out.below hb2
    have HSQ := Lib.hid ((movesToPeg_priv 4 wr.heap.size (wr.heap.size + 1) (by omega) Al D cl Lc asd HAL.out HLc.out HD8 HPc.out hasd w2 bP bA hIC2).own (tp := fun _ => True) trivial)
    have HBP := Lib.hid bP
    have HBA := Lib.hid bA
    have HKP2 := Lib.hid (HKP.out.below hb2)
    have hlow := HKP.out.low
    have hN := HKP.out.2.2.2.2.2.2
    have HJ2 := Lib.hid (show J (exS (fun _ => False) W.heap.size wr.heap.size) (pre ++ []) w2 by
      rw [List.append_nil]
      refine ownF_below (C1.out _) (C3.out _ _ _ _ HJR.out ?_) hb2
      rintro b (h | rfl | rfl | rfl)
      · exact h.elim
      · exact .inl rfl
      · exact .inr (Nat.le_refl _)
      · exact .inr (Nat.le_succ _))
    have hlow2 : LwB W.heap.size bx bc by' ad' M ds (w2.heap.size + 2) := by
      obtain ⟨l1, l2, l3, l4, l5, l6⟩ := hlow
      exact ⟨by omega, by omega, by omega, by omega, fun h => by have := l5 h; omega, fun E hE => by have := l6 E hE; omega⟩
    have hdsl : ∀ E ∈ ds, E < w2.heap.size := fun E hE => by have := hlow.2.2.2.2.2 E hE; omega
    have HLW := Lib.hid hlow2
    have HDS := Lib.hid hdsl
    clear hb2 bP bA hIC2 HKP HJR HIC hlow hlow2 hdsl
    gi_wp2_with fail
    refine rangeFunc_own (by omega) (gf := 89) (lb := #[.pointer (some ⟨wr.heap.size, 0, none⟩), .pointer (some ⟨wr.heap.size + 1, 0, none⟩)]) rfl (enters_of Try.func89 (by kernel_rfl) rfl) HSQ.out (fun _ => rfl) (fun b hb => by rcases hb with rfl | rfl <;> (rw [hsz2]; omega))
      (fun S pre' V => J (exS S W.heap.size wr.heap.size) (pre ++ pre') V ∧ (Box V wr.heap.size 28 #[.slice Al D cl] ∧ Box V (wr.heap.size + 1) 2 #[.int .i64 asd]) ∧ KpB W.heap.size l bx bc by' n c d ad ad' M D P Q ds V)
      ?hI ?hI2 ?hI3 ⟨HJ2.out, ⟨HBP.out, HBA.out⟩, HKP2.out⟩
      (fun S pre' x a' V => ∃ Bx, Box V Bx 69 #[.int .i64 x.1, .int .i64 x.2.1, .int .i64 x.2.2] ∧ a' = { tmps := #[.func (.yield l) #[] #[], .pointer (some ⟨bx, 0, none⟩), .pointer (some ⟨bc, 0, none⟩), .pointer (some ⟨by', 0, none⟩), .pointer (some ⟨W.heap.size, 0, none⟩), .slice Al D cl, .int .i64 at', .int .i64 nx, .int .i64 asd, f 0, f 1, .pointer (some ⟨Bx, 0, none⟩), f 3, f 4, f 5, f 6, f 7, f 8, f 9, f 10, f 11, f 12, f 13, f 14, f 15, f 16, f 17, f 18, f 19, f 20, f 21, f 22, f 23, f 24, f 25, f 26, f 27, f 28, f 29, .slice Al D cl, .int .i64 asd, .func (.func 89) #[] #[.pointer (some ⟨wr.heap.size, 0, none⟩), .pointer (some ⟨wr.heap.size + 1, 0, none⟩)], mvV x, f 34, f 35, f 36, f 37, f 38, f 39, f 40, f 41, f 42, f 43, f 44, f 45, f 46, f 47, f 48, f 49, f 50, f 51, f 52, f 53, f 54, f 55, f 56, f 57, f 58, f 59, f 60, f 61, f 62, f 63, f 64, f 65, f 66, f 67, f 68, f 69, f 70, f 71, f 72, f 73, f 74, f 75, f 76, f 77, f 78], defers := [] })
      (fun S pre' x a' _ X Y row hs hg hr => by obtain ⟨Bx, h2, h3⟩ := hs; exact ⟨Bx, box_own Bx 69 _ () X Y row h2 hg (fun r e => (hr r e).2), h3⟩)
      ?assign ?body ?done
    case hI =>
      intro S s X Y row ⟨h1, ⟨h2, h3⟩, h4⟩ hg hr
      have hr' : ∀ r, row = some r → W.heap.size ≤ r ∧ ∃ o : Obj, X.heap[r]? = some o ∧ o.isCells = false := fun r e => by
        obtain ⟨q1, q2⟩ := hr r e
        exact ⟨by omega, q2⟩
      exact ⟨C1.out _ (pre ++ s) X Y row h1 hg hr', ⟨box_own _ _ _ () X Y row h2 hg (fun r e => (hr r e).2), box_own _ _ _ () X Y row h3 hg (fun r e => (hr r e).2)⟩, KpB.from (β := Unit) HDS.out () X Y row h4 hg hr⟩
    case hI2 =>
      rintro S pre' X Y b hb hS ⟨h1, ⟨h2, h3⟩, h4⟩ hg
      exact ⟨C2.out _ _ _ _ b (by omega) (.inl hS) h1 hg, ⟨h2.grown hg (fun e => by injection e with e; omega), h3.grown hg (fun e => by injection e with e; omega)⟩, h4.grown HLW.out hb hg⟩
    case hI3 =>
      rintro S S' pre' X ⟨h1, h2, h4⟩ h
      refine ⟨C3.out _ _ _ _ h1 ?_, h2, h4⟩
      rintro b (hb | hb)
      · rcases h b hb with h5 | h5
        · exact .inl (.inl h5)
        · exact .inr h5
      · exact .inl (.inr hb)
    case assign =>
      rintro l2 S pre' x V K hOw hpx ⟨h1, ⟨h2, h3⟩, h4⟩ hK
      obtain ⟨x1, x2, x3⟩ := x
      have hV := h3.lt
      have hal : Below V.heap.size V (V.alloc (.cells #[.int .i64 x1, .int .i64 x2, .int .i64 x3] 69)) := (Below.refl _ _).alloc (Nat.le_refl _) _
      have h1' := ownF_below (C1.out _) h1 hal
      have h4' := h4.below hal
      dsimp only [mvEnc, mvV] at hK ⊢
      gi_wp2
      exact hK _ _ ((KeepsOthers.alloc _ _).from _) (keepB_below hal (fun b hb => by
        rcases hb with (rfl | rfl) | hb
        · exact h2.lt
        · exact h3.lt
        · exact hOw.lt b hb)) ⟨h1', ⟨h2.alloc _, h3.alloc _⟩, h4'⟩ ⟨V.heap.size, Box.new V 69 _, rfl⟩
    case body =>
      rintro l2 S pre' x a' V hOw hpx ⟨h1, ⟨h2, h3⟩, h4⟩ ⟨Bx, bX, rfl⟩
      obtain ⟨x1, x2, x3⟩ := x
      have hpre : (pre ++ pre') ++ [(x1, x2, x3)] <+: WL := by
        rw [HWL.out, List.append_assoc]
        exact (List.prefix_append_right_inj pre).2 (hpx.trans (List.prefix_append _ _))
      have hown : OwnedBy (fun _ => True) (exS S W.heap.size wr.heap.size) W.heap.size V := by
        rintro b (h | rfl | rfl | rfl)
        · obtain ⟨q1, cs, t, q2, q3⟩ := hOw b h
          exact ⟨by omega, cs, t, trivial, q3⟩
        · exact ⟨Nat.le_refl _, _, _, trivial, h4.1⟩
        · exact ⟨by omega, _, _, trivial, h2⟩
        · exact ⟨by omega, _, _, trivial, h3⟩
      obtain ⟨fn, tmps, assign, body, hyy, hR⟩ := HY.out _ _ (x1, x2, x3) V hown hpre h1
      dsimp only [mvEnc, mvV] at hyy bX ⊢
      obtain ⟨m0, m1, m2⟩ := bX.three
      obtain ⟨y0, g0⟩ := h4.1.one
      have H2 := Lib.hid h2
      have H3 := Lib.hid h3
      have H4 := Lib.hid h4
      have HRR := Lib.hid hR
      have hOw' := Lib.hid hOw
      clear h1 h2 h3 h4 bX hpx hpre hown hR hOw
      gi_wp2_with fail
      refine (roundIn_wideO HRR.out).mono ?_
      rintro e V3 ⟨rfl, hJ3, hk3, hf3⟩
      have r1 : KeepsFrom w2.heap.size V V3 := ⟨hf3.size, fun j o hj => hf3.same j o (by omega)⟩
      have r2 : KeepB (fun b => (b = wr.heap.size ∨ b = wr.heap.size + 1) ∨ S b) V V3 := fun b hb => hk3 b (by
        rcases hb with (h | h) | h
        · exact .inr (.inr (.inr (.inl h)))
        · exact .inr (.inr (.inr (.inr h)))
        · exact .inr (.inl h))
      have r3 : J (exS S W.heap.size wr.heap.size) (pre ++ (pre' ++ [(x1, x2, x3)])) V3 := by rw [← List.append_assoc]; exact hJ3
      have r4 := (hk3 _ (.inr (.inr (.inr (.inl rfl))))).trans H2.out
      have r5 := (hk3 _ (.inr (.inr (.inr (.inr rfl))))).trans H3.out
      have r6 := H4.out.yields hk3 (.inr (.inl rfl)) hf3 (fun E hE => by have := HGE.out E hE; omega)
      have R := Lib.hid (And.intro r1 (And.intro r2 (And.intro r3 (And.intro (And.intro r4 r5) r6))))
      clear r1 r2 r3 r4 r5 r6 hJ3 hk3 hf3
      gi_wp2
      exact R.out
    case done =>
      rintro D0 S V hD0 ⟨h1, ⟨h2, h3⟩, h4⟩ hK0
      have HS := Lib.hid h1
      have H4 := Lib.hid h4
      have HK0 := Lib.hid hK0
      have hVs : w2.heap.size ≤ V.heap.size := by have := h3.lt; omega
      obtain ⟨k0, k1, k2, k3⟩ := h4.2.2.2.1.four
      have hVs2 : W.heap.size + 1 ≤ V.heap.size := h4.2.2.2.2.2.2
      clear h1 h2 h3 h4 hK0
      gi_wp2_with fail
      refine ⟨trivial, ?_⟩
      refine (callsIn_wide.2 (perfectState_calls 3 asd D V HD8)).mono ?_
      rintro e V2 ⟨A2, c2', rfl, hO2, hb2⟩
      have HO2 := Lib.hid (show OwnG 2 1 V.heap.size V2 A2 D c2' ((List.replicate D asd).map (Value.int .i64)) from hO2)
      have hK2 : V2.heap[D0]? = some (.deferred (some [])) := (hb2.block D0 (Array.getElem?_eq_some_iff.1 HK0.out).1).trans HK0.out
      have hds2 : ∀ E ∈ D0 :: ds, W.heap.size + 1 ≤ E := fun E hE => by
        rcases List.mem_cons.1 hE with rfl | h
        · omega
        · exact HGE.out E h
      have hnd2 : (D0 :: ds).Nodup := List.nodup_cons.2 ⟨fun h => by have := HDS.out D0 h; omega, HND.out⟩
      have hkp2 : KpB W.heap.size l bx bc by' n c d ad ad' M D P Q (D0 :: ds) V2 := by
        obtain ⟨q1, q2, q3, q4, q5, q6, q7⟩ := H4.out.below hb2
        exact ⟨q1, q2, q3, q4, q5, fun E hE => by
          rcases List.mem_cons.1 hE with rfl | h
          · exact hK2
          · exact q6 E h, q7⟩
      have hj2 : J (fun b => b = W.heap.size ∨ ∃ a : Addr, A2 = some a ∧ b = a.block) (pre ++ wayL Lc asd) V2 := by
        refine ownF_below (C1.out _) (C3.out _ _ _ _ HS.out ?_) hb2
        rintro b (rfl | ⟨a, rfl, rfl⟩)
        · exact .inl (.inr (.inl rfl))
        · rcases OwnG.form HO2.out with ⟨h, _⟩ | ⟨g, h, hB, _⟩
          · cases h
          · injection h with h
            subst h
            exact .inr hB
      have hown2 : OwnedBy (fun _ => True) (fun b => b = W.heap.size ∨ ∃ a : Addr, A2 = some a ∧ b = a.block) W.heap.size V2 := by
        rintro b (rfl | ⟨a, rfl, rfl⟩)
        · exact ⟨Nat.le_refl _, _, _, trivial, hkp2.1⟩
        · rcases OwnG.form HO2.out with ⟨h, _⟩ | ⟨g, h, hB, _⟩
          · cases h
          · injection h with h
            subst h
            obtain ⟨cs, hcs⟩ := ownCells HO2.out
            exact ⟨by show W.heap.size ≤ g; omega, cs, _, trivial, hcs⟩
      have hWL2 : WL = ((pre ++ wayL Lc asd) ++ [((D : Int), at', nx)]) ++ tlB M D P Q nx asd := by
        rw [HWL.out]
        unfold rmB
        simp
      obtain ⟨fn, tmps, assign, body, hyy, hR⟩ := HY.out _ (pre ++ wayL Lc asd) ((D : Int), at', nx) V2 hown2 (by rw [hWL2]; exact List.prefix_append _ _) hj2
      dsimp only [mvEnc, mvV] at hyy
      have HI2' := Lib.hid (intsW HO2.out)
      have HKP' := Lib.hid hkp2
      have HWL2 := Lib.hid hWL2
      have HRR := Lib.hid hR
      have HND2 := Lib.hid hnd2
      have HGE2 := Lib.hid hds2
      clear k0 k1 k2 k3 hK2 hj2 hown2 hWL2 hR hO2 hb2 hnd2 hds2 HK0 HS H4
      obtain ⟨k0, k1, k2, k3⟩ := hkp2.2.2.2.1.four
      obtain ⟨y0, g0⟩ := hkp2.1.one
      clear hkp2
      have hfl : ∀ x, (Instr.field 30 (.agg #[.int .i64 3, x]) 1).run Try.prog V2 = .ok x V2 := fun x => by kernel_rfl
      gi_wp2_with fail
      refine HRR.out.mono ?_
      rintro e V3 ⟨rfl, hj3, hk3, hf3⟩
      have hkp3 := HKP'.out.yields hk3 (.inl rfl) hf3 (fun E hE => by have := HGE2.out E hE; omega)
      have HI3 := Lib.hid (HI2'.out.keepB hk3 (fun a e hne => .inr (.inr ⟨a, e, rfl⟩)))
      have HJ3 := Lib.hid hj3
      have HKP3 := Lib.hid hkp3
      have HAN := Lib.hid (own_noneW HO2.out)
      have hs3 := hf3.size
      clear hj3 hk3 hf3 k0 k1 k2 k3 y0 g0 HRR HKP' HI2' hyy
      obtain ⟨k0, k1, k2, k3⟩ := hkp3.2.2.2.1.four
      obtain ⟨q0, q1, _, _⟩ := hkp3.2.2.1.two
      by_cases hq : nx = Q
      · subst hq
        have hWL3 := HWL2.out
        rw [tl_one] at hWL3
        have HWL3 := Lib.hid hWL3
        have ht : (nx != nx) = false := by simp
        have hdap2 : (D : Int) ≤ (d : Int) := by omega
        have hd0 : (0 : Int) ≤ (D : Int) := by omega
        have HIM := Lib.hid (hkp3.2.2.2.2.1.take D)
        clear hkp3 hWL3 HWL2 HWL
        gi_wp2_with fail
        refine ⟨trivial, ?_⟩
        refine (callsIn_wide.2 (movesToPeg_calls (some ad') D d asd _)).mono ?_
        rintro e V4 ⟨rfl, hw4⟩
        have bP := (Box.new V3 28 #[.slice (some ad') D d]).alloc (.cells #[.int .i64 asd] 2)
        have bA := Box.new (V3.alloc (.cells #[.slice (some ad') D d] 28)) 2 #[.int .i64 asd]
        simp only [World.size_alloc] at bA
        have hb4 : Below V3.heap.size V3 ((V3.alloc (.cells #[.slice (some ad') D d] 28)).alloc (.cells #[.int .i64 asd] 2)) := ((Below.refl _ _).alloc (Nat.le_refl _) _).alloc (by simp) _
        have hsz4 : ((V3.alloc (.cells #[.slice (some ad') D d] 28)).alloc (.cells #[.int .i64 asd] 2)).heap.size = V3.heap.size + 2 := by simp
        rw [← hw4] at bP bA hb4 hsz4
        have hseq4 := movesToPeg_priv 5 V3.heap.size (V3.heap.size + 1) (by omega) (some ad') D d (M.take D) asd (fun h => by cases h) HMT.out HD8 HPMT.out hasd V4 bP bA (HIM.out.below hb4)
        have HWBK := Lib.hid (wayBack_priv 89 #[.pointer (some ⟨V3.heap.size, 0, none⟩), .pointer (some ⟨V3.heap.size + 1, 0, none⟩)] (fun b => b = V3.heap.size ∨ b = V3.heap.size + 1) (wayL (M.take D) asd) V4 (enters_of Try.func89 (by kernel_rfl) rfl) (wayL_bd (by rw [HMT.out]; exact HD8)) (fun b hb => by rcases hb with rfl | rfl <;> omega) hseq4)
        have HB4 := Lib.hid hb4
        have HKP4 := Lib.hid (HKP3.out.below hb4)
        have hN3 := HKP3.out.2.2.2.2.2.2
        have HLB := Lib.hid (show (bkL (wayL (M.take D) asd)).length ≤ 255 by rw [bkL_len]; exact wayL_bd (by rw [HMT.out]; exact HD8))
        clear bP bA hb4 hseq4 hw4 k0 k1 k2 k3 q0 q1 HIM HI3 HAN
        gi_wp2_with fail
        refine ⟨trivial, ?_⟩
        refine (callsIn_wide.2 HWBK.out).mono ?_
        rintro e V5 ⟨A5, c5, rfl, hO5, hb5⟩
        obtain ⟨BL, hBL⟩ : ∃ BL, bkL (wayL (M.take D) asd) = BL := ⟨_, rfl⟩
        rw [hBL] at hO5 HLB HWL3
        rw [hBL]
        clear hBL HWBK
        have hS5 : ∀ a : Addr, A5 = some a → W.heap.size ≤ a.block ∧ V3.heap.size ≤ a.block ∧ ∃ cs t, V5.heap[a.block]? = some (.cells cs t (0, 0)) := fun a ha => by
          rcases hO5.2 with ⟨hv, _⟩ | ⟨g1, cap, cur, hv, hB, hh, _⟩
          · rw [ha] at hv; cases hv
          · rw [ha] at hv
            injection hv with h1
            injection h1 with h1
            subst h1
            exact ⟨by show W.heap.size ≤ g1; omega, by show V3.heap.size ≤ g1; omega, _, _, hh⟩
        have HS5 := Lib.hid hS5
        have HM5 := Lib.hid (OwnM.mvs hO5)
        have HKP5 := Lib.hid (HKP4.out.below hb5)
        have HJ5 := Lib.hid (show J (fun b => b = W.heap.size ∨ ∃ a : Addr, A5 = some a ∧ b = a.block) (((pre ++ wayL Lc asd) ++ [((D : Int), at', nx)]) ++ BL.take 0) V5 by
          rw [List.take_zero, List.append_nil]
          refine ownF_below (C1.out _) (ownF_below (C1.out _) (C3.out _ _ _ _ HJ3.out ?_) HB4.out) hb5
          rintro b (rfl | ⟨a, rfl, rfl⟩)
          · exact .inl (.inl rfl)
          · exact .inr (HS5.out a rfl).2.1)
        obtain ⟨pr3, hpr3⟩ : ∃ pr3, (pre ++ wayL Lc asd) ++ [((D : Int), at', nx)] = pr3 := ⟨_, rfl⟩
        rw [hpr3] at HWL3 HJ5
        clear hpr3 hO5 hb5 hS5 HB4 HKP4 HKP3 HJ3
        gi_wp2
        gi_loopw [79] (fun i V => ∃ k : Nat, k ≤ BL.length ∧ i = .int .i64 k ∧ J (fun b => b = W.heap.size ∨ ∃ a : Addr, A5 = some a ∧ b = a.block) (pr3 ++ BL.take k) V ∧ KpB W.heap.size l bx bc by' n c d ad ad' M D P nx (D0 :: ds) V ∧ Mvs V A5 BL ∧ (∀ a : Addr, A5 = some a → W.heap.size ≤ a.block ∧ ∃ cs t, V.heap[a.block]? = some (.cells cs t (0, 0)))) (fun i _ => BL.length - (intOf i).toNat)
        case atStart => exact ⟨0, Nat.zero_le _, rfl, HJ5.out, HKP5.out, HM5.out, fun a ha => ⟨(HS5.out a ha).1, (HS5.out a ha).2.2⟩⟩
        case round =>
          obtain ⟨k, hk, rfl, hJk, hkpk, hmk, hsk⟩ := hrel
          obtain ⟨Vk, hVk⟩ : ∃ x, x = wr := ⟨_, rfl⟩
          rw [← hVk] at hJk hkpk hmk hsk ⊢
          clear hVk
          by_cases hlt : k < BL.length
          · obtain ⟨g, rfl, hgl, v0, v1, v2⟩ := hmk k hlt
            have hTK : BL.take (k + 1) = BL.take k ++ [BL[k]?.getD (0, 0, 0)] := by
              rw [List.take_add_one, List.getElem?_eq_getElem hlt]
              rfl
            have hPF : (pr3 ++ BL.take k) ++ [BL[k]?.getD (0, 0, 0)] <+: WL := by
              rw [HWL3.out, List.append_assoc, ← hTK]
              exact (List.prefix_append_right_inj pr3).2 (List.take_prefix _ _)
            generalize BL[k]?.getD (0, 0, 0) = m at *
            obtain ⟨x1, x2, x3⟩ := m
            dsimp only at v0 v1 v2
            have hal : Below Vk.heap.size Vk (Vk.alloc (.cells #[.int .i64 x1, .int .i64 x2, .int .i64 x3] 69)) := (Below.refl _ _).alloc (Nat.le_refl _) _
            have hkpa := hkpk.below hal
            have hska : ∀ a : Addr, (some ⟨g, 0, none⟩ : Option Addr) = some a → W.heap.size ≤ a.block ∧ ∃ cs t, (Vk.alloc (.cells #[.int .i64 x1, .int .i64 x2, .int .i64 x3] 69)).heap[a.block]? = some (.cells cs t (0, 0)) := fun a ha => by
              obtain ⟨q1, cs, t, q2⟩ := hsk a ha
              exact ⟨q1, cs, t, (hal.block a.block (Array.getElem?_eq_some_iff.1 q2).1).trans q2⟩
            obtain ⟨fn, tmps, assign, body, hyy, hR⟩ := HY.out (fun b => b = W.heap.size ∨ ∃ a : Addr, (some ⟨g, 0, none⟩ : Option Addr) = some a ∧ b = a.block) (pr3 ++ BL.take k) (x1, x2, x3) (Vk.alloc (.cells #[.int .i64 x1, .int .i64 x2, .int .i64 x3] 69)) (by
              rintro b (rfl | ⟨a, ha, rfl⟩)
              · exact ⟨Nat.le_refl _, _, _, trivial, hkpa.1⟩
              · obtain ⟨q1, cs, t, q2⟩ := hska a ha
                exact ⟨q1, cs, t, trivial, q2⟩) hPF (ownF_below (C1.out _) hJk hal)
            dsimp only [mvEnc, mvV] at hyy
            have HRR := Lib.hid hR
            have HMK := Lib.hid (hmk.below hal)
            have HSK := Lib.hid hska
            have HKA := Lib.hid hkpa
            have HTK := Lib.hid hTK
            obtain ⟨y0, g0⟩ := hkpa.1.one
            obtain ⟨m0, m1, m2⟩ := (Box.new Vk 69 #[.int .i64 x1, .int .i64 x2, .int .i64 x3]).three
            have hi0 : (0 : Int) ≤ (k : Int) := by omega
            have hi1 : (k : Int) < (BL.length : Int) := by omega
            have hlb := HLB.out
            clear hR hmk hska hkpa hkpk hsk hJk hPF hTK hal HJ5 HKP5 HM5 HS5
            gi_wp2_with fail
            refine HRR.out.mono ?_
            rintro e V' ⟨rfl, hj', hk', hf'⟩
            have r1 : J (fun b => b = W.heap.size ∨ ∃ a : Addr, (some ⟨g, 0, none⟩ : Option Addr) = some a ∧ b = a.block) (pr3 ++ BL.take (k + 1)) V' := by
              rw [HTK.out, ← List.append_assoc]
              exact hj'
            have r2 := HKA.out.yields hk' (.inl rfl) hf' (fun E hE => by have := HGE2.out E hE; omega)
            have r3 : Mvs V' (some ⟨g, 0, none⟩) BL := mvs_keep HMK.out (hk' g (.inr (.inr ⟨_, rfl, rfl⟩)))
            have r4 : ∀ a : Addr, (some ⟨g, 0, none⟩ : Option Addr) = some a → W.heap.size ≤ a.block ∧ ∃ cs t, V'.heap[a.block]? = some (.cells cs t (0, 0)) := fun a ha => by
              obtain ⟨q1, cs, t, q2⟩ := HSK.out a ha
              exact ⟨q1, cs, t, (hk' a.block (.inr (.inr ⟨a, ha, rfl⟩))).trans q2⟩
            have R := Lib.hid (And.intro r1 (And.intro r2 (And.intro r3 r4)))
            clear r1 r2 r3 r4 hj' hk' hf' y0 g0 m0 m1 m2 v0 v1 v2
            gi_wp2
            go_roundw
            case rel => exact ⟨k + 1, by omega, by go_num, R.out⟩
            case measure => simp [intOf]; omega
          · obtain rfl : k = BL.length := by omega
            have HJE := Lib.hid (show J (fun b => b = W.heap.size ∨ ∃ a : Addr, A5 = some a ∧ b = a.block) WL Vk by
              rw [HWL3.out]
              rw [List.take_length] at hJk
              exact hJk)
            have HMKE := Lib.hid hkpk.2.2.2.2.2.1
            clear hJk hkpk hmk hsk HJ5 HKP5 HM5 HS5
            gi_wp2
            simp only [Exit.jump]
            have hB : ∀ E ∈ D0 :: ds, W.heap.size ≤ E := fun E hE => Nat.le_trans (Nat.le_succ _) (HGE2.out E hE)
            exact leavesO (B := W.heap.size) (K := fun V => J (fun b => b = W.heap.size ∨ ∃ a : Addr, A5 = some a ∧ b = a.block) WL V) (fun V E o hE hV hK => (C1.out _).putObj _ hV hE hK rfl) (D0 :: ds) Vk HMKE.out HND2.out hB HJE.out (fun W' hW' => ⟨_, results_none rfl _ _ _, ⟨_, rfl⟩, _, hW'⟩)
      · have ht : (nx != Q) = true := by simpa using hq
        have hx : nx = 3 - P - Q := hnx.resolve_left hq
        have hd3 : Below V3.heap.size V3 V3.drew := (Below.refl _ _).drew
        have hWL3 := HWL2.out
        rw [tl_two M D P Q nx asd hq] at hWL3
        have HAT : Hid (AtB J W.heap.size l bx bc by' n c d ad ad' M WL D P Q 0 A2 c2' (List.replicate D asd) (3 - P - Q) Q P (D0 :: ds) V3.drew) := ⟨(pre ++ wayL Lc asd) ++ [((D : Int), at', nx)], ⟨Lib.hid hWL3, Lib.hid (by rw [if_pos rfl]), .inl rfl, ⟨hP0, hP1⟩⟩, ⟨Lib.hid (by simp), Lib.hid (rep_pegs hasd D), HAN.out, HI3.out.below hd3⟩, ownF_below (C1.out _) (C3.out _ _ _ _ HJ3.out (fun b hb => .inl (.inl hb))) hd3, HKP3.out.below hd3, ⟨HND2.out, HGE2.out⟩⟩
        have HJ1 : Hid (0 < j0) := Lib.hid (by rw [HJ0.out, if_neg hq]; omega)
        clear hd3 hWL3 hkp3 HWL2 HWL
        gi_wp2_with fail
        gi_region
        gi_wp2
        refine wpIn_goto ?_
        change _ ∧ _
        refine ⟨rfl, 0, ⟨A2, c2', List.replicate D asd, 3 - P - Q, Q, P, D0 :: ds, ⟨rfl, [_, _, _, _, _, _, _, _, _, _, _, _, _, _, _, _, _, _, _, _, _, _, _, _, _, _, _, _, _, _, _, _, _, _, _, _, _, _, _, _, _, _, _, _, _, _, _, _, _, _, _, _, _, _, _, _, _, _, _, _, _, _, _, _, _, _, _, _, _, _, _, _, _, _, _, _, _, _, _], rfl, rfl⟩, HAT.out⟩, HJ1.out⟩

end Go.Proofs.Ytbcgomimfgggnaa

namespace Go.Proofs.Ytbcgomimfgggnaa
open Go.RowKit Go.Shelf
set_option linter.unusedVariables false
set_option maxRecDepth 100000

theorem movesBetween_calls (A B : Option Addr) (n c d D : Nat) (P Q : Int) (w : World) :
    Calls Try.prog 44 #[.agg #[.int .i64 3, .slice A n c], .agg #[.int .i64 3, .slice B n d], .agg #[.int .i64 D, .int .i64 P, .int .i64 Q, .int .i64 (3 - P - Q)]] w fun e w' => e = .returned (.func (.func 68) #[] #[.pointer (some ⟨w.heap.size, 0, none⟩), .pointer (some ⟨w.heap.size + 1 + 1, 0, none⟩), .pointer (some ⟨w.heap.size + 1, 0, none⟩)]) ∧ w' = ((w.alloc (.cells #[.int .i64 3, .slice A n c] 30)).alloc (.cells #[.int .i64 3, .slice B n d] 30)).alloc (.cells #[.int .i64 D, .int .i64 P, .int .i64 Q, .int .i64 (3 - P - Q)] 64) := by
  go_enter Try.func44, Try.ntmps44
  go_wp2
  go_ret
  exact ⟨rfl, rfl⟩

set_option maxHeartbeats 40000000 in
theorem implWayBetween_ret (A : Option Addr) (n c : Nat) (p : Int) (L : List Int) (B : Option Addr) (m d : Nat) (q : Int) (M : List Int) (w : World) (hL : L.length = n) (hn : n ≤ 1048576) (hI : Ints w A L) (hcap : n ≤ c) (hc : c ≤ 9223372036854775807) (hM : M.length = m) (hm : m ≤ 1048576) (hJ : Ints w B M) (hdap : m ≤ d) (hd : d ≤ 9223372036854775807) :
    Calls Try.prog 13 #[.agg #[.int .i64 p, .slice A n c], .agg #[.int .i64 q, .slice B m d]] w (RetMvs w (wbL p L q M).length (wbL p L q M) (code2 p L q M)) := by
  have HL := Lib.hid hL
  have HM := Lib.hid hM
  obtain ⟨b1, b2, b3⟩ := twoBoxes w p q A B n c m d 30
  have hbal := (Below.refl _ ((w.alloc (.cells #[.int .i64 p, .slice A n c] 30)).alloc (.cells #[.int .i64 q, .slice B m d] 30))).alloc (Nat.le_refl _) (.cells #[.int .i64 p, .slice A n c, .int .i64 q, .slice B m d] 30)
  have X0 := Lib.hid (b1.below hbal b1.lt)
  have Y0 := Lib.hid (b2.below hbal b2.lt)
  have hc0 := Box.new ((w.alloc (.cells #[.int .i64 p, .slice A n c] 30)).alloc (.cells #[.int .i64 q, .slice B m d] 30)) 30 #[.int .i64 p, .slice A n c, .int .i64 q, .slice B m d]
  simp only [World.size_alloc] at hc0
  have Z0 := Lib.hid hc0
  have HB0 := Lib.hid (b3.trans (hbal.mono b3.size))
  have HI0 := Lib.hid (hI.below HB0.out)
  have HJ0 := Lib.hid (hJ.below HB0.out)
  clear hL hM b1 b2 b3 hbal hc0 hI hJ
  by_cases hz : code2 p L q M = 0
  · obtain ⟨hs, ht, rfl, rfl, hlen⟩ := code2_zero hz
    rw [HL.out, HM.out] at hlen
    subst hlen
    have HZ := Lib.hid hz
    have hz' : (code2 3 L 3 M != 0) = false := by simpa using hz
    have h8 := (state_facts hs HL.out).2.2.1
    have HPL := Lib.hid (state_pegsOk hs)
    have HPM := Lib.hid (state_pegsOk ht)
    rw [hz]
    clear hz hs ht
    rcases grt_cases L M n with hg | ⟨D, hg⟩
    · have HG := Lib.hid hg
      have HC := Lib.hid (carryV_none hg)
      have HD : Hid (decide (grt L M n ≠ -1) = false) := by unfold Hid; rw [hg]; rfl
      rw [wbL_same HZ.out HL.out hg]
      clear hg
      go_enter Try.func13, Try.ntmps13
      go_wp2_with fail
      refine (codeOfStates_two (w.heap.size + 1 + 1) A n c 3 L B n d 3 M _ Z0.out HL.out hn HI0.out HM.out hm HJ0.out).mono ?_
      rintro e w1 ⟨rfl, hb⟩
      rw [HZ.out]
      have X1 := Lib.hid (X0.out.below hb X0.out.lt)
      have Y1 := Lib.hid (Y0.out.below hb Y0.out.lt)
      have HI1 := Lib.hid (HI0.out.below hb)
      have HJ1 := Lib.hid (HJ0.out.below hb)
      have HB1 := Lib.hid (HB0.out.trans (hb.mono HB0.out.size))
      clear hb X0 Y0 HI0 HJ0 HB0 hz'
      obtain ⟨x0, x1, y0, y1⟩ := cells22 X1.out Y1.out
      go_wp2_with fail
      refine (carryBetween_calls A n c 3 L B d 3 M _ HL.out HM.out h8 HI1.out HJ1.out HPL.out HPM.out).mono ?_
      rintro e w2 ⟨rfl, hb⟩
      rw [HC.out, HD.out]
      have HB2 := Lib.hid (HB1.out.trans (hb.mono HB1.out.size))
      have hs2 := HB2.out.size
      clear hb X1 Y1 HI1 HJ1 HB1
      go_wp2
      go_ret2
      exact retMvs_zero rfl (HB2.out.alloc hs2 _)
    · have HG := Lib.hid hg
      have HC := Lib.hid (carryV_some hg)
      have HD : Hid (decide (grt L M n ≠ -1) = true) := by unfold Hid; rw [hg]; simp
      rw [wbL_at HZ.out HL.out hg]
      obtain ⟨hDn, _⟩ := carry_facts HPL.out HPM.out HL.out HM.out hg
      obtain ⟨ad, rfl, _⟩ := HI0.out 0 (by rw [HL.out]; omega)
      obtain ⟨ad', rfl, _⟩ := HJ0.out 0 (by rw [HM.out]; omega)
      clear hg
      go_enter Try.func13, Try.ntmps13
      go_wp2_with fail
      refine (codeOfStates_two (w.heap.size + 1 + 1) (some ad) n c 3 L (some ad') n d 3 M _ Z0.out HL.out hn HI0.out HM.out hm HJ0.out).mono ?_
      rintro e w1 ⟨rfl, hb⟩
      rw [HZ.out]
      have X1 := Lib.hid (X0.out.below hb X0.out.lt)
      have Y1 := Lib.hid (Y0.out.below hb Y0.out.lt)
      have HI1 := Lib.hid (HI0.out.below hb)
      have HJ1 := Lib.hid (HJ0.out.below hb)
      have HB1 := Lib.hid (HB0.out.trans (hb.mono HB0.out.size))
      clear hb X0 Y0 HI0 HJ0 HB0 hz'
      obtain ⟨x0, x1, y0, y1⟩ := cells22 X1.out Y1.out
      go_wp2_with fail
      refine (carryBetween_calls (some ad) n c 3 L (some ad') d 3 M _ HL.out HM.out h8 HI1.out HJ1.out HPL.out HPM.out).mono ?_
      rintro e w2 ⟨rfl, hb⟩
      rw [HC.out, HD.out]
      obtain ⟨P, hP⟩ : ∃ P, L[D]?.getD 0 = P := ⟨_, rfl⟩
      obtain ⟨Q, hQ⟩ : ∃ Q, M[D]?.getD 0 = Q := ⟨_, rfl⟩
      rw [hP, hQ]
      have HP := Lib.hid hP
      have HQ := Lib.hid hQ
      clear hP hQ
      have hal := (Below.refl w2.heap.size w2).alloc (Nat.le_refl _) (.cells #[.int .i64 D, .int .i64 P, .int .i64 Q, .int .i64 (3 - P - Q)] 64)
      have X2 := Lib.hid ((X1.out.below hb X1.out.lt).below hal (X1.out.below hb X1.out.lt).lt)
      have Y2 := Lib.hid ((Y1.out.below hb Y1.out.lt).below hal (Y1.out.below hb Y1.out.lt).lt)
      have HI2 := Lib.hid ((HI1.out.below hb).below hal)
      have HJ2 := Lib.hid ((HJ1.out.below hb).below hal)
      have HB2 := Lib.hid ((HB1.out.trans (hb.mono HB1.out.size)).trans (hal.mono (HB1.out.trans (hb.mono HB1.out.size)).size))
      have C2 := Lib.hid (Box.new w2 64 #[.int .i64 D, .int .i64 P, .int .i64 Q, .int .i64 (3 - P - Q)])
      clear hb hal X1 Y1 HI1 HJ1 HB1 x0 x1 y0 y1
      obtain ⟨x0, x1, y0, y1⟩ := cells22 X2.out Y2.out
      obtain ⟨k0, k1, k2, k3⟩ := C2.out.four
      go_wp2_with fail
      generalize w2.alloc (.cells #[.int .i64 D, .int .i64 P, .int .i64 Q, .int .i64 (3 - P - Q)] 64) = W2 at *
      refine (movesBetween_calls (some ad) (some ad') n c d D P Q W2).mono ?_
      rintro e w3 ⟨rfl, hw3⟩
      obtain ⟨g1, g2, g3⟩ := twoBoxes W2 3 3 (some ad) (some ad') n c n d 30
      have hal3 := (Below.refl _ ((W2.alloc (.cells #[.int .i64 3, .slice (some ad) n c] 30)).alloc (.cells #[.int .i64 3, .slice (some ad') n d] 30))).alloc (Nat.le_refl _) (.cells #[.int .i64 D, .int .i64 P, .int .i64 Q, .int .i64 (3 - P - Q)] 64)
      have bx := g1.below hal3 g1.lt
      have by3 := g2.below hal3 g2.lt
      have bc := Box.new ((W2.alloc (.cells #[.int .i64 3, .slice (some ad) n c] 30)).alloc (.cells #[.int .i64 3, .slice (some ad') n d] 30)) 64 #[.int .i64 D, .int .i64 P, .int .i64 Q, .int .i64 (3 - P - Q)]
      simp only [World.size_alloc] at bc
      have hb3 := g3.trans (hal3.mono g3.size)
      rw [← hw3] at bx by3 bc hb3
      have hI3 := HI2.out.below hb3
      have hJ3 := HJ2.out.below hb3
      have hs3 : w3.heap.size = W2.heap.size + 3 := by rw [hw3]; simp
      have HSQ := movesBetween1_own W2.heap.size (W2.heap.size + 1 + 1) (W2.heap.size + 1) ad ad' n c d L M D P Q HL.out HM.out h8 hcap hc hdap hd HPL.out HPM.out HG.out HP.out HQ.out w3 bx by3 bc hI3 hJ3
      have hlen : (wbD L M D).length ≤ 1000 := by
        unfold wbD
        split
        · exact Nat.le_trans (w1L_len _ _ _ _ _ (by omega)) (by decide)
        · exact Nat.le_trans (w2L_len _ _ _ _ _ (by omega)) (by decide)
      have HCO := Lib.hid (collect_own 68 #[.pointer (some ⟨W2.heap.size, 0, none⟩), .pointer (some ⟨W2.heap.size + 1 + 1, 0, none⟩), .pointer (some ⟨W2.heap.size + 1, 0, none⟩)] (fun _ => True) (bsB W2.heap.size (W2.heap.size + 1 + 1) (W2.heap.size + 1) (some ad) (some ad') L M) mvEnc (fun _ => rfl) (wbD L M D) w3 (enters_of Try.func68 (by kernel_rfl) rfl) hlen (fun b hb => by
        rcases hb with rfl | hb | hb
        · omega
        · rcases stS_cases hI3 hb with rfl | h <;> omega
        · rcases stS_cases hJ3 hb with rfl | h <;> omega) HSQ)
      have HB3 := Lib.hid (HB2.out.trans (hb3.mono HB2.out.size))
      clear g1 g2 g3 hal3 bx by3 bc hb3 hI3 hJ3 hw3 HSQ hlen x0 x1 y0 y1 k0 k1 k2 k3 X2 Y2 C2 HI2 HJ2 HB2 hs3
      go_wp2_with fail
      refine HCO.out.mono ?_
      rintro e w4 ⟨A4, c4, rfl, hO, hb4⟩
      have HO := Lib.hid hO
      have HB4 := Lib.hid (HB3.out.trans (hb4.mono HB3.out.size))
      have hs3 := HB3.out.size
      clear hO hb4 HCO
      go_wp2
      go_ret2
      exact ⟨A4, c4, rfl, OwnG.mono HO.out hs3, HB4.out⟩
  · have hz' : (code2 p L q M != 0) = true := by simpa using hz
    rw [wbL_no hz]
    clear hz
    go_enter Try.func13, Try.ntmps13
    go_wp2_with fail
    refine (codeOfStates_two (w.heap.size + 1 + 1) A n c p L B m d q M _ Z0.out HL.out hn HI0.out HM.out hm HJ0.out).mono ?_
    rintro e w1 ⟨rfl, hb⟩
    have HB1 := Lib.hid (HB0.out.trans (hb.mono HB0.out.size))
    clear hb X0 Y0 Z0 HI0 HJ0 HB0
    go_wp2
    go_ret2
    exact retMvs_zero rfl HB1.out

end Go.Proofs.Ytbcgomimfgggnaa

namespace Go.Proofs.Ytbcgomimfgggnaa
open Go.RowKit Go.Shelf
set_option linter.unusedVariables false
set_option maxRecDepth 100000

/-- A list of states and a code are the answer, each state with all of its list's capacity. -/
def RetStC (w : World) (QL : List (Int × List Int)) (E : Int) (e : Ending) (w' : World) : Prop :=
  ∃ A n c rs, e = .returned (.tuple #[.slice A n c, .int .i64 E]) ∧ OwnSt w.heap.size w' A n c rs ∧ QLof rs = QL ∧ (∀ s ∈ rs, s.c = s.d) ∧ Below w.heap.size w w'
theorem RetStC.st {w w' : World} {QL : List (Int × List Int)} {E : Int} {e : Ending} (h : RetStC w QL E e w') : RetSt w QL E e w' := by
  obtain ⟨A, n, c, rs, h1, h2, h3, _, h5⟩ := h
  exact ⟨A, n, c, rs, h1, h2, h3, h5⟩
theorem retStC_zero {w w' : World} {e : Ending} {E : Int} (he : e = .returned (.tuple #[.slice none 0 0, .int .i64 E])) (hb : Below w.heap.size w w') : RetStC w [] E e w' :=
  ⟨none, 0, 0, [], he, OwnSt.nilS _ _, rfl, fun s hs => by simp at hs, hb⟩
theorem cd_snoc {rs : List Sw} {r : Sw} (h : ∀ s ∈ rs, s.c = s.d) (hr : r.c = r.d) : ∀ s ∈ rs ++ [r], s.c = s.d := by
  intro s hs
  rcases List.mem_append.1 hs with hs | hs
  · exact h s hs
  · rw [List.mem_singleton] at hs; rw [hs]; exact hr
theorem OwnSt.one {B g : Nat} {w : World} {r : Sw} (hb : Box w g 30 #[.int .i64 r.q, .slice r.A r.n r.c]) (hB : B ≤ g) (hO : Own B w r.A r.n r.d r.L) : OwnSt B w (some ⟨g, 0, none⟩) 1 1 [r] := by
  refine ⟨⟨by simp [stCells, Sw.vs], .inr ⟨g, 1, #[.int .i64 r.q, .slice r.A r.n r.c], rfl, hB, hb, Nat.le_refl _, by unfold maxLen; omega, by simp, by simp [stCells, Sw.vs]⟩⟩, fun s hs => ?_, List.pairwise_singleton _ _⟩
  rw [List.mem_singleton] at hs
  rw [hs]
  exact hO

end Go.Proofs.Ytbcgomimfgggnaa

namespace Go.Proofs.Ytbcgomimfgggnaa
open Go.RowKit Go.Shelf
set_option linter.unusedVariables false
set_option maxRecDepth 100000

set_option maxRecDepth 100000 in
set_option maxHeartbeats 4000000 in
theorem implStatesOfRun_retC (A : Option Addr) (n c : Nat) (p : Int) (L : List Int) (AM : Option Addr) (m cM : Nat) (M : List Mv) (w : World) (hL : L.length = n) (hn : n ≤ 1048576) (hI : Ints w A L) (hM : M.length = m) (hm : m ≤ 1048576) (hMv : Mvs w AM M) :
    Calls Try.prog 45 #[.agg #[.int .i64 p, .slice A n c], .slice AM m cM] w (RetStC w (rsV p L M) (rsC p L M)) := by
  have HL := Lib.hid hL
  have HM := Lib.hid hM
  have hb0 : Below w.heap.size w (w.alloc (.cells #[.int .i64 p, .slice A n c] 30)) := (Below.refl _ _).alloc (Nat.le_refl _) _
  have HB0 := Lib.hid hb0
  have HI0 := Lib.hid (hI.below hb0)
  have HV0 := Lib.hid (hMv.below hb0)
  have X0 := Lib.hid (Box.new w 30 #[.int .i64 p, .slice A n c])
  clear hL hM hb0 hI hMv
  by_cases hs : stateB p L = true
  · obtain ⟨i0, hi, hz0, hz1, hz2⟩ := info_parts Try.infoSt
    have HSt := Lib.hid hs
    by_cases hmx : m ≤ 6561
    · go_enter Try.func45, Try.ntmps45
      go_wp2_with fail
      refine (implIsState_calls A n c p L _ HL.out hn HI0.out).mono ?_
      rintro e w1 ⟨rfl, hb⟩
      have HB1 := Lib.hid (HB0.out.trans (hb.mono HB0.out.size))
      have HI1 := Lib.hid (HI0.out.below hb)
      have HV1 := Lib.hid (HV0.out.below hb)
      have X1 := Lib.hid (X0.out.below hb X0.out.lt)
      rw [show stateB p L = true from HSt.out]
      obtain ⟨x0, x1, _, _⟩ := X1.out.two
      have hw1 := HB1.out.size
      clear hb X0 HB0 HI0 HV0 hs
      go_wp2_with fail
      refine (copyOfState_calls A n c p L _ HL.out hn HI1.out).mono ?_
      rintro e w2 ⟨A2, c2, rfl, hc2, hc2', hO2, hb2⟩
      have HO2 := Lib.hid hO2
      have HB2 := Lib.hid hb2
      have hw2 := hb2.size
      have BL : Hid (Box ((w2.alloc (.cells #[.int .i64 p, .slice A2 n c2] 30)).alloc (.cells #[.int .i64 p, .slice A2 n c2] 30)) w2.heap.size 30 #[.int .i64 p, .slice A2 n c2]) := (Box.new w2 _ _).alloc _
      have OS3 : Hid (OwnSt w1.heap.size ((w2.alloc (.cells #[.int .i64 p, .slice A2 n c2] 30)).alloc (.cells #[.int .i64 p, .slice A2 n c2] 30)) (some ⟨w2.heap.size + 1, 0, none⟩) 1 1 [⟨p, A2, n, c2, c2, L⟩]) := by
        have := Box.new (w2.alloc (.cells #[.int .i64 p, .slice A2 n c2] 30)) 30 #[.int .i64 p, .slice A2 n c2]
        rw [World.size_alloc] at this
        exact OwnSt.one (r := ⟨p, A2, n, c2, c2, L⟩) this (by omega) (OwnG.alloc (OwnG.alloc HO2.out _) _)
      have HB3 := Lib.hid ((HB2.out.alloc hw2 (.cells #[.int .i64 p, .slice A2 n c2] 30)).alloc (by simp; omega) (.cells #[.int .i64 p, .slice A2 n c2] 30))
      clear hO2 hb2 x0 x1 X1
      go_wp2
      generalize (w2.alloc (.cells #[.int .i64 p, .slice A2 n c2] 30)).alloc (.cells #[.int .i64 p, .slice A2 n c2] 30) = w3 at *
      generalize w2.heap.size = lb at *
      go_loopw [7, 22] (fun v i wr => ∃ k : Nat, k ≤ m ∧ i = .int .i64 k ∧ Hid (okA p L M k = true) ∧ (∃ AA cc rs r, v = .slice AA ((k + 1 : Nat) : Int).toNat cc ∧ OwnSt w1.heap.size wr AA (k + 1) cc rs ∧ QLof rs = runL p L M k ∧ rs[k]? = some r ∧ Box wr lb 30 #[.int .i64 p, .slice r.A r.n r.c] ∧ (n ≤ r.c ∧ r.c ≤ 9223372036854775807) ∧ (∀ g, AA = some ⟨g, 0, none⟩ → lb < g) ∧ ∀ s ∈ rs, s.c = s.d) ∧ Below w1.heap.size w1 wr) (fun _ i _ => m - (intOf i).toNat)
      case atStart => exact ⟨0, Nat.zero_le _, rfl, rfl, ⟨_, _, _, ⟨p, A2, n, c2, c2, L⟩, rfl, OS3.out, rfl, rfl, BL.out, ⟨hc2, by dsimp only; omega⟩, fun g e => by injection e with e; injection e with e; omega, fun s hs => by rw [List.mem_singleton] at hs; rw [hs]⟩, HB3.out⟩
      case round =>
        obtain ⟨k, hk, rfl, hok, ⟨AA, cc, rs, r, rfl, hSt, hQL, hr, hbx, hrc, hAl, hcd⟩, hbl⟩ := hrel
        have HCD := Lib.hid hcd
        clear hcd
        rw [Int.toNat_natCast]
        have HS := Lib.hid hSt
        have HQ := Lib.hid hQL
        have HBl := Lib.hid hbl
        have HAl := Lib.hid hAl
        have hsz := hbl.size
        have hold := Lib.hid hSt.rows_lt
        by_cases hlt : k < m
        · obtain ⟨gM, rfl, hgM, m0, m1, m2⟩ := (HV1.out.below hbl) k (by rw [HM.out]; exact hlt)
          have hq := QL_at hr
          rw [hQL, runL_at p L M (Nat.le_refl k)] at hq
          injection hq with hq
          injection hq with hq1 hq2
          have hOr := hSt.2.1 r (List.mem_of_getElem? hr)
          have hlen := hOr.len
          have hIr := hOr.ints
          obtain ⟨rq, rA, rn, rc, rd, rL⟩ := r
          dsimp only at hq1 hq2 hlen hIr hbx hrc
          subst hq1
          have hsl := stA_len L M k
          rw [HL.out, hq2, hlen] at hsl
          subst hsl
          have HLr := Lib.hid hlen
          have HIr := Lib.hid hIr
          have HSr : Hid (stateB p rL = true) := by unfold Hid; rw [← hq2]; exact stA_state HSt.out k hok.out
          have HQ2 := Lib.hid hq2
          generalize hmv : M[k]?.getD (0, 0, 0) = mv at m0 m1 m2
          obtain ⟨md, mf, mt⟩ := mv
          have HMV : Hid (mvAt M k = (md, mf, mt)) := hmv
          dsimp only at m0 m1 m2
          have BX := Lib.hid hbx
          obtain ⟨b0, b1, _, _⟩ := hbx.two
          have hlb := hbx.lt
          clear hSt hQL hbl hr hq2 hlen hIr hmv hOr hAl hbx
          go_wp2_with fail
          refine (isLegalMove_calls rA rn rc p rL md mf mt _ HLr.out hrc.1 hrc.2 (HIr.out.below ((Below.refl wr.heap.size wr).alloc (Nat.le_refl _) _)) HSr.out).mono ?_
          rintro e w4 ⟨rfl, hb4⟩
          have HW4 := Lib.hid (((Below.refl wr.heap.size wr).alloc (Nat.le_refl _) (.cells #[.int .i64 md, .int .i64 mf, .int .i64 mt] 69)).trans (hb4.mono (by simp)))
          have BM4 := Lib.hid ((Box.new wr 69 #[.int .i64 md, .int .i64 mf, .int .i64 mt]).below hb4 (by simp))
          have BX4 := Lib.hid (BX.out.below HW4.out BX.out.lt)
          have hz4 := HW4.out.size
          have HS4 := Lib.hid (HS.out.below HW4.out)
          have HB4 := Lib.hid (HBl.out.trans (HW4.out.mono hsz))
          have HI4 := Lib.hid (HIr.out.below HW4.out)
          obtain ⟨n0, n1, n2⟩ := BM4.out.three
          clear b0 b1 BX
          obtain ⟨b0, b1, _, _⟩ := BX4.out.two
          have hlb4 := BX4.out.lt
          have hlm4 := BM4.out.lt
          clear hb4 m0 m1 m2
          by_cases hl : legalB p rL md mf mt = true
          · have HLG := Lib.hid hl
            have hld := legal_d hl
            rw [HLr.out] at hld
            obtain ⟨j, rfl⟩ := Int.eq_ofNat_of_zero_le hld.1
            have hjn : j < rn := by omega
            go_wp2_with fail
            refine (afterMove_calls rA rn rc p rL j mf mt _ HLr.out hn hjn HI4.out).mono ?_
            rintro e w5 ⟨A5, c5, rfl, hO5, hb5⟩
            have HW5 := Lib.hid hb5
            have HO5 := Lib.hid hO5
            have HS5 := Lib.hid (HS4.out.below hb5)
            have hz5 := hb5.size
            have BX5 := Lib.hid (BX4.out.below hb5 BX4.out.lt)
            have HB5 := Lib.hid (HB4.out.trans (hb5.mono HB4.out.size))
            clear hb5 hO5 n0 n1 n2 b0 b1 BM4
            obtain ⟨b0, b1, f0, f1⟩ := BX5.out.two
            have hlb5 := BX5.out.lt
            have hlw1 : w1.heap.size ≤ lb := by omega
            have HS6 : Hid (OwnSt w1.heap.size ((w5.setCell ⟨lb, 0, none⟩ (.int .i64 p)).setCell ⟨lb, 1, none⟩ (.slice A5 rn c5)) AA (k + 1) cc rs) := by
              have h1 : OwnSt w1.heap.size (w5.setCell ⟨lb, 0, none⟩ (.int .i64 p)) AA (k + 1) cc rs := ⟨HS5.out.1.setBox (fun g hA => by have := HAl.out g hA; simp; omega) _, fun s hs => OwnG.setBoxed (HS5.out.2.1 s hs) BX5.out (by decide) 0 _, HS5.out.2.2⟩
              have h2 := BX5.out.set 0 (.int .i64 p)
              exact ⟨h1.1.setBox (fun g hA => by have := HAl.out g hA; simp; omega) _, fun s hs => OwnG.setBoxed (h1.2.1 s hs) h2 (by decide) 1 _, h1.2.2⟩
            have HO6 : Hid (Own w4.heap.size ((w5.setCell ⟨lb, 0, none⟩ (.int .i64 p)).setCell ⟨lb, 1, none⟩ (.slice A5 rn c5)) A5 rn c5 (rL.set j mt)) := by
              have h1 := OwnG.setBoxed HO5.out BX5.out (by decide) 0 (.int .i64 p)
              exact OwnG.setBoxed h1 (BX5.out.set 0 (.int .i64 p)) (by decide) 1 _
            have BX6 : Hid (Box ((w5.setCell ⟨lb, 0, none⟩ (.int .i64 p)).setCell ⟨lb, 1, none⟩ (.slice A5 rn c5)) lb 30 #[.int .i64 p, .slice A5 rn c5]) := (BX5.out.set 0 (.int .i64 p)).set 1 (.slice A5 rn c5)
            have HB6 := Lib.hid ((HB5.out.setCell (p := ⟨lb, 0, none⟩) hlw1 (.int .i64 p)).setCell (p := ⟨lb, 1, none⟩) hlw1 (.slice A5 rn c5))
            have hsz6 : ((w5.setCell ⟨lb, 0, none⟩ (.int .i64 p)).setCell ⟨lb, 1, none⟩ (.slice A5 rn c5)).heap.size = w5.heap.size := by simp
            generalize hW6 : (w5.setCell ⟨lb, 0, none⟩ (.int .i64 p)).setCell ⟨lb, 1, none⟩ (.slice A5 rn c5) = w6 at HS6 HO6 BX6 HB6 hsz6
            have hg6 : w1.heap.size ≤ w6.heap.size := HB6.out.size
            obtain ⟨s0, s1, _, _⟩ := BX6.out.two
            have hlb6 := BX6.out.lt
            clear hsz6
            go_wp2_with (at_builtin; refine wpList_append_lies _ rfl _ _ 73 rfl w1.heap.size 30 i0 (.agg #[.int .i64 0, .slice none 0 0]) 2 32 Try.underlying73 hi hz0 hz1 hz2 rfl (by decide) _ _ _ rfl (HS6.out.1.alloc _) ⟨w6.heap.size, 0, none⟩ 1 1 [.int .i64 p, .slice A5 rn c5] rfl rfl (World.news_of_block (cs := #[.int .i64 p, .slice A5 rn c5]) (t := 30) (fr := (0, 0)) (heap_alloc_new w6 _)) (by simp [Value.oneCell']) (by omega) (by unfold maxLen; omega) (by omega) (by simp; omega) (w6.heap.size + 1) (by simp) ?_; intro gg c6 w7 hown' hgrow hat hlt7; have HOW := Lib.hid hown'; have HGR := Lib.hid hgrow; have HAT := Lib.hid hat; clear hown' hgrow hat)
            go_roundw
            case rel =>
              have hok2 : okA p L M (k + 1) = true := by
                show (okA p L M k && legalB p (stA L M k) (mvAt M k).1 (mvAt M k).2.1 (mvAt M k).2.2) = true
                rw [hok.out, HMV.out, HQ2.out]
                exact HLG.out
              have hcap := OwnG.cap HO6.out
              have hsn := OwnSt.snoc (r := ⟨p, A5, rn, c5, c5, rL.set j mt⟩) HS6.out (HO6.out.mono HB4.out.size) (b := w4.heap.size) (fun g (hA : A5 = some ⟨g, 0, none⟩) => by have h1 := HO6.out; rw [hA] at h1; exact (ownG_lt h1).1) (fun s hs g hA => Nat.lt_of_lt_of_le (hold.out s hs g hA) hz4) HOW.out HGR.out
              have hb7 := OwnG.grown_below HS6.out.1 HGR.out (Nat.le_refl _) hg6
              have hlk := HS.out.len
              refine ⟨k + 1, by omega, by go_num, hok2, ⟨some ⟨gg, 0, none⟩, c6, rs ++ [⟨p, A5, rn, c5, c5, rL.set j mt⟩], ⟨p, A5, rn, c5, c5, rL.set j mt⟩, by rw [Int.toNat_natCast], hsn, ?_, by rw [List.getElem?_append_right (by omega), hlk, Nat.sub_self]; rfl, ?_, ⟨hcap.1, by have := hcap.2; unfold maxLen at this; dsimp only; omega⟩, ?_, cd_snoc HCD.out rfl⟩, HB6.out.trans hb7⟩
              · rw [runL_succ, ← HQ.out]
                show _ = _ ++ [(p, (stA L M k).set (mvAt M k).1.toNat (mvAt M k).2.2)]
                rw [HMV.out, HQ2.out]
                unfold QLof
                rw [List.map_append]
                rfl
              · refine (BX6.out.alloc (.cells #[.int .i64 p, .slice A5 rn c5] 30)).grown HGR.out (fun e => ?_)
                rcases HS6.out.1.form with ⟨rfl, h2, _⟩ | ⟨g, rfl, _, _⟩
                · omega
                · have h1 := HAl.out g rfl
                  have e' : some lb = some g := e
                  injection e' with e'
                  omega
              · intro g hA
                injection hA with hA
                injection hA with hA
                subst hA
                rcases HAT.out with h1 | h1
                · rcases HS6.out.1.form with ⟨rfl, _, _⟩ | ⟨g', rfl, _, _⟩
                  · cases h1
                  · have h1' : some g' = some gg := h1
                    injection h1' with h1'
                    have := HAl.out g' rfl
                    omega
                · omega
            case measure => simp [intOf]; omega
          · have hl' : legalB p rL md mf mt = false := by simpa using hl
            have HLG := Lib.hid hl'
            clear hl
            have hno : Hid (okA p L M M.length = false) := okA_le (k := k + 1) (by
              show (okA p L M k && legalB p (stA L M k) (mvAt M k).1 (mvAt M k).2.1 (mvAt M k).2.2) = false
              rw [hok.out, HMV.out, HQ2.out]
              exact HLG.out) _ (by rw [HM.out]; omega)
            go_wp2
            go_ret2
            obtain ⟨q1, q2⟩ := rs_no5 (p := p) (L := L) (M := M) HSt.out (by rw [HM.out]; exact hmx) hno.out
            rw [q1, q2]
            exact retStC_zero rfl (HB1.out.trans (HB4.out.mono hw1))
        · obtain rfl : k = m := by omega
          go_wp2
          go_ret2
          obtain ⟨q1, q2⟩ := rs_yes (p := p) (L := L) (M := M) HSt.out (by rw [HM.out]; exact hmx) (by rw [HM.out]; exact hok.out)
          rw [q1, q2]
          exact ⟨AA, _, cc, rs, rfl, HS.out.mono hw1, by rw [HQ.out, HM.out], HCD.out, HB1.out.trans (HBl.out.mono hw1)⟩
    · have hmx' : (6561 : Int) < (m : Int) := by omega
      go_enter Try.func45, Try.ntmps45
      go_wp2_with fail
      refine (implIsState_calls A n c p L _ HL.out hn HI0.out).mono ?_
      rintro e w1 ⟨rfl, hb⟩
      have HB1 := Lib.hid (HB0.out.trans (hb.mono HB0.out.size))
      clear hb
      go_wp2
      go_ret2
      obtain ⟨q1, q2⟩ := rs_no2 (p := p) (L := L) (M := M) HSt.out (by rw [HM.out]; exact hmx)
      rw [q1, q2]
      exact retStC_zero rfl HB1.out
  · have hs' : stateB p L = false := by simpa using hs
    have H := Lib.hid (rs_no1 (M := M) hs')
    clear hs
    go_enter Try.func45, Try.ntmps45
    go_wp2_with fail
    refine (implIsState_calls A n c p L _ HL.out hn HI0.out).mono ?_
    rintro e w1 ⟨rfl, hb⟩
    have HB := Lib.hid (HB0.out.trans (hb.mono HB0.out.size))
    clear hb
    go_wp2
    go_ret2
    obtain ⟨q1, q2⟩ := H.out
    rw [q1, q2]
    exact retStC_zero rfl HB.out

theorem implStatesOfRun_ret (A : Option Addr) (n c : Nat) (p : Int) (L : List Int) (AM : Option Addr) (m cM : Nat) (M : List Mv) (w : World) (hL : L.length = n) (hn : n ≤ 1048576) (hI : Ints w A L) (hM : M.length = m) (hm : m ≤ 1048576) (hMv : Mvs w AM M) :
    Calls Try.prog 45 #[.agg #[.int .i64 p, .slice A n c], .slice AM m cM] w (RetSt w (rsV p L M) (rsC p L M)) :=
  (implStatesOfRun_retC A n c p L AM m cM M w hL hn hI hM hm hMv).mono fun _ _ h => h.st

end Go.Proofs.Ytbcgomimfgggnaa

namespace Go.Proofs.Ytbcgomimfgggnaa
open Go.RowKit Go.Shelf
set_option linter.unusedVariables false
set_option maxRecDepth 100000

def rmP (p : Int) (L : List Int) (M : List Mv) : Int := if rsB p L M = true then p else 0
def rmL (p : Int) (L : List Int) (M : List Mv) : List Int := if rsB p L M = true then stA L M M.length else []
theorem rm_yes {p : Int} {L : List Int} {M : List Mv} (h : rsB p L M = true) : rmP p L M = p ∧ rmL p L M = stA L M M.length ∧ rsC p L M = 0 ∧ rsV p L M = runL p L M M.length := by
  refine ⟨by unfold rmP; rw [if_pos h], by unfold rmL; rw [if_pos h], ?_, by unfold rsV; rw [if_pos h]⟩
  unfold rsB at h
  simp only [Bool.and_eq_true, decide_eq_true_iff] at h
  unfold rsC
  rw [if_pos h.1, if_pos h.2.1, if_pos h.2.2]
theorem rm_no {p : Int} {L : List Int} {M : List Mv} (h : rsB p L M = false) : rmP p L M = 0 ∧ rmL p L M = [] ∧ (rsC p L M != 0) = true := by
  refine ⟨by unfold rmP; rw [h]; rfl, by unfold rmL; rw [h]; rfl, ?_⟩
  unfold rsB at h
  unfold rsC
  by_cases h1 : stateB p L = true
  · rw [if_pos h1]
    by_cases h2 : M.length ≤ 6561
    · rw [if_pos h2]
      by_cases h3 : okA p L M M.length = true
      · simp [h1, h2, h3] at h
      · rw [if_neg h3]; rfl
    · rw [if_neg h2]; rfl
  · rw [if_neg h1]; rfl
theorem rmL_len (p : Int) (L : List Int) (M : List Mv) (hL : L.length ≤ 1048576) : (rmL p L M).length ≤ 1048576 := by
  unfold rmL
  split
  · rw [stA_len]; exact hL
  · simp
theorem results_row_tmp2 {P : Program} {fn : Func} {p q : Tmp} {ty : TypeId} (h : fn.results = #[.cell p ty, .tmp q]) (tmps : Array Value) (w : World) (g : Nat) (t : TypeId) (cs : Array Value) (fr : Nat × Nat) (d : TypeDesc)
    (hp : tmps.getD p undef = .pointer (some ⟨g, 0, none⟩)) (hg : w.heap[g]? = some (.cells cs t fr))
    (hu : P.underlying ty = some d) (hd : (match d with | .struct _ | .array _ _ => true | _ => false) = true) (hi : (P.info? ty).map (·.size) = some cs.size) :
    (results fn tmps).run P w = .ok (.tuple #[.agg cs, tmps.getD q undef]) w := by
  have hp' : tmps[p]?.getD undef = .pointer (some ⟨g, 0, none⟩) := by simpa using hp
  simp [results, h, hp', asAddr, run_loadVar_row w g t ty cs fr d hg hu hd hi]

set_option maxRecDepth 100000 in
set_option maxHeartbeats 2000000 in
theorem implRunMoves_ret (A : Option Addr) (n c : Nat) (p : Int) (L : List Int) (AM : Option Addr) (m cM : Nat) (M : List Mv) (w : World) (hL : L.length = n) (hn : n ≤ 1048576) (hI : Ints w A L) (hM : M.length = m) (hm : m ≤ 1048576) (hMv : Mvs w AM M) :
    Calls Try.prog 14 #[.agg #[.int .i64 p, .slice A n c], .slice AM m cM] w (RetState w (rmP p L M) (rmL p L M).length (rmL p L M) (rsC p L M)) := by
  have HB0 := Lib.hid (((Below.refl w.heap.size w).alloc (Nat.le_refl _) (.cells #[.int .i64 p, .slice A n c] 30)).alloc (by simp) (.cells #[.int .i64 0, .slice none 0 0] 30))
  have HI0 := Lib.hid (hI.below HB0.out)
  have HV0 := Lib.hid (hMv.below HB0.out)
  have R0 : Hid (Box ((w.alloc (.cells #[.int .i64 p, .slice A n c] 30)).alloc (.cells #[.int .i64 0, .slice none 0 0] 30)) (w.heap.size + 1) 30 #[.int .i64 0, .slice none 0 0]) := by
    have := Box.new (w.alloc (.cells #[.int .i64 p, .slice A n c] 30)) 30 #[.int .i64 0, .slice none 0 0]
    rw [World.size_alloc] at this
    exact this
  have HL := Lib.hid hL
  have HM := Lib.hid hM
  skip
  clear hI hMv hL hM 
  go_enter Try.func14, Try.ntmps14
  go_wp2_with fail
  refine (implStatesOfRun_retC A n c p L AM m cM M _ HL.out hn HI0.out HM.out hm HV0.out).mono ?_
  rintro e w1 ⟨A1, n1, c1, rs, rfl, hO, hQ, hcd, hb⟩
  have HO := Lib.hid hO
  have HCD := Lib.hid hcd
  have HB1 := Lib.hid (HB0.out.trans (hb.mono HB0.out.size))
  have R1 := Lib.hid (R0.out.below hb R0.out.lt)
  have hs0 := HB0.out.size
  have hw1 := HB1.out.size
  clear hb hcd R0
  by_cases hB : rsB p L M = true
  · have HRM := Lib.hid (rm_yes hB)
    obtain ⟨q1, q2, q3, q4⟩ := rm_yes hB
    rw [q1, q2, q3]
    rw [q4] at hQ
    have hlen := QL_len rs
    rw [hQ] at hlen
    have hl1 : (runL p L M M.length).length = M.length + 1 := by unfold runL; simp
    have hn1 : n1 = m + 1 := by have := hO.len; have := HM.out; omega
    subst hn1
    obtain ⟨r, hr⟩ := getT_of_lt (rs := rs) (k := m) (by rw [hO.len]; omega)
    have hq := QL_at hr
    rw [hQ, ← HM.out, runL_at p L M (Nat.le_refl _)] at hq
    injection hq with hq
    injection hq with hq1 hq2
    obtain ⟨g, rfl, hg, l0, l1, hlr, hIr⟩ := hO.ints m r hr
    have hcr := HCD.out r (List.mem_of_getElem? hr)
    have hOr := hO.2.1 r (List.mem_of_getElem? hr)
    obtain ⟨rq, rA, rn, rc, rd, rL⟩ := r
    dsimp only at hq1 hq2 hcr hOr l0 l1 hlr
    subst hq1 hcr
    have HQ2 := Lib.hid hq2
    have HLr := Lib.hid hlr
    have HOr := Lib.hid hOr
    have hlt1 : m < m + 1 := Nat.lt_succ_self m
    have hne : g ≠ w.heap.size + 1 := by
      rcases HO.out.1.form with ⟨h1, _⟩ | ⟨g', h1, h2, _⟩
      · cases h1
      · injection h1 with h1; injection h1 with h1; have : w.heap.size + 2 ≤ g' := by simpa using h2
        omega
    obtain ⟨r0, r1, f0, f1⟩ := R1.out.two
    clear hQ hr hq2 hlr hOr hIr hO hlen hl1 q1 q2 q3 q4 hB
    go_wp2
    have hbx : Hid (Box ((w1.setCell ⟨w.heap.size + 1, 0, none⟩ (.int .i64 p)).setCell ⟨w.heap.size + 1, 1, none⟩ (.slice rA rn rc)) (w.heap.size + 1) 30 #[.int .i64 p, .slice rA rn rc]) := (R1.out.set 0 (.int .i64 p)).set 1 (.slice rA rn rc)
    have hb9 := Lib.hid ((HB1.out.setCell (p := ⟨w.heap.size + 1, 0, none⟩) (by simp) (.int .i64 p)).setCell (p := ⟨w.heap.size + 1, 1, none⟩) (by simp) (.slice rA rn rc))
    have ho9 : Hid (Own w.heap.size ((w1.setCell ⟨w.heap.size + 1, 0, none⟩ (.int .i64 p)).setCell ⟨w.heap.size + 1, 1, none⟩ (.slice rA rn rc)) rA rn rc rL) := by
      have h1 := OwnG.setBoxed HOr.out R1.out (by decide) 0 (.int .i64 p)
      have h2 := OwnG.setBoxed h1 (R1.out.set 0 (.int .i64 p)) (by decide) 1 (.slice rA rn rc)
      exact OwnG.mono h2 hs0
    generalize (w1.setCell ⟨w.heap.size + 1, 0, none⟩ (.int .i64 p)).setCell ⟨w.heap.size + 1, 1, none⟩ (.slice rA rn rc) = w9 at *
    refine bodyPost_ret (results_row_tmp2 rfl _ _ (w.heap.size + 1) 30 #[.int .i64 p, .slice rA rn rc] (0, 0) _ rfl hbx.out Try.underlying30 rfl (by kernel_rfl)) rfl ?_
    obtain ⟨q1, q2, q3, _⟩ := HRM.out
    rw [q1, q2, q3, HQ2.out, HLr.out]
    exact ⟨rA, rc, rfl, ho9.out, hb9.out⟩
  · have hB' : rsB p L M = false := by simpa using hB
    have HRM := Lib.hid (rm_no hB')
    obtain ⟨q1, q2, q3⟩ := rm_no hB'
    rw [q1, q2]
    have hE := q3
    generalize hrc : rsC p L M = E at hE ⊢
    have HE := Lib.hid hrc
    obtain ⟨r0, r1, f0, f1⟩ := R1.out.two
    clear hQ hO hB hB' q1 q2 q3 hrc
    go_wp2
    have hbx : Hid (Box ((w1.setCell ⟨w.heap.size + 1, 0, none⟩ (.int .i64 0)).setCell ⟨w.heap.size + 1, 1, none⟩ (.slice none 0 0)) (w.heap.size + 1) 30 #[.int .i64 0, .slice none 0 0]) := (R1.out.set 0 (.int .i64 0)).set 1 (.slice none 0 0)
    have hb9 := Lib.hid ((HB1.out.setCell (p := ⟨w.heap.size + 1, 0, none⟩) (by simp) (.int .i64 0)).setCell (p := ⟨w.heap.size + 1, 1, none⟩) (by simp) (.slice none 0 0))
    generalize (w1.setCell ⟨w.heap.size + 1, 0, none⟩ (.int .i64 0)).setCell ⟨w.heap.size + 1, 1, none⟩ (.slice none 0 0) = w9 at *
    refine bodyPost_ret (results_row_tmp2 rfl _ _ (w.heap.size + 1) 30 #[.int .i64 0, .slice none 0 0] (0, 0) _ rfl hbx.out Try.underlying30 rfl (by kernel_rfl)) rfl ?_
    obtain ⟨q1, q2, _⟩ := HRM.out
    rw [q1, q2, HE.out]
    exact ⟨none, 0, rfl, Own.nilS _ _, hb9.out⟩

end Go.Proofs.Ytbcgomimfgggnaa
