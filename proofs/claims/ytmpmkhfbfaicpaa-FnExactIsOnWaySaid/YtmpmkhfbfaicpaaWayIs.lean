/- The iterator of the way, by the program: what it owes to rounds that may leave. -/
import Derived.Test.YtmpmkhfbfaicpaaWayIt
namespace Go.Proofs.Ytmpmkhfbfaicpaa
open Go.RowKit Go.Shelf
set_option linter.unusedVariables false

/-- What the iterator owes: it keeps a private block R between its yields; a yield that answers false is the last. -/
def SeqPrivS {α : Type} (n : Nat) (P : Program) (g : Nat) (lb : Array Value) (encs : α → Array Value) (et : Nat) (bs : Nat → Prop) (xs : List α) (w : World) : Prop :=
  ∀ (l : Nat) (J : Nat → List α → World → Prop) (Z : World → Prop) (W : World), Below w.heap.size w W → (∀ R pre A B, J R pre A → A.grownBy B (some R) → J R pre B) →
    (∀ R pre x W1, W.heap.size ≤ R → (∃ cs, W1.heap[R]? = some (.cells cs et (0, 0))) → (pre ++ [x]) <+: xs → J R pre W1 → YieldAt Fence.wide (n - 1) P l (encs x) W1 fun e W' => (e = .returned (.bool true) ∧ J R (pre ++ [x]) W' ∧ KeepB (fun b => bs b ∨ b = R) W1 W' ∧ W1.heap.size ≤ W'.heap.size) ∨ (e = .returned (.bool false) ∧ Z W')) →
    (∀ R, W.heap.size ≤ R → J R [] W) → CallsIn Fence.wide n P g (#[.func (.yield l) #[] #[]] ++ lb) W fun e W' => (∃ v, e = .returned v) ∧ ((∃ R, J R xs W') ∨ Z W')

set_option maxRecDepth 100000 in
set_option maxHeartbeats 4000000 in
theorem movesToPeg_privS (N bp ba : Nat) (hN : 1 ≤ N) (ad : Addr) (n c : Nat) (L : List Int) (a : Int) (hL : L.length = n) (hn : n ≤ 8) (hp : pegsOk L) (ha : 0 ≤ a ∧ a ≤ 2) (w : World) (hbp : Box w bp 22 #[.slice (some ad) n c]) (hba : Box w ba 2 #[.int .i64 a]) (hI : Ints w (some ad) L) :
    SeqPrivS N Try.prog 42 #[.pointer (some ⟨bp, 0, none⟩), .pointer (some ⟨ba, 0, none⟩)] mvEnc 2 (fun b => b = bp ∨ b = ba) (wayL L a) w := by
  intro l J Z W hW hJ hY h0
  have hp1 := Lib.hid (hbp.below hW hbp.lt)
  have ha1 := Lib.hid (hba.below hW hba.lt)
  have HI := Lib.hid (hI.below hW)
  have HL := Lib.hid hL
  have HP := Lib.hid hp
  clear hL hp hI
  refine callsIn_of_wp Try.func42 rfl trivial ?_ rfl
  simp only [Try.ntmps42, List.size_toArray, List.length_cons, List.length_nil, Nat.reduceAdd, Nat.reduceSub, Array.replicate_succ, Array.replicate_zero, List.push_toArray, List.append_toArray, List.nil_append, List.cons_append]
  refine wpIn_scope_once 0 (fun j a' w' => ∃ (Lc : List Int) (pre : List Mv) (R : Nat) (An : Option Addr) (cn : Nat) (u5 u6 u7 u8 u9 u10 u11 u12 u13 u14 u15 u16 u17 u18 u19 u20 u21 u22 u23 u24 u25 u26 u27 u28 u29 u30 u31 u32 u33 u34 u35 u36 u37 u38 : Value), a' = { tmps := #[.func (.yield l) #[] #[], .pointer (some ⟨bp, 0, none⟩), .pointer (some ⟨ba, 0, none⟩), undef, .slice An n cn, u5, u6, u7, u8, u9, u10, u11, u12, u13, u14, u15, u16, u17, u18, u19, u20, u21, u22, u23, u24, u25, u26, u27, u28, u29, u30, u31, u32, u33, u34, u35, u36, u37, u38], defers := [] } ∧ Hid (j = (distP Lc a).toNat) ∧ Hid (wayL L a = pre ++ wayL Lc a) ∧ Hid (Lc.length = n) ∧ Hid (pegsOk Lc) ∧ J R pre w' ∧ W.heap.size ≤ R ∧ (∀ g, An = some ⟨g, 0, none⟩ → g = R) ∧ OwnG 2 1 W.heap.size w' An n cn (Lc.map (Value.int .i64)) ∧ Box w' bp 22 #[.slice (some ad) n c] ∧ Box w' ba 2 #[.int .i64 a] ∧ W.heap.size ≤ w'.heap.size) rfl ?_ ?_
  · obtain ⟨c0, _⟩ := hp1.out.one
    gi_wp2_with fail
    refine ⟨trivial, ?_⟩
    refine (callsIn_wide.2 (clone_calls ad n c L W HL.out (by omega) HI.out)).mono ?_
    rintro e w1 ⟨An, cn, rfl, hO, hb⟩
    gi_wp2
    have hO' : OwnG 2 1 W.heap.size w1 An n cn (L.map (Value.int .i64)) := hO
    rcases hO'.form with ⟨rfl, h1, h2⟩ | ⟨g, rfl, hB, hg⟩
    · exact ⟨_, L, [], W.heap.size, none, cn, _, _, _, _, _, _, _, _, _, _, _, _, _, _, _, _, _, _, _, _, _, _, _, _, _, _, _, _, _, _, _, _, _, _, rfl, Lib.hid rfl, Lib.hid rfl, HL, HP, hJ _ _ _ _ (h0 _ (Nat.le_refl _)) (grownR hb), Nat.le_refl _, (fun g h => by cases h), hO', hp1.out.below hb hp1.out.lt, ha1.out.below hb ha1.out.lt, hb.size⟩
    · exact ⟨_, L, [], g, some ⟨g, 0, none⟩, cn, _, _, _, _, _, _, _, _, _, _, _, _, _, _, _, _, _, _, _, _, _, _, _, _, _, _, _, _, _, _, _, _, _, _, rfl, Lib.hid rfl, Lib.hid rfl, HL, HP, hJ _ _ _ _ (h0 _ hB) (grownR hb), hB, (fun g' h => by injection h with h; injection h with h; exact h.symm), hO', hp1.out.below hb hp1.out.lt, ha1.out.below hb ha1.out.lt, hb.size⟩
  · rintro j0 a' wr ⟨Lc, pre, R, An, cn, u5, u6, u7, u8, u9, u10, u11, u12, u13, u14, u15, u16, u17, u18, u19, u20, u21, u22, u23, u24, u25, u26, u27, u28, u29, u30, u31, u32, u33, u34, u35, u36, u37, u38, rfl, HJ0, HW, HLc, HPc, hJr, hR, hAR, hN1, hbp1, hba1, hsz⟩
    have HN := Lib.hid hN1
    obtain ⟨c1, _⟩ := hba1.one
    gi_wp2_with fail
    refine ⟨trivial, ?_⟩
    refine (callsIn_wide.2 (goalsOf_calls An n cn Lc a wr HLc.out hn (intsW HN.out) HPc.out ha)).mono ?_
    rintro e w2 ⟨g, rfl, hg, hrow, hb2⟩
    have HG := Lib.hid (own_of_row (B := wr.heap.size) hrow hg (by rw [goalsL_len]; exact HLc.out) hn)
    have HN2 := Lib.hid (OwnG.below HN.out hb2)
    have hbp2 := Lib.hid (hbp1.below hb2 hbp1.lt)
    have hba2 := Lib.hid (hba1.below hb2 hba1.lt)
    have hJ2 := hJ _ _ _ _ hJr (grownR (r := some R) hb2)
    have hs2 := hb2.size
    clear hrow hb2 HN hN1 c1 hJr hbp1 hba1
    gi_wp2
    gi_loopw [5, 6, 13] (fun _ _ i wr' => ∃ j : Nat, j ≤ n ∧ i = .int .i64 j ∧ Hid (∀ i, i < j → Lc[i]?.getD 0 = (goalsL Lc a)[i]?.getD 0) ∧ wr' = w2) (fun _ _ i _ => n - (intOf i).toNat)
    case atStart => exact ⟨0, Nat.zero_le _, rfl, Lib.hid (fun i hi => absurd hi (by omega)), rfl⟩
    case round =>
      obtain ⟨j, hj, rfl, HS, rfl⟩ := hrel
      by_cases hlt : j < n
      · obtain ⟨gn, rfl, hBn, hgnl, hcn⟩ := ownAtW HN2.out HLc.out hlt
        obtain rfl := hAR gn rfl
        obtain ⟨_, hag, hBg, hgl, hcg⟩ := ownAtW HG.out (by rw [goalsL_len]; exact HLc.out) hlt
        injection hag with hag
        injection hag with hag
        subst hag
        have hk0 : (0 : Int) ≤ (j : Int) := by omega
        have hk1 : (j : Int) < (n : Int) := by omega
        by_cases hne : Lc[j]?.getD 0 = (goalsL Lc a)[j]?.getD 0
        · have ht : (Lc[j]?.getD 0 == (goalsL Lc a)[j]?.getD 0) = true := by simpa using hne
          have HS2 := Lib.hid (show ∀ i, i < j + 1 → Lc[i]?.getD 0 = (goalsL Lc a)[i]?.getD 0 from fun i hi => by
            by_cases h : i = j
            · rw [h]; exact hne
            · exact HS.out i (by omega))
          clear hne
          gi_wp2
          go_roundw
          case rel => exact ⟨j + 1, by omega, by go_num, HS2, trivial⟩
          case measure => simp [intOf]; omega
        · have ht : (Lc[j]?.getD 0 == (goalsL Lc a)[j]?.getD 0) = false := by simpa using hne
          have HF := Lib.hid (fdW_is Lc a (by rw [HLc.out]; exact hlt) HS.out hne)
          clear hne
          have hmore := wayL_more HPc.out ha (by rw [HF.out, HLc.out]; exact hlt)
          have HMV := Lib.hid (show mvW Lc a = ((j : Int), Lc[j]?.getD 0, (goalsL Lc a)[j]?.getD 0) by unfold mvW; rw [HF.out])
          have HST := Lib.hid (show stepW Lc a = Lc.set j ((goalsL Lc a)[j]?.getD 0) by unfold stepW; rw [HF.out])
          have HW' := Lib.hid (show wayL L a = (pre ++ [((j : Int), Lc[j]?.getD 0, (goalsL Lc a)[j]?.getD 0)]) ++ wayL (stepW Lc a) a by rw [HW.out, hmore, HMV.out]; simp)
          have HLs := Lib.hid (show (stepW Lc a).length = n by rw [stepW_len]; exact HLc.out)
          have HPs := Lib.hid (stepW_pegs Lc a HPc.out ha)
          have HLT := Lib.hid (show (distP (stepW Lc a) a).toNat < j0 by
            have h1 := (fdW_lt_iff Lc a).1 (by rw [HF.out, HLc.out]; exact hlt)
            have h2 := (stepW_dist Lc a HPc.out ha h1).1
            have h3 := distP_nonneg (stepW Lc a) a
            rw [HJ0.out]
            omega)
          obtain ⟨fn, tmps, assign, body, hy, hR3⟩ := hY gn pre ((j : Int), Lc[j]?.getD 0, (goalsL Lc a)[j]?.getD 0) wr hR (ownCells HN2.out) ⟨_, HW'.out.symm⟩ hJ2
          dsimp only [mvEnc, mvV] at hy
          clear hmore
          gi_wp2
          refine hR3.mono ?_
          rintro e W3 (⟨rfl, hJ3, hk3, hs3⟩ | ⟨rfl, hZ⟩)
          rotate_left
          · gi_wp2
            simp only [Exit.jump]
            refine bodyPost_ret (results_none rfl _ _ _) rfl ?_
            exact ⟨⟨_, rfl⟩, .inr hZ⟩
          have HN3 := Lib.hid (ownKeptW HN2.out (hk3 _ (.inr rfl)) hs3)
          have hbp3 := Lib.hid ((hk3 _ (.inl (.inl rfl))).trans hbp2.out)
          have hba3 := Lib.hid ((hk3 _ (.inl (.inr rfl))).trans hba2.out)
          clear hcn
          obtain ⟨_, h0', _, hgnl3, hcn⟩ := ownAtW HN3.out HLc.out hlt
          injection h0' with h0'
          injection h0' with h0'
          subst h0'
          have hfz := OwnG.frozen HN3.out rfl j
          gi_wp2
          refine wpIn_goto ?_
          change _ ∧ _
          refine ⟨rfl, _, ⟨stepW Lc a, _, gn, some ⟨gn, 0, none⟩, cn, _, _, _, _, _, _, _, _, _, _, _, _, _, _, _, _, _, _, _, _, _, _, _, _, _, _, _, _, _, _, _, _, _, _, rfl, Lib.hid rfl, HW', HLs, HPs, hJ _ _ _ _ hJ3 (grownSet _ _ _ _), hR, (fun g h => by injection h with h; injection h with h; exact h.symm), ?_, ?_, ?_, ?_⟩, HLT.out⟩
          · have st := (World.ownsRow.stored HN3.out j (.int .i64 ((goalsL Lc a)[j]?.getD 0))).1
            rw [HST.out, List.map_set]
            exact st
          · exact (heap_setCell_other _ _ _ _ (by have := hbp.lt; have := hW.size; show bp ≠ gn; omega)).trans hbp3.out
          · exact (heap_setCell_other _ _ _ _ (by have := hba.lt; have := hW.size; show ba ≠ gn; omega)).trans hba3.out
          · simp [World.setCell]; omega
      · obtain rfl : j = n := by omega
        have HF := Lib.hid (fdW_all Lc a (fun i hi => HS.out i (by rw [HLc.out] at hi; exact hi)))
        have HE := Lib.hid (show pre = wayL L a by rw [HW.out, wayL_end HF.out, List.append_nil])
        gi_wp2
        simp only [Exit.jump]
        go_end0
        exact ⟨⟨_, rfl⟩, .inl ⟨R, by rw [← HE.out]; exact hJ2⟩⟩

end Go.Proofs.Ytmpmkhfbfaicpaa
