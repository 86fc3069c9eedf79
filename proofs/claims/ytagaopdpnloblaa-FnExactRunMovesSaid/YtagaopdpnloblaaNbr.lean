/- Contracts: the neighbours of a state. -/
import Derived.Test.YtagaopdpnloblaaStc
import Derived.Test.YtagaopdpnloblaaLegalMoves
import Derived.Test.YtagaopdpnloblaaDone
import Derived.Deep.AppendLies
namespace Go.Proofs.Ytagaopdpnloblaa
open Go.RowKit Go.Shelf
set_option linter.unusedVariables false
attribute [local go_sem] Oper.semAt_some

theorem Try.infoSt : (Try.prog.info? 29).map (fun i => (i.zero, i.size, i.bytes)) = some (some (.agg #[.int .i64 0, .slice none 0 0]), 2, 32) := by kernel_rfl

/-- The states behind moves. -/
def nbF (p : Int) (L : List Int) (M : List Mv) : List (Int × List Int) := M.map (fun m => (p, L.set m.1.toNat m.2.2))
theorem nbF_snoc (p : Int) (L : List Int) (M : List Mv) (m : Mv) : nbF p L (M ++ [m]) = nbF p L M ++ [(p, L.set m.1.toNat m.2.2)] := by simp [nbF]
def nbV (p : Int) (L : List Int) : List (Int × List Int) := if stateB p L = true then nbF p L (movesL p L) else []
theorem nb_yes {p : Int} {L : List Int} (h : stateB p L = true) : nbV p L = nbF p L (movesL p L) ∧ codeS p L = 0 := ⟨by unfold nbV; rw [if_pos h], codeS_yes h⟩
theorem nb_no {p : Int} {L : List Int} (h : stateB p L = false) : nbV p L = [] ∧ codeS p L = 1 := ⟨by unfold nbV; rw [h]; rfl, codeS_no h⟩
theorem sum_le_mul : ∀ (l : List Nat) (b : Nat), (∀ x ∈ l, x ≤ b) → l.sum ≤ l.length * b
  | [], b, _ => by simp
  | x :: t, b, hl => by
    have h1 := hl x List.mem_cons_self
    have h2 := sum_le_mul t b (fun y hy => hl y (List.mem_cons_of_mem _ hy))
    rw [List.sum_cons, List.length_cons, Nat.add_mul]
    omega
theorem nbV_small (p : Int) (L : List Int) : ((nbV p L).map (fun x => x.2.length + 1)).sum ≤ 1048576 := by
  by_cases h : stateB p L = true
  · obtain ⟨h3, h5, h8, _⟩ := state_facts h rfl
    have h1 := sum_le_mul ((nbV p L).map (fun x => x.2.length + 1)) 9 (fun x hx => by
      obtain ⟨l, hl, rfl⟩ := List.mem_map.1 hx
      rw [(nb_yes h).1] at hl
      unfold nbF at hl
      obtain ⟨m, _, rfl⟩ := List.mem_map.1 hl
      simp only [List.length_set]
      omega)
    have h2 := movesL_len h
    rw [(nb_yes h).1] at h1 ⊢
    simp only [List.length_map, nbF] at h1 ⊢
    omega
  · rw [(nb_no (by simpa using h)).1]; simp
theorem mv_disc {p : Int} {L : List Int} {x : Mv} (h : x ∈ movesL p L) : ∃ j : Nat, x.1 = (j : Int) ∧ j < L.length := by
  have h1 := movesTo_legal (p := p) (L := L) L.length x h
  unfold legalB at h1
  simp only [Bool.and_eq_true, decide_eq_true_iff] at h1
  obtain ⟨j, hj⟩ := Int.eq_ofNat_of_zero_le h1.1.1
  exact ⟨j, hj, by have := h1.1.2.1; omega⟩

set_option maxRecDepth 100000 in
set_option maxHeartbeats 4000000 in
theorem specNeighboursOf_ret (A : Option Addr) (n c : Nat) (p : Int) (L : List Int) (w : World) (hL : L.length = n) (hn : n ≤ 1048576) (hI : Ints w A L) :
    Calls Try.prog 7 #[.agg #[.int .i64 p, .slice A n c]] w (RetSt w (nbV p L) (codeS p L)) := by
  have HL := Lib.hid hL
  have hb0 : Below w.heap.size w (w.alloc (.cells #[.int .i64 p, .slice A n c] 29)) := (Below.refl _ _).alloc (Nat.le_refl _) _
  have HB0 := Lib.hid hb0
  have HI0 := Lib.hid (hI.below hb0)
  have X0 := Lib.hid (Box.new w 29 #[.int .i64 p, .slice A n c])
  by_cases hs : stateB p L = true
  · obtain ⟨i0, hi, hz0, hz1, hz2⟩ := info_parts Try.infoSt
    have H := Lib.hid (nb_yes hs)
    have HSt := Lib.hid hs
    have HM := Lib.hid (movesL_len hs)
    clear hL hb0 hs
    go_enter Try.func7, Try.ntmps7
    go_wp2_with fail
    refine (l01Is_calls A n c p L _ HL.out hn HI0.out).mono ?_
    rintro e w1 ⟨rfl, hb⟩
    have HB1 := Lib.hid (HB0.out.trans (hb.mono HB0.out.size))
    have HI1 := Lib.hid (HI0.out.below hb)
    have X1 := Lib.hid (X0.out.below hb X0.out.lt)
    rw [show stateB p L = true from HSt.out]
    obtain ⟨x0, x1, _, _⟩ := X1.out.two
    clear hb X0 HB0 HI0
    go_wp2_with fail
    refine (l01Moves_calls A n c p L _ HL.out HI1.out HSt.out).mono ?_
    rintro e w2 ⟨AM, cM, rfl, hOM, hb⟩
    have HB2 := Lib.hid (HB1.out.trans (hb.mono HB1.out.size))
    have HI2 := Lib.hid (HI1.out.below hb)
    have X2 := Lib.hid (X1.out.below hb X1.out.lt)
    have HMv := Lib.hid (OwnM.mvs hOM)
    obtain ⟨M, HMe⟩ : ∃ M : List Mv, Hid (M = movesL p L) := ⟨_, rfl⟩
    rw [← HMe.out] at H HMv HM ⊢
    have HMl := Lib.hid HM.out
    have HMd : Hid (∀ x ∈ M, ∃ j : Nat, x.1 = (j : Int) ∧ j < L.length) := by unfold Hid; rw [HMe.out]; exact fun x hx => mv_disc hx
    have hMl : M.length ≤ 40 := HM.out
    clear hb X1 HB1 HI1 hOM x0 x1 HM
    obtain ⟨x0, x1, _, _⟩ := X2.out.two
    go_wp2
    go_loopw [5, 6] (fun v i wr => ∃ k : Nat, k ≤ M.length ∧ i = .int .i64 k ∧ (∃ AA cc rs, v = .slice AA k cc ∧ OwnSt w2.heap.size wr AA k cc rs ∧ QLof rs = nbF p L (M.take k)) ∧ Below w2.heap.size w2 wr) (fun _ i _ => M.length - (intOf i).toNat)
    case atStart =>
      have e2 := Box.new w2 29 #[]
      have hal : Below w2.heap.size w2 (w2.alloc (.cells #[] 29)) := (Below.refl _ _).alloc (Nat.le_refl _) _
      exact ⟨0, Nat.zero_le _, rfl, ⟨_, _, [], rfl, ⟨OwnG.emptyAt e2 (Nat.le_refl _), fun r hr => by simp at hr, List.Pairwise.nil⟩, rfl⟩, hal⟩
    case round =>
      obtain ⟨k, hk, rfl, ⟨AA, cc, rs, rfl, hSt, hQL⟩, hbl⟩ := hrel
      have HS := Lib.hid hSt
      have HQ := Lib.hid hQL
      have HBl := Lib.hid hbl
      have hsz := hbl.size
      have HIr := Lib.hid (HI2.out.below hbl)
      clear hSt hQL hbl
      by_cases hlt : k < M.length
      · obtain ⟨gM, rfl, hgM, m0, m1, m2⟩ := HMv.out k hlt
        have hMk : M[k]? = some (M[k]?.getD (0, 0, 0)) := by rw [List.getElem?_eq_getElem hlt]; rfl
        obtain ⟨j, hj, hjn⟩ := HMd.out _ (List.mem_of_getElem? hMk)
        have htk : Hid (M.take (k + 1) = M.take k ++ [M[k]?.getD (0, 0, 0)]) := by
          unfold Hid
          rw [List.take_succ_eq_append_getElem hlt, List.getElem?_eq_getElem hlt]
          rfl
        generalize M[k]?.getD (0, 0, 0) = m at *
        obtain ⟨md, mf, mt⟩ := m
        simp only at hj m0 m1 m2
        subst hj
        have hjn2 : j < n := by rw [← HL.out]; exact hjn
        have hold := Lib.hid HS.out.rows_lt
        have hxlt := X2.out.lt
        have SK : Hid (∀ w' : World, Below w2.heap.size w2 w' → (w'.cell? ⟨gM, k * 3, none⟩ = some (.int .i64 j) ∧ w'.cell? ⟨gM, k * 3 + 1, none⟩ = some (.int .i64 mf) ∧ w'.cell? ⟨gM, k * 3 + 2, none⟩ = some (.int .i64 mt)) ∧ w'.cell? ⟨w.heap.size, 0, none⟩ = some (.int .i64 p) ∧ w'.cell? ⟨w.heap.size, 1, none⟩ = some (.slice A n c)) :=
          fun w' h => ⟨⟨(h.cell (p := ⟨gM, k * 3, none⟩) hgM).trans m0, (h.cell (p := ⟨gM, k * 3 + 1, none⟩) hgM).trans m1, (h.cell (p := ⟨gM, k * 3 + 2, none⟩) hgM).trans m2⟩, (h.cell (p := ⟨w.heap.size, 0, none⟩) hxlt).trans x0, (h.cell (p := ⟨w.heap.size, 1, none⟩) hxlt).trans x1⟩
        have hsw := HB2.out.size
        have HBl0 : Hid (Below w2.heap.size w2 wr) := HBl.out
        clear hMk hjn m0 m1 m2
        go_wp2_with fail
        go_region_held3 (fun w' => (w'.cell? ⟨gM, k * 3, none⟩ = some (.int .i64 j) ∧ w'.cell? ⟨gM, k * 3 + 1, none⟩ = some (.int .i64 mf) ∧ w'.cell? ⟨gM, k * 3 + 2, none⟩ = some (.int .i64 mt)) ∧ w'.cell? ⟨w.heap.size, 0, none⟩ = some (.int .i64 p) ∧ w'.cell? ⟨w.heap.size, 1, none⟩ = some (.slice A n c))
          (first | exact SK.out wr.drew HBl.out.drew | exact SK.out _ HBl.out | exact SK.out _ HB3.out | exact SK.out _ (HB3.out.alloc (by have := HB3.out.size; omega) _) | exact SK.out _ HB4.out)
          (first
          | (go_at_call 27; (with_reducible refine (l01Done_calls A n c p L j mf mt _ HL.out hn hjn2 ?_).mono ?_); (exact (show Ints wr.drew A L from HIr.out)); rintro e w3 ⟨A3, c3, rfl, hO3, hb3⟩; have HO3 : Hid (Own wr.heap.size w3 A3 n c3 (L.set j mt)) := hO3; have HW3 := Lib.hid (undrew hb3); have HB3 := Lib.hid (HBl0.out.trans ((undrew hb3).mono hsz)); have hz3 := HW3.out.size; clear hO3 hb3)
          | (refine step_append_lies _ (by rfl) _ _ _ (by rfl) w2.heap.size 29 i0 (.agg #[.int .i64 0, .slice none 0 0]) 2 32 Try.underlying26 hi hz0 hz1 hz2 rfl (by decide) (.slice AA k cc) k (stCells rs) (by rfl) ((HS.out.below HW3.out).1.alloc _) ⟨w3.heap.size, 0, none⟩ 1 1 [.int .i64 p, .slice A3 n c3] (by rfl) (by rfl) (World.news_of_block (cs := #[.int .i64 p, .slice A3 n c3]) (t := 29) (fr := (0, 0)) (heap_alloc_new w3 _)) (by simp [Value.oneCell']) (by omega) (by unfold maxLen; omega) (by omega) (by simp; omega) (w3.heap.size + 1) (by simp) ?_; intro gg cap w4 hown1 hgrow hat hlt4; have HB4 := Lib.hid (HB3.out.trans (OwnG.grown_below (HS.out.below HW3.out).1 hgrow (Nat.le_refl _) (Nat.le_trans hsz hz3)))))
        go_wp2
        go_roundw
        case rel =>
          have hbb : ∀ g, A3 = some ⟨g, 0, none⟩ → wr.heap.size ≤ g := fun g hA => by
            have h1 := HO3.out
            rw [hA] at h1
            exact (ownG_lt h1).1
          refine ⟨k + 1, by omega, rfl, ⟨_, _, rs ++ [⟨p, A3, n, c3, c3, L.set j mt⟩], rfl, OwnSt.snoc (r := ⟨p, A3, n, c3, c3, L.set j mt⟩) (HS.out.below HW3.out) (HO3.out.mono hsz) hbb hold.out hown1 hgrow, ?_⟩, HB4.out⟩
          unfold QLof
          rw [List.map_append, htk.out, nbF_snoc, ← HQ.out]
          rfl
        case measure => simp [intOf]; omega
      · obtain rfl : k = M.length := by omega
        go_wp2
        go_ret2
        obtain ⟨q1, q2⟩ := H.out
        rw [q1, q2]
        refine ⟨AA, _, cc, rs, rfl, HS.out.mono HB2.out.size, ?_, HB2.out.trans (HBl.out.mono HB2.out.size)⟩
        rw [HQ.out, List.take_length]
  · have hs' : stateB p L = false := by simpa using hs
    have H := Lib.hid (nb_no hs')
    clear hs hL hb0
    go_enter Try.func7, Try.ntmps7
    go_wp2_with fail
    refine (l01Is_calls A n c p L _ HL.out hn HI0.out).mono ?_
    rintro e w1 ⟨rfl, hb⟩
    have HB := Lib.hid (HB0.out.trans (hb.mono HB0.out.size))
    clear hb
    go_wp2
    go_ret2
    obtain ⟨q1, q2⟩ := H.out
    rw [q1, q2]
    exact retSt_zero rfl HB.out

end Go.Proofs.Ytagaopdpnloblaa
