/- 'CountWrongPairs' of the program answers at every argument as the specification's model, and leaves its argument as it was. The package variable errNoHeap is as its own initialiser lays it (a tied card). Conditions: none. -/
import Derived.Test.YtdifolaobgclgaaDoorOpen
import Derived.Test.YtdifolaobgclgaaDoorHpSpec
import Derived.Test.YtdifolaobgclgaaDoorHpWrong
import Derived.Deep.RegionHeld3
import Derived.Test.YtdifolaobgclgaaDoorHpDoor
import Derived.Test.YtdifolaobgclgaaDoorOpenHeap
import Derived.Test.YtdifolaobgclgaaDoorCards
import Derived.Test.YtdifolaobgclgaaDoorTie
import Derived.SevenTiedAt
import Derived.LaidMore
import Derived.Stop.Joined
namespace Go.Proofs.YtdifolaobgclgaaDoor.fnExactCountWrongPairs
open Go.ChangeShapes Go.WideShapes Go.ChangeAt Go.RowKit Go.Joins
open Go.ChangeMaps (open_string)
set_option linter.unusedVariables false

theorem szI_no {n : Nat} (h : ¬ n ≤ 1048576) : szI n 1048576 = -1 := by unfold szI; omega
theorem szI_yes {n : Nat} (h : n ≤ 1048576) : 0 ≤ szI n 1048576 := by unfold szI; omega

set_option maxRecDepth 100000 in
set_option maxHeartbeats 8000000 in
theorem core (A : Option Addr) (n c : Nat) (rs : List Rw) (LL : List (List Int)) (ea : Addr) (w : World) (hLL : LLof rs = LL) (hA : ArgSS w A n rs) (hn : n + totN rs ≤ 1048576) (hS : Sent w ea) :
    Calls Tryd.prog 6 #[.agg #[.slice A n c]] w fun e w' => e = .returned (.bool true) ∧ Below w.heap.size w w' := by
  have hI := hA.2.2.2
  have HL := Lib.hid hA.1
  have hn1 : n ≤ 1048576 := by omega
  have Htot := Lib.hid (And.intro (cnt_tot hI) (show totN rs ≤ 1048576 by omega))
  have Hb : Hid (∀ r ∈ rs, r.n ≤ 1048576) := rows_small (by omega)
  have HLL := Lib.hid hLL
  have h0 := szI_yes hn
  have X0 := Lib.hid (Box.new w 24 #[.slice A n c])
  have hb0 : Below w.heap.size w (w.alloc (.cells #[.slice A n c] 24)) := (Below.refl w.heap.size w).alloc (Nat.le_refl _) (.cells #[.slice A n c] 24)
  have S0 := Lib.hid (hS.below hb0)
  have HB0 := Lib.hid hb0
  clear hLL hb0 hS
  go_enter Tryd.func6, Tryd.ntmps6
  obtain ⟨s0, _⟩ := X0.out.one
  go_wp2_with fail
  refine (szHeap_calls A n c rs 1048576 _ (hA.below HB0.out) (by omega) (by omega)).mono ?_
  rintro e w1 ⟨rfl, hb⟩
  clear s0
  have X1 := Lib.hid (X0.out.below hb X0.out.lt)
  have S1 := Lib.hid (S0.out.below hb)
  have HB1 := Lib.hid (HB0.out.trans ((hb).mono HB0.out.size))
  clear X0 S0 HB0
  clear hb
  have hIx := Lib.hid (hI.below HB1.out)
  obtain ⟨s0, _⟩ := X1.out.one
  go_wp2_with fail
  refine (toHeap_calls A n c rs _ HL.out hn1 Hb.out hIx.out).mono ?_
  rintro e w2 ⟨g2, r2, rfl, hg, hO, hLL, hb⟩
  clear s0 hIx
  have X2 := Lib.hid (X1.out.below hb X1.out.lt)
  have S2 := Lib.hid (S1.out.below hb)
  have HB2 := Lib.hid (HB1.out.trans ((hb).mono HB1.out.size))
  clear X1 S1 HB1
  have J0 := Lib.hid hO
  have T0 := Lib.hid hLL
  clear hb hO hLL hg
  go_wp2_with fail
  refine (specCountWrongPairs_h (some ⟨g2, 0, none⟩) n n r2 _ J0.out.len hn1 (tot_eq T0.out J0.out Htot.out) J0.out.ints).mono ?_
  rintro e w3 ⟨rfl, hb⟩
  have X3 := Lib.hid (X2.out.below hb X2.out.lt)
  have S3 := Lib.hid (S2.out.below hb)
  have HB3 := Lib.hid (HB2.out.trans ((hb).mono HB2.out.size))
  clear X2 S2 J0 HB2
  rw [T0.out, HLL.out]
  clear hb T0
  have hIx := Lib.hid (hI.below HB3.out)
  obtain ⟨s0, _⟩ := X3.out.one
  go_wp2_with fail
  refine (toHeap_calls A n c rs _ HL.out hn1 Hb.out hIx.out).mono ?_
  rintro e w4 ⟨g5, r5, rfl, hg, hO, hLL, hb⟩
  clear s0 hIx
  have X4 := Lib.hid (X3.out.below hb X3.out.lt)
  have S4 := Lib.hid (S3.out.below hb)
  have HB4 := Lib.hid (HB3.out.trans ((hb).mono HB3.out.size))
  clear X3 S3 HB3
  have V0 := Lib.hid hO
  have T5 := Lib.hid hLL
  clear hb hO hLL hg
  have U0 := Lib.hid (Box.new w4 27 #[.slice (some ⟨g5, 0, none⟩) n n])
  have hba : Below w4.heap.size w4 (w4.alloc (.cells #[.slice (some ⟨g5, 0, none⟩) n n] 27)) := (Below.refl _ w4).alloc (Nat.le_refl _) (.cells #[.slice (some ⟨g5, 0, none⟩) n n] 27)
  have X5 := Lib.hid (X4.out.below hba X4.out.lt)
  have S5 := Lib.hid (S4.out.below hba)
  have V1 := Lib.hid (V0.out.below hba)
  have HB5 := Lib.hid (HB4.out.trans ((hba).mono HB4.out.size))
  clear X4 S4 V0 HB4
  clear hba
  obtain ⟨u0, _⟩ := U0.out.one
  go_wp2_with fail
  generalize hW5 : w4.alloc (.cells #[.slice (some ⟨g5, 0, none⟩) n n] 27) = W5 at *
  clear hW5
  generalize w4.heap.size = g8 at *
  refine (implCountWrongPairs_h (some ⟨g5, 0, none⟩) n n r5 ea _ V1.out.len hn1 (tot_eq T5.out V1.out Htot.out) V1.out.ints S5.out).mono ?_
  rintro e w6 ⟨rfl, hb⟩
  have X6 := Lib.hid (X5.out.below hb X5.out.lt)
  have S6 := Lib.hid (S5.out.below hb)
  have V2 := Lib.hid (V1.out.below hb)
  have U1 := Lib.hid (U0.out.below hb U0.out.lt)
  have HB6 := Lib.hid (HB5.out.trans ((hb).mono HB5.out.size))
  clear X5 S5 V1 U0 HB5
  rw [T5.out, HLL.out]
  clear hb u0
  generalize wrongV LL = v0
  generalize doorE LL = v1
  have hI7 := Lib.hid (hI.below HB6.out)
  have U7 := U1
  have X7 := X6
  have V7 := V2
  obtain ⟨u0, _⟩ := U7.out.one
  obtain ⟨s0, _⟩ := X7.out.one
  have zu := U7.out.lt
  have zx := X7.out.lt
  go_wp2_with fail
  go_region_held3 (fun w' => w'.cell? ⟨g8, 0, none⟩ = some (.slice (some ⟨g5, 0, none⟩) n n) ∧ w'.cell? ⟨w.heap.size, 0, none⟩ = some (.slice A n c))
    (first | exact ⟨U7.out.one.1, X7.out.one.1⟩ | exact ⟨U8.out.one.1, X8.out.one.1⟩ | exact ⟨U9.out.one.1, X9.out.one.1⟩ | go_keep)
    (first
    | (go_at_call 9; refine (toHeap_calls A n c rs _ HL.out hn1 Hb.out ?_).mono ?_; (exact hI7.out); rintro e w8 ⟨gr, r8, rfl, hgr, hr8, hl8, hb8⟩; have U8 := Lib.hid (Box.below U7.out (undrew hb8) zu); have X8 := Lib.hid (Box.below X7.out (undrew hb8) zx))
    | (go_at_call 11; refine (eqHeap_calls (some ⟨g5, 0, none⟩) (some ⟨gr, 0, none⟩) n n n n r5 r8 _ ?_ ?_ hn1 hn1 ?_ ?_ ?_ ?_).mono ?_; (exact V7.out.len); (exact hr8.len); (exact rows_small (tot_eq T5.out V7.out Htot.out)); (exact rows_small (tot_eq hl8 hr8 Htot.out)); (exact V7.out.ints.below (undrew hb8)); (exact hr8.ints); rintro e w9 ⟨rfl, hb9⟩; have U9 := Lib.hid (Box.below U8.out hb9 (Box.lt U8.out)); have X9 := Lib.hid (Box.below X8.out hb9 (Box.lt X8.out))))
  have HE : Hid (decide (LLof r5 = LLof rs) = true) := by unfold Hid; rw [T5.out]; simp
  have HE2 : Hid (decide (LLof r5 = LLof r8) = true) := by unfold Hid; rw [T5.out, hl8]; simp
  clear U8 X8 U9 X9 u0 s0 zu zx hr8 hgr U7 X7 V7 hl8
  first | rw [HE.out] | rw [HE2.out]
  have X7 := Lib.hid (X6.out.below (undrew hb8) X6.out.lt)
  have S7 := Lib.hid (S6.out.below (undrew hb8))
  have V3 := Lib.hid (V2.out.below (undrew hb8))
  have U2 := Lib.hid (U1.out.below (undrew hb8) U1.out.lt)
  have HB7 := Lib.hid (HB6.out.trans (((undrew hb8)).mono HB6.out.size))
  clear X6 S6 V2 U1 HB6
  have X8 := Lib.hid (X7.out.below hb9 X7.out.lt)
  have S8 := Lib.hid (S7.out.below hb9)
  have V4 := Lib.hid (V3.out.below hb9)
  have U3 := Lib.hid (U2.out.below hb9 U2.out.lt)
  have HB8 := Lib.hid (HB7.out.trans ((hb9).mono HB7.out.size))
  clear X7 S7 V3 U2 HB7
  clear hb8 hb9 hI7
  go_wp2
  go_ret
  exact ⟨rfl, HB8.out⟩

theorem walk (A : Option Addr) (n c : Nat) (rs : List Rw) (ea : Addr) (w : World) (hA : ArgSS w A n rs)  (hS : Sent w ea) :
    Calls Tryd.prog 6 #[.agg #[.slice A n c]] w fun e w' => e = .returned (.bool true) ∧ Below w.heap.size w w' := by
  by_cases hn : n + totN rs ≤ 1048576
  · exact core A n c rs _ ea w rfl hA hn hS
  · have h0 := szI_no hn
    have hb0 : Below w.heap.size w (w.alloc (.cells #[.slice A n c] 24)) := (Below.refl w.heap.size w).alloc (Nat.le_refl _) (.cells #[.slice A n c] 24)
    have HB0 := Lib.hid hb0
    clear hb0
    go_enter Tryd.func6, Tryd.ntmps6
    go_wp2_with fail
    refine (szHeap_calls A n c rs 1048576 _ (hA.below HB0.out) (by omega) (by omega)).mono ?_
    rintro e w1 ⟨rfl, hb1⟩
    have HB1 := Lib.hid (HB0.out.trans (hb1.mono HB0.out.size))
    clear hb1
    go_wp2
    go_ret
    exact ⟨rfl, HB1.out⟩

theorem door_met (os : Os) (args : Array Value) : laidMetH Tryd.prog Rows.fnExactCountWrongPairsRow.laid ((World.doorLaid Tryd.prog 28 os).forCall (fun _ _ => 0) ⟨#[], args, []⟩).memory :=
  laidMetH_of_parts3 (fuel := 8) (laidMet_of_run' 8 (by kernel_rfl) (by kernel_rfl)) (by kernel_rfl) (by kernel_rfl)
theorem sent_of_laid {W : World} (h : laidMetH Tryd.prog Rows.fnExactCountWrongPairsRow.laid W) : ∃ a : Addr, W.var? Tryd.prog "loop.example/g01321/impl.errNoHeap" = some #[.iface 69 (.pointer (some a))] ∧ Sent W a := by
  rw [MakeChecks.laidMetH_plain _ _ _ (by kernel_rfl)] at h
  exact sent_of h

set_option maxRecDepth 100000 in
theorem lifted (os : Os) (started : os.Started) (H : Type) (enc : TypeId × Value → H) :
    ReturnsInHanded {} Tryd.checked os 6 .any (fun w args => (Rows.fnExactCountWrongPairsSpec.pre enc Tryd.prog Tryd.f6 [] false w args ∧ laidMetH Tryd.prog Rows.fnExactCountWrongPairsRow.laid w) ∧ sizedMet enc Tryd.prog Tryd.f6 (OpenSpec.ofChange Rows.fnExactCountWrongPairsSpec) false w args)
      (Rows.fnExactCountWrongPairsSpec.post enc Tryd.prog Tryd.f6 false true false false) := by
  refine returnsInHanded_of_change_and (C := Tryd.checked) (X := fun w _ => laidMetH Tryd.prog Rows.fnExactCountWrongPairsRow.laid w) (fun _ _ _ hh h => h.of_heap hh) own started (by kernel_rfl) Tryd.func6
    (ChangeSpec.witness_shaped (enc := enc) (C := Tryd.checked) (os := os) (X := fun w _ => laidMetH Tryd.prog Rows.fnExactCountWrongPairsRow.laid w) false (World.doorLaid Tryd.prog 28 os) #[.agg #[.slice none 0 0]] 8 rfl (World.shaped_of_RefB (by kernel_rfl) (by kernel_rfl)) (by kernel_rfl) (by kernel_rfl) (by kernel_rfl) (door_met os _)) ?_
  intro W base args ds gs before hval0 hW _ _ hL _
  have hval : ∀ (j : Nat) t v, Tryd.f6.params[j]? = some t → args[j]? = some v → Value.okWide Tryd.prog W .any base t v := hval0
  have hW' := hW
  obtain ⟨p, q, hA0, hV0, rfl, hfz, hnd⟩ := hW
  have hA : DataW.TrodAll enc Tryd.prog W 0 (fun _ => true) true Tryd.f6.params.toList args.toList ds p := hA0
  have hV : DataW.TrodVars enc Tryd.prog W (fun _ => true) ["loop.example/g01321/impl.errNoHeap"] gs q := hV0
  rw [Tryd.params6] at hA hval
  obtain ⟨v0, vs0, d0, ds0, p0, q0, hargs, rfl, rfl, h0, r0⟩ := trodAll_cons hA
  obtain ⟨rfl, rfl, rfl⟩ := trodAll_nil r0
  obtain rfl : args = #[v0] := by cases args; simp_all
  obtain ⟨ea, hv, hS⟩ := sent_of_laid hL
  obtain ⟨rfl, rfl⟩ := hV.unique (err_reads enc hv _)
  have lt0 : ∀ x ∈ p0, x.block < W.heap.size := by obtain ⟨m, hm⟩ := h0; exact DataW.trod_lt m _ _ _ hm
  have k0 := h0
  obtain ⟨A0, n0, c0, rs0, rfl, hAI0⟩ := open_heap (hval 0 24 v0 rfl rfl) h0
  clear hA0 hV0 hval0
  refine (walk A0 n0 c0 rs0 ea W hAI0 hS).mono fun e W' ⟨he, bel⟩ => ?_
  subst he
  exact ⟨_, rfl, _, _, _, [], _, [.cell 0 0], hW', trodAll_mk1 (shut_bool Tryd.underlying4 _), (trodAll_cons_mk (Below.trod laidOut (by kernel_rfl) (of_decide_eq_true (by kernel_rfl)) k0 bel lt0) trodAll_mk0), err_reads enc (var_stays gErr hv bel (Nat.le_refl _)) _, bel.frame _, fun h => by cases h⟩

theorem over : Rows.fnExactCountWrongPairsRow.holds Tryd.pinned (OpenSpec.ofChange Rows.fnExactCountWrongPairsSpec) :=
  OpenClaim.holds_of_wide 6 Tryd.f6 rfl rfl rfl rfl rfl rfl rfl ⟨rfl, rfl, rfl, rfl, rfl⟩ rfl rfl rfl rfl rfl (by kernel_rfl) Tryd.func6 (by kernel_rfl)
    (of_decide_eq_true (by kernel_rfl)) (by unfold Func.isWrapper; first | (rw [if_pos (by decide +kernel)]; kernel_rfl) | (rw [if_neg (by decide +kernel)]; exact ⟨rfl, rfl⟩))
    (fun os started H enc _ => lifted os started H enc)

theorem proved : Rows.FnExactCountWrongPairsCardSaid :=
  Claim7.holds_tied_plain_at .later [] [.sentinel] true _ _
    over (fun _ h => by cases h) (by kernel_rfl) (fun _ h => by cases h) fnExactCountWrongPairs_row_tie rfl ⟨rfl, rfl⟩ (by kernel_rfl) rfl
    (fun f fn hf hfn => by
      obtain rfl : f = 6 := Option.some.inj ((show Tryd.prog.funcNamed "loop.example/g01321/laws.FnExactCountWrongPairs" = some 6 by kernel_rfl).symm.trans hf) |>.symm
      obtain rfl : fn = Tryd.f6 := (Option.some.inj (Tryd.func6.symm.trans hfn)).symm
      exact ⟨by kernel_rfl, fun j t ht => by
        rw [Tryd.params6] at ht
        have hm : t ∈ [24] := by simpa using Array.mem_of_getElem? ht
        have hall : ([24].all fun u => !Tryd.prog.wantsStandIn u) = true := by kernel_rfl
        exact (show Tryd.prog.wantsStandIn t = false by simpa using List.all_eq_true.1 hall t hm)⟩)
    (by kernel_rfl)
#print axioms proved
end Go.Proofs.YtdifolaobgclgaaDoor.fnExactCountWrongPairs
