/- 'IsDesk' of the program answers at every argument as the specification's model, and leaves its argument as it was. The package variable errNoHeap is as its own initialiser lays it (a tied card). Conditions: none. -/
import Derived.Test.YtepjdoonopbijaaDoorOpen
import Derived.Test.YtepjdoonopbijaaDoorDkTo
import Derived.Test.YtepjdoonopbijaaDoorDkIs
import Derived.Deep.RegionHeld3
import Derived.Test.YtepjdoonopbijaaDoorHpDoor
import Derived.Test.YtepjdoonopbijaaDoorOpenHeap
import Derived.Test.YtepjdoonopbijaaDoorCards
import Derived.Test.YtepjdoonopbijaaDoorTie
import Derived.SevenTiedAt
import Derived.LaidMore
import Derived.Stop.Joined
namespace Go.Proofs.YtepjdoonopbijaaDoor.fnExactIsDesk
open Go.ChangeShapes Go.WideShapes Go.ChangeAt Go.RowKit Go.Joins
open Go.ChangeMaps (open_string)
set_option linter.unusedVariables false

theorem szI_no {n : Nat} (h : ¬ n ≤ 1048576) : szI n 1048576 = -1 := by unfold szI; omega
theorem szI_yes {n : Nat} (h : n ≤ 1048576) : 0 ≤ szI n 1048576 := by unfold szI; omega

set_option maxRecDepth 100000 in
set_option maxHeartbeats 8000000 in
theorem core (p : Int) (A : Option Addr) (n c : Nat) (L : List Int) (G : Int) (H : Option Addr) (m d : Nat) (rs : List Rw) (ea : Addr) (w : World) (hL : L.length = n) (hIn : Ints w A L) (hA : ArgSS w H m rs) (hn : n + (m + totN rs) ≤ 1048576) (hS : Sent w ea) :
    Calls Tryd.prog 3 #[.agg #[.int .i64 p, .slice A n c, .int .i64 G, .slice H m d]] w fun e w' => e = .returned (.bool true) ∧ Below w.heap.size w w' := by
  have hI : IntsDk w A L H rs := ⟨hIn, hA.2.2.2⟩
  have HL := Lib.hid hL
  have Hl := Lib.hid hA.1
  have hn1 : n ≤ 1048576 := by omega
  have hm1 : m ≤ 1048576 := by omega
  have Htot := Lib.hid (And.intro (cnt_tot hA.2.2.2) (show totN rs ≤ 1048576 by omega))
  have Hr : Hid (∀ r ∈ rs, r.n ≤ 1048576) := rows_small (by omega)
  have h0 := szI_yes hn
  have X0 := Lib.hid (Box.new w 29 #[.int .i64 p, .slice A n c, .int .i64 G, .slice H m d])
  have hb0 : Below w.heap.size w (w.alloc (.cells #[.int .i64 p, .slice A n c, .int .i64 G, .slice H m d] 29)) := (Below.refl w.heap.size w).alloc (Nat.le_refl _) (.cells #[.int .i64 p, .slice A n c, .int .i64 G, .slice H m d] 29)
  have S0 := Lib.hid (hS.below hb0)
  have HB0 := Lib.hid hb0
  clear hb0 hS hL hIn
  obtain ⟨x0, x1, x2, x3⟩ := X0.out.four
  go_enter Tryd.func3, Tryd.ntmps3
  go_wp2_with fail
  refine (szDesk_calls A H n c m d p G 1048576 rs _ (by omega) (hA.below HB0.out) (by omega) (by omega)).mono ?_
  rintro e w1 ⟨rfl, hb⟩
  have X1 := Lib.hid (X0.out.below hb X0.out.lt)
  have HB1 := Lib.hid (HB0.out.trans (hb.mono HB0.out.size))
  have S1 := Lib.hid (S0.out.below hb)
  clear hb x0 x1 x2 x3 X0 HB0 S0
  have hIw2 := Lib.hid (hI.below HB1.out)
  obtain ⟨x0, x1, x2, x3⟩ := X1.out.four
  go_wp2_with fail
  refine (toDesk_calls A H n c m d p G L rs _ HL.out hn1 Hl.out hm1 Hr.out hIw2.out).mono ?_
  rintro e w2 ⟨g2, h2, r2, rfl, hO, hLL, hb⟩
  clear x0 x1 x2 x3
  have X2 := Lib.hid (X1.out.below hb X1.out.lt)
  have HB2 := Lib.hid (HB1.out.trans (hb.mono HB1.out.size))
  have S2 := Lib.hid (S1.out.below hb)
  have O2 := Lib.hid hO
  have E2 := Lib.hid hLL
  clear hb hO hLL X1 HB1 S1 hIw2
  go_wp2_with fail
  refine (specIsDesk_calls (some ⟨g2, 0, none⟩) (some ⟨h2, 0, none⟩) n n m m p G L r2 _ HL.out hn1 O2.out.2.1.len hm1 (tot_eq E2.out O2.out.2.1 Htot.out) O2.out.1.ints O2.out.2.1.ints).mono ?_
  rintro e w3 ⟨rfl, hb⟩
  rw [E2.out]
  have X3 := Lib.hid (X2.out.below hb X2.out.lt)
  have HB3 := Lib.hid (HB2.out.trans (hb.mono HB2.out.size))
  have S3 := Lib.hid (S2.out.below hb)
  clear hb X2 HB2 S2 O2 E2
  have hIw4 := Lib.hid (hI.below HB3.out)
  obtain ⟨x0, x1, x2, x3⟩ := X3.out.four
  go_wp2_with fail
  refine (toDesk_calls A H n c m d p G L rs _ HL.out hn1 Hl.out hm1 Hr.out hIw4.out).mono ?_
  rintro e w4 ⟨g4, h4, r4, rfl, hO, hLL, hb⟩
  clear x0 x1 x2 x3
  have hba : Below w4.heap.size w4 (w4.alloc (.cells #[.int .i64 p, .slice (some ⟨g4, 0, none⟩) n n, .int .i64 G, .slice (some ⟨h4, 0, none⟩) m m] 35)) := (Below.refl _ w4).alloc (Nat.le_refl _) _
  have hbb := hb.trans (hba.mono hb.size)
  have U4 := Lib.hid (Box.new w4 35 #[.int .i64 p, .slice (some ⟨g4, 0, none⟩) n n, .int .i64 G, .slice (some ⟨h4, 0, none⟩) m m])
  have X4 := Lib.hid (X3.out.below hbb X3.out.lt)
  have HB4 := Lib.hid (HB3.out.trans (hbb.mono HB3.out.size))
  have S4 := Lib.hid (S3.out.below hbb)
  have O4 := Lib.hid (hO.below hba)
  have E4 := Lib.hid hLL
  clear hb hba hbb hO hLL X3 HB3 S3 hIw4
  obtain ⟨u0, u1, u2, u3⟩ := U4.out.four
  go_wp2_with fail
  generalize hW4 : w4.alloc (.cells #[.int .i64 p, .slice (some ⟨g4, 0, none⟩) n n, .int .i64 G, .slice (some ⟨h4, 0, none⟩) m m] 35) = W4 at *
  clear hW4
  generalize w4.heap.size = b4 at *
  refine (implIsDesk_calls (some ⟨g4, 0, none⟩) (some ⟨h4, 0, none⟩) n n m m p G L r4 ea _ HL.out hn1 O4.out.2.1.len hm1 (tot_eq E4.out O4.out.2.1 Htot.out) O4.out.1.ints O4.out.2.1.ints S4.out).mono ?_
  rintro e w5 ⟨rfl, hb⟩
  rw [E4.out]
  have X5 := Lib.hid (X4.out.below hb X4.out.lt)
  have U5 := Lib.hid (U4.out.below hb U4.out.lt)
  have HB5 := Lib.hid (HB4.out.trans (hb.mono HB4.out.size))
  have O5 := Lib.hid (O4.out.below hb)
  clear hb u0 u1 u2 u3 X4 U4 HB4 S4 O4
  generalize deskB p L G (LLof rs) = v0
  have hI5 := Lib.hid (hI.below HB5.out)
  obtain ⟨x0, x1, x2, x3⟩ := X5.out.four
  obtain ⟨u0, u1, u2, u3⟩ := U5.out.four
  have zu := U5.out.lt
  have zx := X5.out.lt
  go_wp2_with fail
  go_region_held3 (fun w' => (w'.cell? ⟨b4, 0, none⟩ = some (.int .i64 p) ∧ w'.cell? ⟨b4, 1, none⟩ = some (.slice (some ⟨g4, 0, none⟩) n n) ∧ w'.cell? ⟨b4, 2, none⟩ = some (.int .i64 G) ∧ w'.cell? ⟨b4, 3, none⟩ = some (.slice (some ⟨h4, 0, none⟩) m m)) ∧ (w'.cell? ⟨w.heap.size, 0, none⟩ = some (.int .i64 p) ∧ w'.cell? ⟨w.heap.size, 1, none⟩ = some (.slice A n c) ∧ w'.cell? ⟨w.heap.size, 2, none⟩ = some (.int .i64 G) ∧ w'.cell? ⟨w.heap.size, 3, none⟩ = some (.slice H m d)))
    (first | exact ⟨U5.out.four, X5.out.four⟩ | exact ⟨U6.out.four, X6.out.four⟩ | exact ⟨U7.out.four, X7.out.four⟩ | go_keep)
    (first
    | (go_at_call 6; refine (toDesk_calls A H n c m d p G L rs _ HL.out hn1 Hl.out hm1 Hr.out ?_).mono ?_; (exact hI5.out); rintro e w6 ⟨g6, h6, r6, rfl, hO6, hl6, hb6⟩; have U6 := Lib.hid (Box.below U5.out (undrew hb6) zu); have X6 := Lib.hid (Box.below X5.out (undrew hb6) zx))
    | (go_at_call 8; refine (eqDesk_same (some ⟨g4, 0, none⟩) (some ⟨g6, 0, none⟩) (some ⟨h4, 0, none⟩) (some ⟨h6, 0, none⟩) n n n m m m p G L r4 r6 _ HL.out hn1 O5.out.2.1.len hO6.2.1.len hm1 (rows_small (tot_eq E4.out O5.out.2.1 Htot.out)) (rows_small (tot_eq hl6 hO6.2.1 Htot.out)) ?_ ?_ ?_).mono ?_; (exact (O5.out.below (undrew hb6)).ints); (exact hO6.ints); (rw [E4.out, hl6]); rintro e w7 ⟨rfl, hb7⟩; have U7 := Lib.hid (Box.below U6.out hb7 (Box.lt U6.out)); have X7 := Lib.hid (Box.below X6.out hb7 (Box.lt X6.out))))
  clear U6 X6 U7 X7 u0 u1 u2 u3 x0 x1 x2 x3 zu zx hO6 hl6 U5 X5
  have HB7 := Lib.hid ((HB5.out.trans ((undrew hb6).mono HB5.out.size)).trans (hb7.mono (Nat.le_trans HB5.out.size hb6.size)))
  clear hb6 hb7 hI5
  go_wp2
  go_ret
  exact ⟨rfl, HB7.out⟩

theorem walk (p : Int) (A : Option Addr) (n c : Nat) (L : List Int) (G : Int) (H : Option Addr) (m d : Nat) (rs : List Rw) (ea : Addr) (w : World) (hI : ArgInts w A n L) (hA : ArgSS w H m rs) (hS : Sent w ea) :
    Calls Tryd.prog 3 #[.agg #[.int .i64 p, .slice A n c, .int .i64 G, .slice H m d]] w fun e w' => e = .returned (.bool true) ∧ Below w.heap.size w w' := by
  by_cases hn : n + (m + totN rs) ≤ 1048576
  · exact core p A n c L G H m d rs ea w hI.1 hI.2.2 hA hn hS
  · have h0 := szI_no hn
    have hb0 : Below w.heap.size w (w.alloc (.cells #[.int .i64 p, .slice A n c, .int .i64 G, .slice H m d] 29)) := (Below.refl w.heap.size w).alloc (Nat.le_refl _) (.cells #[.int .i64 p, .slice A n c, .int .i64 G, .slice H m d] 29)
    have HB0 := Lib.hid hb0
    have X0 := Lib.hid (Box.new w 29 #[.int .i64 p, .slice A n c, .int .i64 G, .slice H m d])
    clear hb0
    obtain ⟨x0, x1, x2, x3⟩ := X0.out.four
    go_enter Tryd.func3, Tryd.ntmps3
    go_wp2_with fail
    refine (szDesk_calls A H n c m d p G 1048576 rs _ hI.2.1 (hA.below HB0.out) (by omega) (by omega)).mono ?_
    rintro e w1 ⟨rfl, hb1⟩
    have HB1 := Lib.hid (HB0.out.trans (hb1.mono HB0.out.size))
    clear hb1 x0 x1 x2 x3
    go_wp2
    go_ret
    exact ⟨rfl, HB1.out⟩

theorem door_met (os : Os) (args : Array Value) : laidMetH Tryd.prog Rows.fnExactIsDeskRow.laid ((World.doorLaid Tryd.prog 28 os).forCall (fun _ _ => 0) ⟨#[], args, []⟩).memory :=
  laidMetH_of_parts3 (fuel := 8) (laidMet_of_run' 8 (by kernel_rfl) (by kernel_rfl)) (by kernel_rfl) (by kernel_rfl)
theorem sent_of_laid {W : World} (h : laidMetH Tryd.prog Rows.fnExactIsDeskRow.laid W) : ∃ a : Addr, W.var? Tryd.prog "loop.example/g01321/impl.errNoHeap" = some #[.iface 76 (.pointer (some a))] ∧ Sent W a := by
  rw [MakeChecks.laidMetH_plain _ _ _ (by kernel_rfl)] at h
  exact sent_of h

set_option maxRecDepth 100000 in
theorem lifted (os : Os) (started : os.Started) (H : Type) (enc : TypeId × Value → H) :
    ReturnsInHanded {} Tryd.checked os 3 .any (fun w args => (Rows.fnExactIsDeskSpec.pre enc Tryd.prog Tryd.f3 [] false w args ∧ laidMetH Tryd.prog Rows.fnExactIsDeskRow.laid w) ∧ sizedMet enc Tryd.prog Tryd.f3 (OpenSpec.ofChange Rows.fnExactIsDeskSpec) false w args)
      (Rows.fnExactIsDeskSpec.post enc Tryd.prog Tryd.f3 false true false false) := by
  refine returnsInHanded_of_change_and (C := Tryd.checked) (X := fun w _ => laidMetH Tryd.prog Rows.fnExactIsDeskRow.laid w) (fun _ _ _ hh h => h.of_heap hh) own started (by kernel_rfl) Tryd.func3
    (ChangeSpec.witness_shaped (enc := enc) (C := Tryd.checked) (os := os) (X := fun w _ => laidMetH Tryd.prog Rows.fnExactIsDeskRow.laid w) false (World.doorLaid Tryd.prog 28 os) #[.agg #[.int .i64 0, .slice none 0 0, .int .i64 0, .slice none 0 0]] 8 rfl (World.shaped_of_RefB (by kernel_rfl) (by kernel_rfl)) (by kernel_rfl) (by kernel_rfl) (by kernel_rfl) (door_met os _)) ?_
  intro W base args ds gs before hval0 hW _ _ hL _
  have hval : ∀ (j : Nat) t v, Tryd.f3.params[j]? = some t → args[j]? = some v → Value.okWide Tryd.prog W .any base t v := hval0
  have hW' := hW
  obtain ⟨p, q, hA0, hV0, rfl, hfz, hnd⟩ := hW
  have hA : DataW.TrodAll enc Tryd.prog W 0 (fun _ => true) true Tryd.f3.params.toList args.toList ds p := hA0
  have hV : DataW.TrodVars enc Tryd.prog W (fun _ => true) ["loop.example/g01321/impl.errNoHeap"] gs q := hV0
  rw [Tryd.params3] at hA hval
  obtain ⟨v0, vs0, d0, ds0, p0, q0, hargs, rfl, rfl, h0, r0⟩ := trodAll_cons hA
  obtain ⟨rfl, rfl, rfl⟩ := trodAll_nil r0
  obtain rfl : args = #[v0] := by cases args; simp_all
  obtain ⟨ea, hv, hS⟩ := sent_of_laid hL
  obtain ⟨rfl, rfl⟩ := hV.unique (err_reads enc hv _)
  have lt0 : ∀ x ∈ p0, x.block < W.heap.size := by obtain ⟨m, hm⟩ := h0; exact DataW.trod_lt m _ _ _ hm
  have k0 := h0
  obtain ⟨a0, A0, n0, c0, L0, G0, B0, m0, e0, rs0, rfl, hAI0, hBI0⟩ := open_desk (hval 0 29 v0 rfl rfl) h0
  clear hA0 hV0 hval0
  refine (walk a0 A0 n0 c0 L0 G0 B0 m0 e0 rs0 ea W hAI0 hBI0 hS).mono fun e W' ⟨he, bel⟩ => ?_
  subst he
  exact ⟨_, rfl, _, _, _, [], _, [.cell 0 0], hW', trodAll_mk1 (shut_bool Tryd.underlying4 _), (trodAll_cons_mk (Below.trod laidOut (by kernel_rfl) (of_decide_eq_true (by kernel_rfl)) k0 bel lt0) trodAll_mk0), err_reads enc (var_stays gErr hv bel (Nat.le_refl _)) _, bel.frame _, fun h => by cases h⟩

theorem over : Rows.fnExactIsDeskRow.holds Tryd.pinned (OpenSpec.ofChange Rows.fnExactIsDeskSpec) :=
  OpenClaim.holds_of_wide 3 Tryd.f3 rfl rfl rfl rfl rfl rfl rfl ⟨rfl, rfl, rfl, rfl, rfl⟩ rfl rfl rfl rfl rfl (by kernel_rfl) Tryd.func3 (by kernel_rfl)
    (of_decide_eq_true (by kernel_rfl)) (by unfold Func.isWrapper; first | (rw [if_pos (by decide +kernel)]; kernel_rfl) | (rw [if_neg (by decide +kernel)]; exact ⟨rfl, rfl⟩))
    (fun os started H enc _ => lifted os started H enc)

theorem proved : Rows.FnExactIsDeskCardSaid :=
  Claim7.holds_tied_plain_at .later [] [.sentinel] true _ _
    over (fun _ h => by cases h) (by kernel_rfl) (fun _ h => by cases h) fnExactIsDesk_row_tie rfl ⟨rfl, rfl⟩ (by kernel_rfl) rfl
    (fun f fn hf hfn => by
      obtain rfl : f = 3 := Option.some.inj ((show Tryd.prog.funcNamed "loop.example/g01321/laws.FnExactIsDesk" = some 3 by kernel_rfl).symm.trans hf) |>.symm
      obtain rfl : fn = Tryd.f3 := (Option.some.inj (Tryd.func3.symm.trans hfn)).symm
      exact ⟨by kernel_rfl, fun j t ht => by
        rw [Tryd.params3] at ht
        have hm : t ∈ [29] := by simpa using Array.mem_of_getElem? ht
        have hall : ([29].all fun u => !Tryd.prog.wantsStandIn u) = true := by kernel_rfl
        exact (show Tryd.prog.wantsStandIn t = false by simpa using List.all_eq_true.1 hall t hm)⟩)
    (by kernel_rfl)
#print axioms proved
end Go.Proofs.YtepjdoonopbijaaDoor.fnExactIsDesk
