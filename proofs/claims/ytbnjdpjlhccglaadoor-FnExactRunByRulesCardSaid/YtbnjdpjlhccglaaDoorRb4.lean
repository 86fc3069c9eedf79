/- Contracts: the door of a run by rules, and RunByRules, by the program. -/
import Derived.Test.YtbnjdpjlhccglaaDoorRb3
namespace Go.Proofs.YtbnjdpjlhccglaaDoor
open Go Go.RowKit
set_option linter.unusedVariables false

/-- What recover finds: nil is no error, the error is one. -/
theorem rta_nil (w : World) : (Instr.typeAssert .nilIface 20 65 true).run Tryd.prog w = .ok (.tuple #[.nilIface, .bool false]) w := by
  have h : (Tryd.prog.info? 65).map (·.zero) = some (some .nilIface) := by kernel_rfl
  obtain ⟨i, hi, hz⟩ := Option.map_eq_some_iff.1 h
  simp [Instr.typeAssert, run_underlying Tryd.underlying65, typeInfo, hi, zeroValue, hz]
theorem rta_err (v : Value) (w : World) : (Instr.typeAssert (.iface 77 v) 20 65 true).run Tryd.prog w = .ok (.tuple #[.iface 77 v, .bool true]) w :=
  run_typeAssert_hasB Tryd.underlying65 (by kernel_rfl) v _ w

theorem rdoor_idle (p : Addr) (w : World) :
    CallsD Tryd.prog 36 #[.pointer (some p)] .returning w fun e u' w' => e = .returned (.tuple #[]) ∧ u' = .returning ∧ w' = w := by
  have hta := rta_nil
  refine callsD_of_wpS Tryd.func36 rfl fun c₀ cs hu => ?_
  apply wpS_seq
  apply wpS_region
  simp [wpOpsS, go_sem, recoverD, hu, hta, Tryd.ntmps36, Exit.thenS]
  apply wpS_seq
  apply wpS_region
  simp [wpOpsS, go_sem, Exit.thenS]
  refine wpS_cond (t := false) (by simp [Act.eval, Array.replicate]) ?_
  simp only [Bool.false_eq_true, if_false]
  refine wpS_of_wp (wp_skip ?_)
  cases c₀
  simp_all [bodyPostS, results, Tryd.results36]

theorem rdoor_caught (p : Addr) (x : Int) (pv : Value) (older : List PanicEntry) (w : World) (hc : w.cell? p = some (.int .i64 x)) (hz : w.frozen? p = false) :
    CallsD Tryd.prog 36 #[.pointer (some p)] (.panicking ({ v := .iface 77 pv, recovered := false } :: older)) w fun e u' w' =>
      e = .returned (.tuple #[]) ∧ u' = .panicking ({ v := .iface 77 pv, recovered := true } :: older) ∧ w' = w.setCell p (.int .i64 5) := by
  have hta := rta_err pv
  refine callsD_of_wpS Tryd.func36 rfl fun c₀ cs hu => ?_
  apply wpS_seq
  apply wpS_region
  simp [wpOpsS, go_sem, recoverD, hu, hta, Tryd.ntmps36, Exit.thenS]
  apply wpS_seq
  apply wpS_region
  simp [wpOpsS, go_sem, Exit.thenS]
  refine wpS_cond (t := true) (by simp [Act.eval, Array.replicate]) ?_
  simp only [if_true]
  apply wpS_region
  simp [wpOpsS, go_sem, hc, hz, bodyPostS, results, Tryd.results36]

theorem cR1_of {r : Nat → Int} {p : Int} {L : List Int} (h : cR1 r p L = 0) : ruB r = true ∧ s3B p L = true := by
  unfold cR1 at h
  split at h
  · next h1 => simpa using h1
  · cases h
theorem rbOk_of {r : Nat → Int} {L : List Int} {M : List Mv} {k : Nat} (h : rbOk r L M k = true) : okA 3 L M k = true ∧ alA r M k = true := by unfold rbOk at h; simpa using h

set_option maxRecDepth 100000 in
set_option maxHeartbeats 4000000 in
theorem runDoor_calls (r : Nat → Int) (ad : Addr) (n c : Nat) (L : List Int) (AM : Option Addr) (m cM : Nat) (M : List Mv) (ea : Addr) (w : World) (hL : L.length = n) (hn : n ≤ 1048576) (hI : Ints w (some ad) L) (hs : stateB 3 L = true) (hM : M.length = m) (hm : m ≤ 6561) (hMv : Mvs w AM M) (hS : SentL w ea) :
    Calls Tryd.prog 24 #[.iface 33 (.agg (z9 r)), .agg #[.int .i64 3, .slice (some ad) n c], .slice AM m cM] w (fun e w' => (rbOk r L M M.length = true ∧ RetState w 3 n (stA L M M.length) 0 e w') ∨ (rbOk r L M M.length = false ∧ RetState w 0 0 [] 5 e w')) := by
  have hmf : ∀ (fn : Fn) (first cap : Array Value) (w : World), (Instr.makeFunc fn first cap).run Tryd.prog w = .ok (.func fn first cap) w := fun _ _ _ _ => rfl
  obtain ⟨W, hW⟩ : ∃ W, W = ((w.alloc (.cells #[.int .i64 3, .slice (some ad) n c] 30)).alloc (.cells #[.int .i64 0, .slice none 0 0] 30)).alloc (.cells #[.int .i64 0] 2) := ⟨_, rfl⟩
  have hb0 : Below w.heap.size w W := by rw [hW]; exact (((Below.refl _ _).alloc (Nat.le_refl _) _).alloc (by simp) _).alloc (by simp; omega) _
  have HI := Lib.hid (hI.below hb0)
  have HV := Lib.hid (hMv.below hb0)
  have HB0 := Lib.hid hb0
  have S0 := Lib.hid (hS.below hb0)
  have X0 : Box W w.heap.size 30 #[.int .i64 3, .slice (some ad) n c] := by rw [hW]; exact ((Box.new w _ _).alloc _).alloc _
  have P0 : Hid (Box W (w.heap.size + 1) 30 #[.int .i64 0, .slice none 0 0]) := by
    have := (Box.new (w.alloc (.cells #[.int .i64 3, .slice (some ad) n c] 30)) 30 #[.int .i64 0, .slice none 0 0]).alloc (.cells #[.int .i64 0] 2)
    rw [← hW, World.size_alloc] at this
    exact this
  have C0 : Hid (Box W (w.heap.size + 1 + 1) 2 #[.int .i64 0]) := by
    have := Box.new ((w.alloc (.cells #[.int .i64 3, .slice (some ad) n c] 30)).alloc (.cells #[.int .i64 0, .slice none 0 0] 30)) 2 #[.int .i64 0]
    rw [← hW, World.size_alloc, World.size_alloc] at this
    exact this
  have HL := Lib.hid hL
  have HM := Lib.hid hM
  have HST := Lib.hid hs
  have HW := Lib.hid hW
  have hsz : W.heap.size = w.heap.size + 3 := by rw [hW]; simp
  obtain ⟨x0, x1, _, _⟩ := X0.two
  clear hb0 hI hS hL hM hs hMv hW
  go_enter_defers Tryd.func24, Tryd.ntmps24
  go_wp2_with fail
  rw [← HW.out]
  refine (mustBeRun_calls r ad n c L AM m cM M ea _ HL.out hn HI.out HST.out HM.out hm HV.out S0.out).mono ?_
  rintro e w1 ⟨he, hb1⟩
  have P1 := Lib.hid (P0.out.below hb1 P0.out.lt)
  have C1 := Lib.hid (C0.out.below hb1 C0.out.lt)
  have HB1 := Lib.hid (HB0.out.trans (hb1.mono HB0.out.size))
  clear hb1 P0 C0 HB0 S0 HI HV x0 x1 X0
  rcases he with ⟨hh, A', c', rfl, hO⟩ | ⟨hh, rfl⟩
  · have HH := Lib.hid hh
    have HNG := Lib.hid (show ∀ g, A' = some ⟨g, 0, none⟩ → W.heap.size ≤ g from fun g hg => by
      rcases OwnG.form hO with ⟨h1, _⟩ | ⟨g', h1, h2, _⟩
      · rw [h1] at hg; cases hg
      · rw [h1] at hg; injection hg with hg; injection hg with hg; omega)
    have HO := Lib.hid (OwnG.mono hO (show w.heap.size ≤ W.heap.size by omega))
    clear hh hO
    obtain ⟨d0, d1, f0, f1⟩ := P1.out.two
    obtain ⟨c0, c1⟩ := C1.out.one
    go_wp2
    obtain ⟨W3, hW3⟩ : ∃ W3, W3 = ((w1.setCell ⟨w.heap.size + 1, 0, none⟩ (.int .i64 3)).setCell ⟨w.heap.size + 1, 1, none⟩ (.slice A' n c')).setCell ⟨w.heap.size + 1 + 1, 0, none⟩ (.int .i64 0) := ⟨_, rfl⟩
    have P3 := Lib.hid (show Box W3 (w.heap.size + 1) 30 #[.int .i64 3, .slice A' n c'] from by rw [hW3]; exact ((P1.out.set 0 (.int .i64 3)).set 1 (.slice A' n c')).other (by simp) _)
    have B3 := Lib.hid (show Below w.heap.size w W3 from by rw [hW3]; exact ((HB1.out.setCell (by simp) _).setCell (by simp) _).setCell (by simp; omega) _)
    have C3 := Lib.hid (show Box W3 (w.heap.size + 1 + 1) 2 #[.int .i64 0] from by rw [hW3]; exact ((C1.out.other (by simp) _).other (by simp) _).set 0 (.int .i64 0))
    have O3 := Lib.hid (show Own w.heap.size W3 A' n c' (stA L M M.length) from by
      rw [hW3]
      have h1 := OwnG.setBoxed HO.out P1.out (by decide) 0 (.int .i64 3)
      have h2 := OwnG.setBoxed h1 (P1.out.set 0 (.int .i64 3)) (by decide) 1 (.slice A' n c')
      refine OwnG.setBox h2 (fun g hg => ?_) _
      have := HNG.out g hg
      show g ≠ w.heap.size + 1 + 1
      omega)
    rw [← hW3]
    clear hW3 d0 d1 f0 f1 c0 c1 P1 C1 HB1
    obtain ⟨d0, d1, _, _⟩ := P3.out.two
    obtain ⟨c0, c1⟩ := C3.out.one
    refine leaves_cons (f := 36) (args := #[.pointer (some ⟨w.heap.size + 1 + 1, 0, none⟩)]) (by simp) (by simp [go_sem]) ?_
    refine (rdoor_idle ⟨w.heap.size + 1 + 1, 0, none⟩ _).mono ?_
    rintro e u' w'' ⟨rfl, rfl, rfl⟩
    simp [Leaves, settle, results, Tryd.results24, go_sem, c0, d0, d1]
    exact .inl ⟨HH.out, A', c', rfl, O3.out, B3.out⟩
  · have HH := Lib.hid hh
    clear hh
    go_wp2
    obtain ⟨c0, c1⟩ := C1.out.one
    refine leaves_cons (f := 36) (args := #[.pointer (some ⟨w.heap.size + 1 + 1, 0, none⟩)]) (by simp) (by simp [go_sem]) ?_
    refine (rdoor_caught ⟨w.heap.size + 1 + 1, 0, none⟩ 0 _ [] _ c0 c1).mono ?_
    rintro e u' w'' ⟨rfl, rfl, rfl⟩
    have P3 := P1.out.other (a := ⟨w.heap.size + 1 + 1, 0, none⟩) (by simp) (.int .i64 5)
    have B3 : Below w.heap.size w (w1.setCell ⟨w.heap.size + 1 + 1, 0, none⟩ (.int .i64 5)) := HB1.out.setCell (by simp; omega) _
    have C3 : Box _ (w.heap.size + 1 + 1) 2 #[.int .i64 5] := Box.set C1.out 0 (.int .i64 5)
    obtain ⟨c0, c1⟩ := C3.one
    generalize w1.setCell ⟨w.heap.size + 1 + 1, 0, none⟩ (.int .i64 5) = W3 at *
    obtain ⟨d0, d1, _, _⟩ := P3.two
    simp [Leaves, settle, results, Tryd.results24, go_sem, c0, d0, d1]
    exact .inr ⟨HH.out, none, 0, rfl, Own.nilS _ _, B3⟩

set_option maxRecDepth 100000 in
set_option maxHeartbeats 4000000 in
theorem implRunByRules_ret (r : Nat → Int) (hw : ∀ k, k < 9 → (Lit.int .i64 (r k)).wf = true) (ad : Addr) (n c : Nat) (p : Int) (L : List Int) (AM : Option Addr) (m cM : Nat) (M : List Mv) (ea : Addr) (w : World) (hL : L.length = n) (hn : n ≤ 1048576) (hI : Ints w (some ad) L) (hM : M.length = m) (hm : m ≤ 1048576) (hMv : Mvs w AM M) (hS : SentL w ea) :
    Calls Tryd.prog 10 #[.agg (z9 r), .agg #[.int .i64 p, .slice (some ad) n c], .slice AM m cM] w (RetState w (rbP r p L M) (rbL r p L M).length (rbL r p L M) (rbE r p L M)) := by
  have HL := Lib.hid hL
  have HM := Lib.hid hM
  have HWF := Lib.hid hw
  obtain ⟨W0, hW0⟩ : ∃ W0, W0 = (((w.alloc (.cells (z9 r) 33)).alloc (.cells #[.int .i64 p, .slice (some ad) n c] 30)).alloc (.cells #[.int .i64 0, .slice none 0 0] 30)).alloc (.cells #[.int .i64 p, .slice (some ad) n c] 30) := ⟨_, rfl⟩
  have hb0 : Below w.heap.size w W0 := by rw [hW0]; exact ((((Below.refl _ w).alloc (Nat.le_refl _) _).alloc (by simp) _).alloc (by simp; omega) _).alloc (by simp; omega) _
  have q0 : Box W0 w.heap.size 33 (z9 r) := by rw [hW0]; exact (((Box.new w _ _).alloc _).alloc _).alloc _
  have x0 : Box W0 (w.heap.size + 1) 30 #[.int .i64 p, .slice (some ad) n c] := by
    have h := Box.new (w.alloc (.cells (z9 r) 33)) 30 #[.int .i64 p, .slice (some ad) n c]
    rw [World.size_alloc] at h
    rw [hW0]; exact (h.alloc _).alloc _
  have r0 : Box W0 (w.heap.size + 1 + 1) 30 #[.int .i64 0, .slice none 0 0] := by
    have h := Box.new ((w.alloc (.cells (z9 r) 33)).alloc (.cells #[.int .i64 p, .slice (some ad) n c] 30)) 30 #[.int .i64 0, .slice none 0 0]
    rw [World.size_alloc, World.size_alloc] at h
    rw [hW0]; exact h.alloc _
  have y0 : Box W0 (w.heap.size + 1 + 1 + 1) 30 #[.int .i64 p, .slice (some ad) n c] := by
    have h := Box.new (((w.alloc (.cells (z9 r) 33)).alloc (.cells #[.int .i64 p, .slice (some ad) n c] 30)).alloc (.cells #[.int .i64 0, .slice none 0 0] 30)) 30 #[.int .i64 p, .slice (some ad) n c]
    rw [World.size_alloc, World.size_alloc, World.size_alloc] at h
    rw [hW0]; exact h
  have Q0 := Lib.hid q0
  have X0 := Lib.hid x0
  have R0 := Lib.hid r0
  have Y0 := Lib.hid y0
  have HB0 := Lib.hid hb0
  have HI0 := Lib.hid (hI.below hb0)
  have HV0 := Lib.hid (hMv.below hb0)
  have S0 := Lib.hid (hS.below hb0)
  have HW0 := Lib.hid hW0
  clear hL hM hI hMv q0 x0 r0 y0 hb0 hW0 hw hS
  unfold z9 at HW0
  by_cases hc : cR1 r p L = 0
  · have hc' : (cR1 r p L != 0) = false := by rw [hc]; rfl
    obtain ⟨hr, hs⟩ := cR1_of hc
    obtain ⟨hst, hp⟩ := s3_of hs
    subst hp
    by_cases h6 : m ≤ 6561
    · have HR := Lib.hid hr
      have HS := Lib.hid hs
      have HST := Lib.hid hst
      have H6 := Lib.hid (show M.length ≤ 6561 by rw [HM.out]; exact h6)
      have h6' : ¬ (6561 : Int) < (m : Int) := by omega
      clear hc hr hs hst
      unfold z9
      go_enter Tryd.func10, Tryd.ntmps10
      go_wp2_with fail
      rw [← HW0.out]
      refine (codeOfRules_one r HWF.out (w.heap.size + 1 + 1 + 1) (some ad) n c 3 L W0 Y0.out HL.out hn HI0.out).mono ?_
      rintro e w1 ⟨rfl, hb1⟩
      have Q1 := Lib.hid (Q0.out.below hb1 Q0.out.lt)
      have X1 := Lib.hid (X0.out.below hb1 X0.out.lt)
      have R1 := Lib.hid (R0.out.below hb1 R0.out.lt)
      have HB1 := Lib.hid (HB0.out.trans (hb1.mono HB0.out.size))
      have HI1 := Lib.hid (HI0.out.below hb1)
      have HV1 := Lib.hid (HV0.out.below hb1)
      have S1 := Lib.hid (S0.out.below hb1)
      clear hb1 X0 R0 Y0 Q0 HB0 HI0 HV0 S0
      obtain ⟨x0, x1, _, _⟩ := X1.out.two
      obtain ⟨k0, k1, k2, k3, k4, k5, k6, k7, k8⟩ := Q1.out.nine
      go_wp2_with fail
      refine (runDoor_calls r ad n c L AM m cM M ea w1 HL.out hn HI1.out HST.out HM.out h6 HV1.out S1.out).mono ?_
      rintro e w2 (⟨hh, A2, c2, rfl, hO, hb2⟩ | ⟨hh, A2, c2, rfl, hO, hb2⟩)
      · have HRB := Lib.hid (rb_yes HR.out HS.out H6.out (rbOk_of hh).1 (rbOk_of hh).2)
        have HLn := Lib.hid (show (stA L M M.length).length = n by rw [stA_len]; exact HL.out)
        have R2 := Lib.hid (R1.out.below hb2 R1.out.lt)
        have HB2 := Lib.hid (HB1.out.trans (hb2.mono HB1.out.size))
        have HO := Lib.hid (OwnG.mono hO HB1.out.size)
        clear hb2 hO hh x0 x1 k0 k1 k2 k3 k4 k5 k6 k7 k8
        obtain ⟨r0, r1, f0, f1⟩ := R2.out.two
        go_wp2
        have hbx : Hid (Box ((w2.setCell ⟨w.heap.size + 1 + 1, 0, none⟩ (.int .i64 3)).setCell ⟨w.heap.size + 1 + 1, 1, none⟩ (.slice A2 n c2)) (w.heap.size + 1 + 1) 30 #[.int .i64 3, .slice A2 n c2]) := (R2.out.set 0 (.int .i64 3)).set 1 (.slice A2 n c2)
        have hb9 := Lib.hid ((HB2.out.setCell (p := ⟨w.heap.size + 1 + 1, 0, none⟩) (by simp; omega) (.int .i64 3)).setCell (p := ⟨w.heap.size + 1 + 1, 1, none⟩) (by simp; omega) (.slice A2 n c2))
        have ho9 : Hid (Own w.heap.size ((w2.setCell ⟨w.heap.size + 1 + 1, 0, none⟩ (.int .i64 3)).setCell ⟨w.heap.size + 1 + 1, 1, none⟩ (.slice A2 n c2)) A2 n c2 (stA L M M.length)) := by
          have h1 := OwnG.setBoxed HO.out R2.out (by decide) 0 (.int .i64 3)
          exact OwnG.setBoxed h1 (R2.out.set 0 (.int .i64 3)) (by decide) 1 (.slice A2 n c2)
        generalize (w2.setCell ⟨w.heap.size + 1 + 1, 0, none⟩ (.int .i64 3)).setCell ⟨w.heap.size + 1 + 1, 1, none⟩ (.slice A2 n c2) = w9 at *
        refine bodyPost_ret (results_row_tmp2 rfl _ _ (w.heap.size + 1 + 1) 30 #[.int .i64 3, .slice A2 n c2] (0, 0) _ rfl hbx.out Tryd.underlying30 rfl (by kernel_rfl)) rfl ?_
        obtain ⟨q1, q2, q3⟩ := HRB.out
        rw [q1, q2, q3, HLn.out]
        exact ⟨A2, c2, rfl, ho9.out, hb9.out⟩
      · have HRB := Lib.hid (rb_is (rb_5 HR.out HS.out H6.out (fun h => by unfold rbOk at hh; rw [h.1, h.2] at hh; cases hh)) (by decide))
        have HLn := Lib.hid (show ([] : List Int).length = 0 by rfl)
        have R2 := Lib.hid (R1.out.below hb2 R1.out.lt)
        have HB2 := Lib.hid (HB1.out.trans (hb2.mono HB1.out.size))
        have HO := Lib.hid (OwnG.mono hO HB1.out.size)
        clear hb2 hO hh x0 x1 k0 k1 k2 k3 k4 k5 k6 k7 k8
        obtain ⟨r0, r1, f0, f1⟩ := R2.out.two
        go_wp2
        have hbx : Hid (Box ((w2.setCell ⟨w.heap.size + 1 + 1, 0, none⟩ (.int .i64 0)).setCell ⟨w.heap.size + 1 + 1, 1, none⟩ (.slice A2 0 c2)) (w.heap.size + 1 + 1) 30 #[.int .i64 0, .slice A2 0 c2]) := (R2.out.set 0 (.int .i64 0)).set 1 (.slice A2 0 c2)
        have hb9 := Lib.hid ((HB2.out.setCell (p := ⟨w.heap.size + 1 + 1, 0, none⟩) (by simp; omega) (.int .i64 0)).setCell (p := ⟨w.heap.size + 1 + 1, 1, none⟩) (by simp; omega) (.slice A2 0 c2))
        have ho9 : Hid (Own w.heap.size ((w2.setCell ⟨w.heap.size + 1 + 1, 0, none⟩ (.int .i64 0)).setCell ⟨w.heap.size + 1 + 1, 1, none⟩ (.slice A2 0 c2)) A2 0 c2 ([] : List Int)) := by
          have h1 := OwnG.setBoxed HO.out R2.out (by decide) 0 (.int .i64 0)
          exact OwnG.setBoxed h1 (R2.out.set 0 (.int .i64 0)) (by decide) 1 (.slice A2 0 c2)
        generalize (w2.setCell ⟨w.heap.size + 1 + 1, 0, none⟩ (.int .i64 0)).setCell ⟨w.heap.size + 1 + 1, 1, none⟩ (.slice A2 0 c2) = w9 at *
        refine bodyPost_ret (results_row_tmp2 rfl _ _ (w.heap.size + 1 + 1) 30 #[.int .i64 0, .slice A2 0 c2] (0, 0) _ rfl hbx.out Tryd.underlying30 rfl (by kernel_rfl)) rfl ?_
        obtain ⟨q1, q2, q3⟩ := HRB.out
        rw [q1, q2, q3, HLn.out]
        exact ⟨A2, c2, rfl, ho9.out, hb9.out⟩
    · have HE := Lib.hid (rb_is (rb_2 (r := r) (p := 3) (L := L) (M := M) hr hs (by rw [HM.out]; exact h6)) (by decide))
      have h6' : (6561 : Int) < (m : Int) := by omega
      clear hc hr hs hst h6
      unfold z9
      go_enter Tryd.func10, Tryd.ntmps10
      go_wp2_with fail
      rw [← HW0.out]
      refine (codeOfRules_one r HWF.out (w.heap.size + 1 + 1 + 1) (some ad) n c 3 L W0 Y0.out HL.out hn HI0.out).mono ?_
      rintro e w1 ⟨rfl, hb1⟩
      have R1 := Lib.hid (R0.out.below hb1 R0.out.lt)
      have HB1 := Lib.hid (HB0.out.trans (hb1.mono HB0.out.size))
      clear hb1
      obtain ⟨r0, r1, f0, f1⟩ := R1.out.two
      go_wp2
      have hbx : Hid (Box ((w1.setCell ⟨w.heap.size + 1 + 1, 0, none⟩ (.int .i64 0)).setCell ⟨w.heap.size + 1 + 1, 1, none⟩ (.slice none 0 0)) (w.heap.size + 1 + 1) 30 #[.int .i64 0, .slice none 0 0]) := (R1.out.set 0 (.int .i64 0)).set 1 (.slice none 0 0)
      have hb9 := Lib.hid ((HB1.out.setCell (p := ⟨w.heap.size + 1 + 1, 0, none⟩) (by simp; omega) (.int .i64 0)).setCell (p := ⟨w.heap.size + 1 + 1, 1, none⟩) (by simp; omega) (.slice none 0 0))
      generalize (w1.setCell ⟨w.heap.size + 1 + 1, 0, none⟩ (.int .i64 0)).setCell ⟨w.heap.size + 1 + 1, 1, none⟩ (.slice none 0 0) = w9 at *
      refine bodyPost_ret (results_row_tmp2 rfl _ _ (w.heap.size + 1 + 1) 30 #[.int .i64 0, .slice none 0 0] (0, 0) _ rfl hbx.out Tryd.underlying30 rfl (by kernel_rfl)) rfl ?_
      obtain ⟨q1, q2, q3⟩ := HE.out
      rw [q1, q2, q3]
      exact ⟨none, 0, rfl, Own.nilS _ _, hb9.out⟩
  · have hE : rbE r p L M = cR1 r p L := by
      have h1 : cR1 r p L = 1 := by
        unfold cR1 at hc ⊢
        split at hc
        · exact absurd rfl hc
        · next h => rw [if_neg h]
      rw [h1]
      exact rb_1 (fun h => hc (cR1_yes h.1 h.2))
    have HE := Lib.hid (rb_is hE hc)
    have hc' : (cR1 r p L != 0) = true := by simpa using hc
    clear hc hE
    unfold z9
    go_enter Tryd.func10, Tryd.ntmps10
    go_wp2_with fail
    rw [← HW0.out]
    refine (codeOfRules_one r HWF.out (w.heap.size + 1 + 1 + 1) (some ad) n c p L W0 Y0.out HL.out hn HI0.out).mono ?_
    rintro e w1 ⟨rfl, hb1⟩
    have R1 := Lib.hid (R0.out.below hb1 R0.out.lt)
    have HB1 := Lib.hid (HB0.out.trans (hb1.mono HB0.out.size))
    clear hb1
    obtain ⟨r0, r1, f0, f1⟩ := R1.out.two
    go_wp2
    have hbx : Hid (Box ((w1.setCell ⟨w.heap.size + 1 + 1, 0, none⟩ (.int .i64 0)).setCell ⟨w.heap.size + 1 + 1, 1, none⟩ (.slice none 0 0)) (w.heap.size + 1 + 1) 30 #[.int .i64 0, .slice none 0 0]) := (R1.out.set 0 (.int .i64 0)).set 1 (.slice none 0 0)
    have hb9 := Lib.hid ((HB1.out.setCell (p := ⟨w.heap.size + 1 + 1, 0, none⟩) (by simp; omega) (.int .i64 0)).setCell (p := ⟨w.heap.size + 1 + 1, 1, none⟩) (by simp; omega) (.slice none 0 0))
    generalize (w1.setCell ⟨w.heap.size + 1 + 1, 0, none⟩ (.int .i64 0)).setCell ⟨w.heap.size + 1 + 1, 1, none⟩ (.slice none 0 0) = w9 at *
    refine bodyPost_ret (results_row_tmp2 rfl _ _ (w.heap.size + 1 + 1) 30 #[.int .i64 0, .slice none 0 0] (0, 0) _ rfl hbx.out Tryd.underlying30 rfl (by kernel_rfl)) rfl ?_
    obtain ⟨q1, q2, q3⟩ := HE.out
    rw [q1, q2, q3]
    exact ⟨none, 0, rfl, Own.nilS _ _, hb9.out⟩

end Go.Proofs.YtbnjdpjlhccglaaDoor
