/- Contracts: the heap behind a move, by the program. -/
import Derived.Test.YtpiglaolofddfaaDoorHpAp
import Derived.Test.YtpiglaolofddfaaDoorHpA2
import Derived.Test.YtpiglaolofddfaaDoorHpO
import Derived.Test.YtpiglaolofddfaaDoorHpOf
import Derived.Deep.RegionHeld3
namespace Go.Proofs.YtpiglaolofddfaaDoor
open Go.RowKit Go.ChangeShapes Go.WideShapes
set_option linter.unusedVariables false

theorem results_row_tmp2 {P : Program} {fn : Func} {p q : Tmp} {ty : TypeId} (h : fn.results = #[.cell p ty, .tmp q]) (tmps : Array Value) (w : World) (g : Nat) (t : TypeId) (cs : Array Value) (fr : Nat × Nat) (d : TypeDesc)
    (hp : tmps.getD p undef = .pointer (some ⟨g, 0, none⟩)) (hg : w.heap[g]? = some (.cells cs t fr))
    (hu : P.underlying ty = some d) (hd : (match d with | .struct _ | .array _ _ => true | _ => false) = true) (hi : (P.info? ty).map (·.size) = some cs.size) :
    (results fn tmps).run P w = .ok (.tuple #[.agg cs, tmps.getD q undef]) w := by
  have hp' : tmps[p]?.getD undef = .pointer (some ⟨g, 0, none⟩) := by simpa using hp
  simp [results, h, hp', asAddr, run_loadVar_row w g t ty cs fr d hg hu hd hi]

theorem cells123 {w : World} {b t b' t' : Nat} {Z : Nat → Int} {x y z : Value} (h : Box w b t (zA Z)) (h' : Box w b' t' #[x, y, z]) :
    w.cell? ⟨b, 0, none⟩ = some (.int .i64 (Z 0)) ∧ w.cell? ⟨b, 1, none⟩ = some (.int .i64 (Z 1)) ∧ w.cell? ⟨b, 2, none⟩ = some (.int .i64 (Z 2)) ∧ w.cell? ⟨b, 3, none⟩ = some (.int .i64 (Z 3)) ∧ w.cell? ⟨b, 4, none⟩ = some (.int .i64 (Z 4)) ∧ w.cell? ⟨b, 5, none⟩ = some (.int .i64 (Z 5)) ∧ w.cell? ⟨b, 6, none⟩ = some (.int .i64 (Z 6)) ∧ w.cell? ⟨b, 7, none⟩ = some (.int .i64 (Z 7)) ∧ w.cell? ⟨b, 8, none⟩ = some (.int .i64 (Z 8)) ∧ w.cell? ⟨b, 9, none⟩ = some (.int .i64 (Z 9)) ∧ w.cell? ⟨b, 10, none⟩ = some (.int .i64 (Z 10)) ∧ w.cell? ⟨b, 11, none⟩ = some (.int .i64 (Z 11)) ∧ w.cell? ⟨b', 0, none⟩ = some x ∧ w.cell? ⟨b', 1, none⟩ = some y ∧ w.cell? ⟨b', 2, none⟩ = some z := by
  obtain ⟨q0, q1, q2, q3, q4, q5, q6, q7, q8, q9, q10, q11⟩ := h.z12
  obtain ⟨x0, x1, x2⟩ := h'.three
  exact ⟨q0, q1, q2, q3, q4, q5, q6, q7, q8, q9, q10, q11, x0, x1, x2⟩

set_option maxRecDepth 100000 in
set_option maxHeartbeats 8000000 in
theorem implAfterHeapMove_h (A : Option Addr) (n c : Nat) (rs : List Rw) (m : Mv) (ea : Addr) (w : World) (hL : rs.length = n) (hn : n ≤ 1048576) (hb : totN rs ≤ 1048576) (hI : IntsSS w A rs) (hS : Sent w ea) :
    Calls Tryd.prog 16 #[.agg #[.slice A n c], .agg #[.int .i64 m.1, .int .i64 m.2.1, .int .i64 m.2.2]] w (RetHeap w (ahL (LLof rs) m) (ahE (LLof rs) m)) := by
  obtain ⟨d, fr, tt⟩ := m
  dsimp only
  obtain ⟨W0, hW0⟩ : ∃ W0, W0 = ((w.alloc (.cells #[.slice A n c] 29)).alloc (.cells #[.int .i64 d, .int .i64 fr, .int .i64 tt] 40)).alloc (.cells #[.slice none 0 0] 29) := ⟨_, rfl⟩
  have hb0 : Below w.heap.size w W0 := by rw [hW0]; exact (((Below.refl _ _).alloc (Nat.le_refl _) _).alloc (by simp) _).alloc (by simp; omega) _
  have hm0 : Box W0 (w.heap.size + 1) 40 #[.int .i64 d, .int .i64 fr, .int .i64 tt] := by
    have h := Box.new (w.alloc (.cells #[.slice A n c] 29)) 40 #[.int .i64 d, .int .i64 fr, .int .i64 tt]
    rw [World.size_alloc] at h
    rw [hW0]; exact h.alloc _
  have hr0 : Box W0 (w.heap.size + 1 + 1) 29 #[.slice none 0 0] := by
    have h := Box.new ((w.alloc (.cells #[.slice A n c] 29)).alloc (.cells #[.int .i64 d, .int .i64 fr, .int .i64 tt] 40)) 29 #[.slice none 0 0]
    rw [World.size_alloc, World.size_alloc] at h
    rw [hW0]; exact h
  have HL := Lib.hid hL
  have HT := Lib.hid hb
  have HI := Lib.hid (hI.below hb0)
  have HB0 := Lib.hid hb0
  have S0 := Lib.hid (hS.below hb0)
  have M0 := Lib.hid hm0
  have R0 := Lib.hid hr0
  have HW := Lib.hid hW0
  clear hb0 hI hL hb hS hm0 hr0 hW0
  go_enter Tryd.func16, Tryd.ntmps16
  go_wp2_with fail
  rw [← HW.out]
  refine (heapDoor_calls A n c rs ea _ HL.out hn HT.out HI.out S0.out).mono ?_
  rintro e w1 ⟨rfl, hb1⟩
  have HB1 := Lib.hid (HB0.out.trans (hb1.mono HB0.out.size))
  have M1 := Lib.hid (M0.out.below hb1 M0.out.lt)
  have R1 := Lib.hid (R0.out.below hb1 R0.out.lt)
  have hsz1 := HB1.out.size
  have hr1 := R1.out.lt
  clear hb1 HB0 M0 R0 HI S0 HW
  cases hh : heapB (LLof rs) with
  | true =>
    have HH := Lib.hid hh
    have hd := door_yes hh
    rw [hd.1, hd.2]
    have HMM := Lib.hid (hm_yes hh).1
    clear hd hh
    have hp := Box.new w1 50 (zA (pilesOf (LLof rs)))
    have hba : Below w1.heap.size w1 (w1.alloc (.cells (zA (pilesOf (LLof rs))) 50)) := (Below.refl _ _).alloc (Nat.le_refl _) _
    have HB2 := Lib.hid (HB1.out.trans (hba.mono hsz1))
    have P2 := Lib.hid hp
    have M2 := Lib.hid (M1.out.below hba M1.out.lt)
    have R2 := Lib.hid (R1.out.below hba R1.out.lt)
    have hr := Lib.hid (fun W => heapMoves_calls (pilesOf (LLof rs)) (topH (LLof rs)) (fun a _ => rfl) W)
    have HLEN := Lib.hid (show (hmd (topH (LLof rs)) 4).length ≤ 1048576 by have := hmd_len (topH (LLof rs)) 4; omega)
    clear hp hba M1 R1 HB1
    obtain ⟨T, hT⟩ : ∃ T, T = topH (LLof rs) := ⟨_, rfl⟩
    rw [← hT] at hr HMM HLEN
    clear hT
    have HZ := Lib.hid (fun (f t : Nat) => moved_lists (m := (d, fr, tt)) HH.out)
    have HZ2 : ∃ Z, Hid (Z = pilesOf (LLof rs)) := ⟨_, rfl⟩
    obtain ⟨Z, hZ⟩ := HZ2
    rw [← hZ.out] at hr P2 HB2 M2 R2
    rw [← hZ.out]
    obtain ⟨q0, q1, q2, q3, q4, q5, q6, q7, q8, q9, q10, q11⟩ := P2.out.z12
    obtain ⟨m0, m1, m2⟩ := M2.out.three
    obtain ⟨w2, hw2⟩ : ∃ w2, w2 = w1.alloc (.cells (zA Z) 50) := ⟨_, rfl⟩
    rw [← hw2] at P2 HB2 M2 R2 q0 q1 q2 q3 q4 q5 q6 q7 q8 q9 q10 q11 m0 m1 m2
    have HW2 := Lib.hid hw2
    clear hw2
    simp only [zA] at HW2
    simp only [zA]
    have zp := P2.out.lt
    have zm := M2.out.lt
    by_cases hm : (d, fr, tt) ∈ hmd T 4
    · have hdc : decide ((d, fr, tt) ∈ hmd T 4) = true := decide_eq_true hm
      obtain ⟨f, t, hf, ht, hne, hm3, htop, hd0, hd4, _⟩ := hm_mem HH.out (m := (d, fr, tt)) (by rw [HMM.out]; exact hm)
      injection hm3 with _ hm3
      injection hm3 with hfr htt
      dsimp only at htop hd0 hd4
      subst hfr htt
      have HD := Lib.hid (ah_yes (m := (d, (f : Int), (t : Int))) HH.out (by rw [HMM.out]; exact hm))
      have HLS := Lib.hid (HZ.out f t (by rw [HMM.out]; exact hm) hf ht hne htop hd4)
      clear hm htop hd0 hd4 hne
      go_wp2_with fail
      rw [← HW2.out]
      go_region_held3 (fun w' => w'.cell? ⟨w1.heap.size, 0, none⟩ = some (.int .i64 (Z 0)) ∧ w'.cell? ⟨w1.heap.size, 1, none⟩ = some (.int .i64 (Z 1)) ∧ w'.cell? ⟨w1.heap.size, 2, none⟩ = some (.int .i64 (Z 2)) ∧ w'.cell? ⟨w1.heap.size, 3, none⟩ = some (.int .i64 (Z 3)) ∧ w'.cell? ⟨w1.heap.size, 4, none⟩ = some (.int .i64 (Z 4)) ∧ w'.cell? ⟨w1.heap.size, 5, none⟩ = some (.int .i64 (Z 5)) ∧ w'.cell? ⟨w1.heap.size, 6, none⟩ = some (.int .i64 (Z 6)) ∧ w'.cell? ⟨w1.heap.size, 7, none⟩ = some (.int .i64 (Z 7)) ∧ w'.cell? ⟨w1.heap.size, 8, none⟩ = some (.int .i64 (Z 8)) ∧ w'.cell? ⟨w1.heap.size, 9, none⟩ = some (.int .i64 (Z 9)) ∧ w'.cell? ⟨w1.heap.size, 10, none⟩ = some (.int .i64 (Z 10)) ∧ w'.cell? ⟨w1.heap.size, 11, none⟩ = some (.int .i64 (Z 11)) ∧ w'.cell? ⟨w.heap.size + 1, 0, none⟩ = some (.int .i64 d) ∧ w'.cell? ⟨w.heap.size + 1, 1, none⟩ = some (.int .i64 f) ∧ w'.cell? ⟨w.heap.size + 1, 2, none⟩ = some (.int .i64 t))
        (first | exact cells123 P2.out M2.out | exact cells123 P3.out M3.out | exact cells123 P4.out M4.out | go_keep)
        (first
        | (go_at_call 23; refine (hr.out _).mono ?_; rintro e w3 ⟨A3, c3, rfl, hO3, hb3⟩; have P3 := Lib.hid (Box.below P2.out (undrew hb3) zp); have M3 := Lib.hid (Box.below M2.out (undrew hb3) zm))
        | (go_at_call 28; refine (moveContains_calls A3 _ c3 (hmd T 4) (d, (f : Int), (t : Int)) _ rfl HLEN.out hO3.mvs).mono ?_; rintro e w4 ⟨rfl, hb4⟩; have P4 := Lib.hid (Box.below P3.out hb4 (Box.lt P3.out)); have M4 := Lib.hid (Box.below M3.out hb4 (Box.lt M3.out))))
      have HB3 := Lib.hid (HB2.out.trans ((undrew hb3).mono HB2.out.size))
      have R3 := Lib.hid (R2.out.below (undrew hb3) R2.out.lt)
      have HB4 := Lib.hid (HB3.out.trans (hb4.mono HB3.out.size))
      have R4 := Lib.hid (R3.out.below hb4 R3.out.lt)
      clear hO3 hb3 hb4 P2 P3 M2 M3 R2 R3 HB2 HB3 q0 q1 q2 q3 q4 q5 q6 q7 q8 q9 q10 q11 m0 m1 m2
      obtain ⟨q0, q1, q2, q3, q4, q5, q6, q7, q8, q9, q10, q11⟩ := P4.out.z12
      obtain ⟨m0, m1, m2⟩ := M4.out.three
      go_wp2_with fail
      refine (withTopMoved_calls Z f t hf ht _).mono ?_
      rintro e w5 ⟨rfl, hb5⟩
      have HB5 := Lib.hid (HB4.out.trans (hb5.mono HB4.out.size))
      have R5 := Lib.hid (R4.out.below hb5 R4.out.lt)
      clear hb5 R4 HB4 P4 M4 q0 q1 q2 q3 q4 q5 q6 q7 q8 q9 q10 q11 m0 m1 m2
      go_wp2_with fail
      refine (heapOfPiles_calls (mvZ Z f t) _).mono ?_
      rintro e w6 ⟨g, rs6, rfl, hg, hO, hLL, hb6⟩
      have HB6 := Lib.hid (HB5.out.trans (hb6.mono HB5.out.size))
      have R6 := Lib.hid (R5.out.below hb6 R5.out.lt)
      have HO := Lib.hid hO
      have hlt5 := R5.out.lt
      have hsz5 := HB5.out.size
      have HLL := Lib.hid hLL
      clear hb6 hO hLL R5 HB5
      obtain ⟨r0, rf⟩ := R6.out.one
      go_wp2
      have hbx := Lib.hid (show Box (w6.setCell ⟨w.heap.size + 1 + 1, 0, none⟩ (.slice (some ⟨g, 0, none⟩) 3 3)) (w.heap.size + 1 + 1) 29 #[.slice (some ⟨g, 0, none⟩) 3 3] from R6.out.set 0 (.slice (some ⟨g, 0, none⟩) 3 3))
      have hb9 := Lib.hid (HB6.out.setCell (p := ⟨w.heap.size + 1 + 1, 0, none⟩) (by simp; omega) (.slice (some ⟨g, 0, none⟩) 3 3))
      have ho9 := Lib.hid (OwnSS.setOld HO.out (a := ⟨w.heap.size + 1 + 1, 0, none⟩) (by simp; omega) (.slice (some ⟨g, 0, none⟩) 3 3))
      generalize w6.setCell ⟨w.heap.size + 1 + 1, 0, none⟩ (.slice (some ⟨g, 0, none⟩) 3 3) = w9 at *
      refine bodyPost_ret (results_row_tmp2 rfl _ _ (w.heap.size + 1 + 1) 29 #[.slice (some ⟨g, 0, none⟩) 3 3] (0, 0) _ rfl hbx.out Tryd.underlying29 rfl (by kernel_rfl)) rfl ?_
      rw [HD.out.1, HD.out.2]
      refine ⟨some ⟨g, 0, none⟩, 3, 3, rs6, rfl, ho9.out.mono (by omega), ?_, hb9.out⟩
      rw [HLL.out, hZ.out]
      simpa using HLS.out
    · have hdc : decide ((d, fr, tt) ∈ hmd T 4) = false := decide_eq_false hm
      have HD := Lib.hid (ah_no5 (m := (d, fr, tt)) HH.out (by rw [HMM.out]; exact hm))
      clear hm
      go_wp2_with fail
      rw [← HW2.out]
      go_region_held3 (fun w' => w'.cell? ⟨w1.heap.size, 0, none⟩ = some (.int .i64 (Z 0)) ∧ w'.cell? ⟨w1.heap.size, 1, none⟩ = some (.int .i64 (Z 1)) ∧ w'.cell? ⟨w1.heap.size, 2, none⟩ = some (.int .i64 (Z 2)) ∧ w'.cell? ⟨w1.heap.size, 3, none⟩ = some (.int .i64 (Z 3)) ∧ w'.cell? ⟨w1.heap.size, 4, none⟩ = some (.int .i64 (Z 4)) ∧ w'.cell? ⟨w1.heap.size, 5, none⟩ = some (.int .i64 (Z 5)) ∧ w'.cell? ⟨w1.heap.size, 6, none⟩ = some (.int .i64 (Z 6)) ∧ w'.cell? ⟨w1.heap.size, 7, none⟩ = some (.int .i64 (Z 7)) ∧ w'.cell? ⟨w1.heap.size, 8, none⟩ = some (.int .i64 (Z 8)) ∧ w'.cell? ⟨w1.heap.size, 9, none⟩ = some (.int .i64 (Z 9)) ∧ w'.cell? ⟨w1.heap.size, 10, none⟩ = some (.int .i64 (Z 10)) ∧ w'.cell? ⟨w1.heap.size, 11, none⟩ = some (.int .i64 (Z 11)) ∧ w'.cell? ⟨w.heap.size + 1, 0, none⟩ = some (.int .i64 d) ∧ w'.cell? ⟨w.heap.size + 1, 1, none⟩ = some (.int .i64 fr) ∧ w'.cell? ⟨w.heap.size + 1, 2, none⟩ = some (.int .i64 tt))
        (first | exact cells123 P2.out M2.out | exact cells123 P3.out M3.out | exact cells123 P4.out M4.out | go_keep)
        (first
        | (go_at_call 23; refine (hr.out _).mono ?_; rintro e w3 ⟨A3, c3, rfl, hO3, hb3⟩; have P3 := Lib.hid (Box.below P2.out (undrew hb3) zp); have M3 := Lib.hid (Box.below M2.out (undrew hb3) zm))
        | (go_at_call 28; refine (moveContains_calls A3 _ c3 (hmd T 4) (d, fr, tt) _ rfl HLEN.out hO3.mvs).mono ?_; rintro e w4 ⟨rfl, hb4⟩; have P4 := Lib.hid (Box.below P3.out hb4 (Box.lt P3.out)); have M4 := Lib.hid (Box.below M3.out hb4 (Box.lt M3.out))))
      have HB3 := Lib.hid (HB2.out.trans ((undrew hb3).mono HB2.out.size))
      have R3 := Lib.hid (R2.out.below (undrew hb3) R2.out.lt)
      have HB4 := Lib.hid (HB3.out.trans (hb4.mono HB3.out.size))
      have R4 := Lib.hid (R3.out.below hb4 R3.out.lt)
      clear hO3 hb3 hb4 P2 P3 P4 M2 M3 M4 R2 R3 HB2 HB3 q0 q1 q2 q3 q4 q5 q6 q7 q8 q9 q10 q11 m0 m1 m2
      obtain ⟨r0, rf⟩ := R4.out.one
      go_wp2
      have hbx := Lib.hid (show Box (w4.setCell ⟨w.heap.size + 1 + 1, 0, none⟩ (.slice none 0 0)) (w.heap.size + 1 + 1) 29 #[.slice none 0 0] from R4.out.set 0 (.slice none 0 0))
      have hb9 := Lib.hid (HB4.out.setCell (p := ⟨w.heap.size + 1 + 1, 0, none⟩) (by simp; omega) (.slice none 0 0))
      generalize w4.setCell ⟨w.heap.size + 1 + 1, 0, none⟩ (.slice none 0 0) = w9 at *
      refine bodyPost_ret (results_row_tmp2 rfl _ _ (w.heap.size + 1 + 1) 29 #[.slice none 0 0] (0, 0) _ rfl hbx.out Tryd.underlying29 rfl (by kernel_rfl)) rfl ?_
      rw [HD.out.1, HD.out.2]
      exact retHeap_zero rfl hb9.out
  | false =>
    have HD := Lib.hid (ah_no1 (m := (d, fr, tt)) hh)
    have hd := door_no hh
    rw [hd.1, hd.2]
    clear hd hh
    simp only [zA]
    obtain ⟨r0, rf⟩ := R1.out.one
    go_wp2
    have hbx := Lib.hid (show Box (w1.setCell ⟨w.heap.size + 1 + 1, 0, none⟩ (.slice none 0 0)) (w.heap.size + 1 + 1) 29 #[.slice none 0 0] from R1.out.set 0 (.slice none 0 0))
    have hb9 := Lib.hid (HB1.out.setCell (p := ⟨w.heap.size + 1 + 1, 0, none⟩) (by simp; omega) (.slice none 0 0))
    generalize w1.setCell ⟨w.heap.size + 1 + 1, 0, none⟩ (.slice none 0 0) = w8 at *
    have hbx2 := Lib.hid (hbx.out.alloc (.cells #[.int .i64 0, .int .i64 0, .int .i64 0, .int .i64 0, .int .i64 0, .int .i64 0, .int .i64 0, .int .i64 0, .int .i64 0, .int .i64 0, .int .i64 0, .int .i64 0] 50))
    have hb10 := Lib.hid (hb9.out.alloc hb9.out.size (.cells #[.int .i64 0, .int .i64 0, .int .i64 0, .int .i64 0, .int .i64 0, .int .i64 0, .int .i64 0, .int .i64 0, .int .i64 0, .int .i64 0, .int .i64 0, .int .i64 0] 50))
    generalize w8.alloc (.cells #[.int .i64 0, .int .i64 0, .int .i64 0, .int .i64 0, .int .i64 0, .int .i64 0, .int .i64 0, .int .i64 0, .int .i64 0, .int .i64 0, .int .i64 0, .int .i64 0] 50) = w9 at *
    refine bodyPost_ret (results_row_tmp2 rfl _ _ (w.heap.size + 1 + 1) 29 #[.slice none 0 0] (0, 0) _ rfl hbx2.out Tryd.underlying29 rfl (by kernel_rfl)) rfl ?_
    rw [HD.out.1, HD.out.2]
    exact retHeap_zero rfl hb10.out

end Go.Proofs.YtpiglaolofddfaaDoor
