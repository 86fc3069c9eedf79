/- Contracts: a heap of the laws made one of the program, none of its lists nil. -/
import Derived.Test.YtpiglaolofddfaaDoorHpC
namespace Go.Proofs.YtpiglaolofddfaaDoor
open Go.RowKit
set_option linter.unusedVariables false

set_option maxHeartbeats 1000000 in
theorem toInt64SS_callsN (A : Option Addr) (n c : Nat) (rs : List Rw) (w : World) (hL : rs.length = n) (hn : n ≤ 1048576) (hb : ∀ r ∈ rs, r.n ≤ 1048576) (hI : IntsSS w A rs) :
    Calls Tryd.prog 21 #[.slice A n c] w fun e w' => ∃ g rs', e = .returned (.slice (some ⟨g, 0, none⟩) n n) ∧ w.heap.size ≤ g ∧ OwnSS w.heap.size w' (some ⟨g, 0, none⟩) n n rs' ∧ LLof rs' = LLof rs ∧ (∀ r ∈ rs', r.A ≠ none) ∧ Below w.heap.size w w' := by
  have hmk := run_make_row' (P := Tryd.prog) 22 61 (.slice none 0 0) 24 Tryd.underlying22 Tryd.infoSS rfl .i64 .i64 n (by omega) (by omega)
  have HL := Lib.hid hL
  have HB := Lib.hid hb
  clear hL hb
  go_enter Tryd.func21, Tryd.ntmps21
  go_wp2
  go_loopw [4] (fun i wr => ∃ k : Nat, k ≤ n ∧ i = .int .i64 k ∧ (∃ rk, OwnSS w.heap.size wr (some ⟨w.heap.size, 0, none⟩) n n (rk ++ List.replicate (n - k) nilRw) ∧ LLof rk = LLof (rs.take k) ∧ ∀ r ∈ rk, r.A ≠ none) ∧ Below w.heap.size w wr) (fun i _ => n - (intOf i).toNat)
  case atStart =>
    refine ⟨0, Nat.zero_le _, rfl, ⟨[], ?_, by simp [LLof], fun r hr => by simp at hr⟩, (Below.refl _ _).alloc (Nat.le_refl _) _⟩
    rw [List.nil_append]
    exact ownSS_madeN (madeRows_box w n) (Nat.le_refl _) hn
  case round =>
    obtain ⟨k, hk, rfl, ⟨rk, hO, hLL, hNN⟩, hbl⟩ := hrel
    have HNN := Lib.hid hNN
    clear hNN
    have HO := Lib.hid hO
    have HLL := Lib.hid hLL
    have HBl := Lib.hid hbl
    have hsz := hbl.size
    have hrk : rk.length = k := by have := congrArg List.length hLL; rw [LL_len, LL_len, List.length_take, HL.out] at this; omega
    have HRK := Lib.hid hrk
    clear hO hLL hbl hrk
    by_cases hlt : k < n
    · obtain ⟨r, hr⟩ := get_of_lt (rs := rs) (k := k) (by rw [HL.out]; exact hlt)
      obtain ⟨ad, hA, had, hc, hl, hi⟩ := (hI.below HBl.out) k r hr
      have hrn := HB.out r (List.mem_of_getElem? hr)
      have HT : Hid (LLof (rs.take (k + 1)) = LLof (rs.take k) ++ [r.L]) := by
        obtain ⟨h1, h2⟩ := List.getElem?_eq_some_iff.1 hr
        unfold Hid LLof
        rw [List.take_succ_eq_append_getElem h1, List.map_append, h2]
        rfl
      have HI := Lib.hid hi
      have HLr := Lib.hid hl
      clear hr hl hi
      obtain ⟨rA, rn, rc, rd, rL⟩ := r
      change _ = some (Value.slice rA rn rc) at hc
      change rn ≤ 1048576 at hrn
      change Hid (Ints wr rA rL) at HI
      change Hid (rL.length = rn) at HLr
      change Hid (LLof (rs.take (k + 1)) = LLof (rs.take k) ++ [rL]) at HT
      subst hA
      have hlt2 : (k : Int) < (n : Int) := by omega
      go_wp2_with fail
      refine (toInt64S_calls rA rn rc rL _ HLr.out hrn HI.out).mono ?_
      rintro e w2 ⟨g, rfl, hg, hrow, hb2⟩
      have hrow2 := hrow.own (B := wr.heap.size) hg (by rw [HLr.out]; exact hrn)
      rw [HLr.out] at hrow2
      have HRo : Hid (Own w.heap.size w2 (some ⟨g, 0, none⟩) rn rn rL) := hrow2.mono hsz
      have HO2 := Lib.hid (HO.out.below hb2)
      have HOld := Lib.hid HO.out.old
      have HB2 := Lib.hid (HBl.out.trans (hb2.mono hsz))
      have hk2 : k < (rk ++ List.replicate (n - k) nilRw).length := by rw [List.length_append, HRK.out, List.length_replicate]; omega
      have HP := Lib.hid (OwnSS.placed (r := ⟨some ⟨g, 0, none⟩, rn, rn, rn, rL⟩) HO2.out hk2 HRo.out (b := wr.heap.size) (fun g' h' => by have h2 : (some (⟨g, 0, none⟩ : Addr)) = some ⟨g', 0, none⟩ := h'; injection h2 with h2; injection h2 with h2; omega) HOld.out)
      obtain ⟨gx, q1, _, hgx, q4⟩ := HO2.out.1.cell k (by omega)
      have q2 := HO2.out.1.frozen rfl k
      simp only [Option.some.injEq, Addr.mk.injEq, and_true] at q1
      subst q1
      have hcc : ∃ u, w2.cell? ⟨w.heap.size, k, none⟩ = some u := ⟨_, q4.trans (List.getElem?_eq_getElem (by rw [HO2.out.1.len]; omega))⟩
      obtain ⟨u4, hcu⟩ := hcc
      clear hrow hrow2 hb2 q4 hk2
      go_wp2
      go_roundw
      case rel =>
        refine ⟨k + 1, by omega, by go_num, ⟨rk ++ [⟨some ⟨g, 0, none⟩, rn, rn, rn, rL⟩], ?_, ?_, ?_⟩, HB2.out.setCell (Nat.le_refl _) _⟩
        · have e : (rk ++ List.replicate (n - k) nilRw).set k ⟨some ⟨g, 0, none⟩, rn, rn, rn, rL⟩ = rk ++ [⟨some ⟨g, 0, none⟩, rn, rn, rn, rL⟩] ++ List.replicate (n - (k + 1)) nilRw := by
            rw [List.set_append_right _ _ (by rw [HRK.out]; exact Nat.le_refl _), HRK.out, Nat.sub_self]
            obtain ⟨j, hj⟩ : ∃ j, n - k = j + 1 := ⟨n - k - 1, by omega⟩
            rw [hj, List.replicate_succ, List.set_cons_zero, List.append_assoc]
            congr 2
            rw [show n - (k + 1) = j by omega]
            rfl
          rw [← e]
          exact HP.out
        · rw [HT.out, ← HLL.out]
          simp [LLof]
        · intro r hr
          rcases List.mem_append.1 hr with hr | hr
          · exact HNN.out r hr
          · rw [List.mem_singleton] at hr
            subst hr
            exact fun e => by cases e
      case measure => simp [intOf]; omega
    · obtain rfl : k = n := by omega
      have e1 : rk ++ List.replicate (k - k) nilRw = rk := by simp
      have e2 : rs.take k = rs := List.take_of_length_le (by rw [HL.out]; exact Nat.le_refl _)
      rw [e1] at HO
      rw [e2] at HLL
      go_wp2
      go_ret
      exact ⟨_, rk, rfl, Nat.le_refl _, HO.out, HLL.out, HNN.out, HBl.out⟩

set_option maxHeartbeats 1000000 in
theorem toHeap_callsN (A : Option Addr) (n c : Nat) (rs : List Rw) (w : World) (hL : rs.length = n) (hn : n ≤ 1048576) (hb : ∀ r ∈ rs, r.n ≤ 1048576) (hI : IntsSS w A rs) :
    Calls Tryd.prog 7 #[.agg #[.slice A n c]] w fun e w' => ∃ g rs', e = .returned (.agg #[.slice (some ⟨g, 0, none⟩) n n]) ∧ w.heap.size ≤ g ∧ OwnSS w.heap.size w' (some ⟨g, 0, none⟩) n n rs' ∧ LLof rs' = LLof rs ∧ (∀ r ∈ rs', r.A ≠ none) ∧ Below w.heap.size w w' := by
  have HL := Lib.hid hL
  have HB := Lib.hid hb
  clear hL hb
  go_enter Tryd.func7, Tryd.ntmps7
  go_wp2_with fail
  have hb0 : Below w.heap.size w (((w.alloc (.cells #[.slice A n c] 24)).alloc (.cells #[.slice none 0 0] 29)).alloc (.cells #[.slice none 0 0] 29)) := (((Below.refl _ _).alloc (Nat.le_refl _) _).alloc (by simp) _).alloc (by simp; omega) _
  have HI0 := Lib.hid (hI.below hb0)
  have HB0 := Lib.hid hb0
  clear hb0
  refine (toInt64SS_callsN A n c rs _ HL.out hn HB.out HI0.out).mono ?_
  rintro e w1 ⟨g, rs', rfl, hg, hO, hLL, hNN, hb⟩
  have HNN := Lib.hid hNN
  clear hNN
  obtain ⟨hc, hf⟩ := keptCells hb
  have hz : w.heap.size + 3 ≤ w1.heap.size := by have := hb.size; simp at this; omega
  have hg' : w.heap.size + 3 ≤ g := by simp at hg; omega
  have HBx := Lib.hid hb
  have HO : Hid (OwnSS (w.heap.size + 3) w1 (some ⟨g, 0, none⟩) n n rs') := hO.mono (by simp)
  have HLL := Lib.hid hLL
  clear hb hO hLL hg
  go_wp2
  refine bodyPost_ret (v := .agg #[.slice (some ⟨g, 0, none⟩) n n]) (by simp [results, Tryd.results7, go_sem, hc]) rfl ⟨g, rs', rfl, by omega, ?_, HLL.out, HNN.out, ?_⟩
  · exact ((HO.out.setOld (by simp) _).setOld (by simp) _).mono (by omega)
  · exact (((HB0.out.trans (HBx.out.mono (by simp; omega))).setCell (by simp; omega) _).setCell (by simp) _)

end Go.Proofs.YtpiglaolofddfaaDoor
