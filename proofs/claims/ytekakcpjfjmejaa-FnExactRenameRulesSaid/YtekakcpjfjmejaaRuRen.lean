/- Contracts: renamed rules, of both sides. -/
import Derived.Test.YtekakcpjfjmejaaRuRenI
namespace Go.Proofs.Ytekakcpjfjmejaa
open Go.RowKit
set_option linter.unusedVariables false

/-- The numbers after so many stores. -/
def rnK (r : Nat → Int) (L : List Int) : Nat → Nat → Int
  | 0 => fun _ => 0
  | n + 1 => fun k => if k = (L[n / 3]?.getD 0).toNat * 3 + (L[n % 3]?.getD 0).toNat then r n else rnK r L n k
def rnR (r : Nat → Int) (L : List Int) : Nat → Int := if (ruB r && permB 3 L) = true then rnK r L 9 else fun _ => 0
def rnC (r : Nat → Int) (L : List Int) : Int := if ruB r = true then (if permB 3 L = true then 0 else 2) else 1
theorem rn_yes {r : Nat → Int} {L : List Int} (h1 : ruB r = true) (h2 : permB 3 L = true) : rnR r L = rnK r L 9 ∧ rnC r L = 0 := by
  unfold rnR rnC
  rw [h1, h2]
  exact ⟨rfl, rfl⟩
theorem rn_no2 {r : Nat → Int} {L : List Int} (h1 : ruB r = true) (h2 : permB 3 L = false) : rnR r L = (fun _ => 0) ∧ rnC r L = 2 := by
  unfold rnR rnC
  rw [h1, h2]
  exact ⟨rfl, rfl⟩
theorem rn_no1 {r : Nat → Int} {L : List Int} (h1 : ruB r = false) : rnR r L = (fun _ => 0) ∧ rnC r L = 1 := by
  unfold rnR rnC
  rw [h1]
  exact ⟨rfl, rfl⟩
theorem rn_rP {r : Nat → Int} {L : List Int} (h1 : ruB r = true) (h2 : permB 3 L = true) : ∀ k, k < 9 → rP (fun i j => alR r (ixV i L) (ixV j L)) ppAll k = rnK r L 9 k := by
  intro k hk
  have hd := ruB_iff r
  rw [h1, decide_eq_true_iff] at hd
  unfold l9 at hd
  simp only [List.cons.injEq, and_true, rP_0, rP_1, rP_2, rP_3, rP_4, rP_5, rP_6, rP_7, rP_8] at hd
  obtain ⟨h0, g1, g2, h3, h4, h5, h6, h7, h8⟩ := hd
  rcases perm3 h2 with rfl | rfl | rfl | rfl | rfl | rfl <;>
  · clear h1 h2
    match k, hk with
    | 0, _ => first | exact (rP_0 _).trans h0.symm | exact (rP_0 _).trans g1.symm | exact (rP_0 _).trans g2.symm | exact (rP_0 _).trans h3.symm | exact (rP_0 _).trans h4.symm | exact (rP_0 _).trans h5.symm | exact (rP_0 _).trans h6.symm | exact (rP_0 _).trans h7.symm | exact (rP_0 _).trans h8.symm
    | 1, _ => first | exact (rP_1 _).trans h0.symm | exact (rP_1 _).trans g1.symm | exact (rP_1 _).trans g2.symm | exact (rP_1 _).trans h3.symm | exact (rP_1 _).trans h4.symm | exact (rP_1 _).trans h5.symm | exact (rP_1 _).trans h6.symm | exact (rP_1 _).trans h7.symm | exact (rP_1 _).trans h8.symm
    | 2, _ => first | exact (rP_2 _).trans h0.symm | exact (rP_2 _).trans g1.symm | exact (rP_2 _).trans g2.symm | exact (rP_2 _).trans h3.symm | exact (rP_2 _).trans h4.symm | exact (rP_2 _).trans h5.symm | exact (rP_2 _).trans h6.symm | exact (rP_2 _).trans h7.symm | exact (rP_2 _).trans h8.symm
    | 3, _ => first | exact (rP_3 _).trans h0.symm | exact (rP_3 _).trans g1.symm | exact (rP_3 _).trans g2.symm | exact (rP_3 _).trans h3.symm | exact (rP_3 _).trans h4.symm | exact (rP_3 _).trans h5.symm | exact (rP_3 _).trans h6.symm | exact (rP_3 _).trans h7.symm | exact (rP_3 _).trans h8.symm
    | 4, _ => first | exact (rP_4 _).trans h0.symm | exact (rP_4 _).trans g1.symm | exact (rP_4 _).trans g2.symm | exact (rP_4 _).trans h3.symm | exact (rP_4 _).trans h4.symm | exact (rP_4 _).trans h5.symm | exact (rP_4 _).trans h6.symm | exact (rP_4 _).trans h7.symm | exact (rP_4 _).trans h8.symm
    | 5, _ => first | exact (rP_5 _).trans h0.symm | exact (rP_5 _).trans g1.symm | exact (rP_5 _).trans g2.symm | exact (rP_5 _).trans h3.symm | exact (rP_5 _).trans h4.symm | exact (rP_5 _).trans h5.symm | exact (rP_5 _).trans h6.symm | exact (rP_5 _).trans h7.symm | exact (rP_5 _).trans h8.symm
    | 6, _ => first | exact (rP_6 _).trans h0.symm | exact (rP_6 _).trans g1.symm | exact (rP_6 _).trans g2.symm | exact (rP_6 _).trans h3.symm | exact (rP_6 _).trans h4.symm | exact (rP_6 _).trans h5.symm | exact (rP_6 _).trans h6.symm | exact (rP_6 _).trans h7.symm | exact (rP_6 _).trans h8.symm
    | 7, _ => first | exact (rP_7 _).trans h0.symm | exact (rP_7 _).trans g1.symm | exact (rP_7 _).trans g2.symm | exact (rP_7 _).trans h3.symm | exact (rP_7 _).trans h4.symm | exact (rP_7 _).trans h5.symm | exact (rP_7 _).trans h6.symm | exact (rP_7 _).trans h7.symm | exact (rP_7 _).trans h8.symm
    | 8, _ => first | exact (rP_8 _).trans h0.symm | exact (rP_8 _).trans g1.symm | exact (rP_8 _).trans g2.symm | exact (rP_8 _).trans h3.symm | exact (rP_8 _).trans h4.symm | exact (rP_8 _).trans h5.symm | exact (rP_8 _).trans h6.symm | exact (rP_8 _).trans h7.symm | exact (rP_8 _).trans h8.symm

set_option maxRecDepth 100000 in
set_option maxHeartbeats 4000000 in
theorem specRenameRules_calls (r : Nat → Int) (A : Option Addr) (n c : Nat) (L : List Int) (w : World) (hL : L.length = n) (hn : n ≤ 1048576) (hI : Ints w A L) :
    Calls Try.prog 21 #[.agg (z9 r), .slice A n c] w fun e w' => e = .returned (.tuple #[.agg (z9 (rnR r L)), .int .i64 (rnC r L)]) ∧ Below w.heap.size w w' := by
  have HL := Lib.hid hL
  have HI := Lib.hid hI
  have X0 := Lib.hid ((Box.new w 25 (z9 r)).alloc (.cells (z9 (fun _ => 0)) 25))
  have HB0 := Lib.hid (((Below.refl w.heap.size w).alloc (Nat.le_refl _) (.cells (z9 r) 25)).alloc (by simp) (.cells (z9 (fun _ => 0)) 25))
  have Q0 : Hid (Box ((w.alloc (.cells (z9 r) 25)).alloc (.cells (z9 (fun _ => 0)) 25)) (w.heap.size + 1) 25 (z9 (fun _ => 0))) := by
    have := Box.new (w.alloc (.cells (z9 r) 25)) 25 (z9 (fun _ => 0))
    rw [World.size_alloc] at this
    exact this
  clear hL hI
  by_cases hr : ruB r = true
  · by_cases hp : permB 3 L = true
    · have HR := Lib.hid hr
      have HP := Lib.hid hp
      have hn3 : n = 3 := by have := perm_len hp; have := HL.out; omega
      subst hn3
      have hat := okTo_at L.length (by unfold permB at hp; rw [Bool.and_eq_true] at hp; exact hp.2)
      have HAT : Hid (∀ j, j < 3 → 0 ≤ L[j]?.getD 0 ∧ L[j]?.getD 0 < 3) := by
        intro j hj
        have := hat j (by rw [HL.out]; exact hj)
        omega
      clear hat
      unfold z9
      go_enter Try.func21, Try.ntmps21
      go_wp2_with fail
      refine (l07Is_calls r _).mono ?_
      rintro e w1 ⟨rfl, hb⟩
      have X1 := Lib.hid (X0.out.below hb X0.out.lt)
      have Q1 := Lib.hid (Q0.out.below hb Q0.out.lt)
      have HB1 := Lib.hid (HB0.out.trans (hb.mono HB0.out.size))
      clear hb X0 Q0 HB0
      go_wp2_with fail
      refine (l01Order_calls 3 A 3 c L _ (by omega) HL.out (by omega) (HI.out.below HB1.out)).mono ?_
      rintro e w2 ⟨rfl, hb⟩
      have hp' : permB ((3 : Nat) : Int) L = true := hp
      have X2 := Lib.hid (X1.out.below hb X1.out.lt)
      have Q2 := Lib.hid (Q1.out.below hb Q1.out.lt)
      have HB2 := Lib.hid (HB1.out.trans (hb.mono HB1.out.size))
      clear hb X1 Q1 HB1
      have hz1 : w.heap.size + 1 < w2.heap.size := Q2.out.lt
      have hz0 : w.heap.size < w2.heap.size := X2.out.lt
      go_wp2
      have O0 : Hid (Box (w2.alloc (.cells (z9 (rnK r L 0)) 25)) w2.heap.size 25 (z9 (rnK r L 0))) := Box.new _ _ _
      have X3 := Lib.hid (X2.out.alloc (.cells (z9 (rnK r L 0)) 25))
      have Q3 := Lib.hid (Q2.out.alloc (.cells (z9 (rnK r L 0)) 25))
      have HB3 := Lib.hid (HB2.out.alloc (by omega) (.cells (z9 (rnK r L 0)) 25))
      change Code.wp _ _ _ _ (w2.alloc (.cells (z9 (rnK r L 0)) 25))
      generalize w2.alloc (.cells (z9 (rnK r L 0)) 25) = w3 at *
      clear X2 Q2 HB2 hr hp hp'
      generalize w2.heap.size = ob at *
      go_loopw [7] (fun i wr => ∃ a : Nat, a ≤ 3 ∧ i = .int .i64 a ∧ Box wr ob 25 (z9 (rnK r L (3 * a))) ∧ Box wr w.heap.size 25 (z9 r) ∧ Box wr (w.heap.size + 1) 25 (z9 (fun _ => 0)) ∧ Below w.heap.size w wr) (fun i _ => 3 - (intOf i).toNat)
      case atStart => exact ⟨0, by omega, rfl, O0.out, X3.out, Q3.out, HB3.out⟩
      case round =>
        obtain ⟨a, ha, rfl, hO, hX, hQ, hB⟩ := hrel
        by_cases hlt : a < 3
        · go_wp2
          go_loopw [8] (fun j wq => ∃ b : Nat, b ≤ 3 ∧ j = .int .i64 b ∧ Box wq ob 25 (z9 (rnK r L (3 * a + b))) ∧ Box wq w.heap.size 25 (z9 r) ∧ Box wq (w.heap.size + 1) 25 (z9 (fun _ => 0)) ∧ Below w.heap.size w wq) (fun j _ => 3 - (intOf j).toNat)
          case atStart => exact ⟨0, by omega, rfl, hO, hX, hQ, hB⟩
          case round =>
            obtain ⟨b, hb, rfl, hO, hX, hQ, hB⟩ := hrel
            by_cases hlb : b < 3
            · have hIq := HI.out.below hB
              obtain ⟨ad, rfl, had, hca⟩ := hIq a (by rw [HL.out]; exact hlt)
              obtain ⟨ad', hadd, had', hcb⟩ := hIq b (by rw [HL.out]; exact hlb)
              cases hadd
              have hla := HAT.out a hlt
              have hlb' := HAT.out b hlb
              have g1 := hX.get9 (k := a * 3 + b) (by omega)
              have g2 := hO.get9 (k := (L[a]?.getD 0).toNat * 3 + (L[b]?.getD 0).toNat) (by omega)
              have g3 := hO.frozen ((L[a]?.getD 0).toNat * 3 + (L[b]?.getD 0).toNat)
              have HO := Lib.hid hO
              have HX := Lib.hid hX
              have HQ := Lib.hid hQ
              have HB := Lib.hid hB
              clear hO hX hQ hB hIq had had'
              go_wp2
              go_region
              go_wp2
              go_roundw
              case rel =>
                refine ⟨b + 1, by omega, by go_num, ?_, (HX.out.draws 1).other (by simp; omega) _, (HQ.out.draws 1).other (by simp; omega) _, (HB.out.drew).setCell (by simp; omega) _⟩
                have := (HO.out.draws 1).setz (k := (L[a]?.getD 0).toNat * 3 + (L[b]?.getD 0).toNat) (by omega) (r (a * 3 + b))
                rwa [show (fun j => if j = (L[a]?.getD 0).toNat * 3 + (L[b]?.getD 0).toNat then r (a * 3 + b) else rnK r L (3 * a + b) j) = rnK r L (3 * a + (b + 1)) by
                  show _ = fun k => if k = (L[(3 * a + b) / 3]?.getD 0).toNat * 3 + (L[(3 * a + b) % 3]?.getD 0).toNat then r (3 * a + b) else rnK r L (3 * a + b) k
                  rw [show (3 * a + b) / 3 = a by omega, show (3 * a + b) % 3 = b by omega, Nat.mul_comm 3 a]] at this
              case measure => simp [intOf]; omega
            · obtain rfl : b = 3 := by omega
              go_wp2
              go_roundw
              case rel => exact ⟨a + 1, by omega, by go_num, hO, hX, hQ, hB⟩
              case measure => simp [intOf]; omega
        · obtain rfl : a = 3 := by omega
          obtain ⟨x0, x1, x2, x3, x4, x5, x6, x7, x8⟩ := hO.nine
          obtain ⟨y0, y1, y2, y3, y4, y5, y6, y7, y8⟩ := hQ.nine
          obtain ⟨f0, f1, f2, f3, f4, f5, f6, f7, f8⟩ := hQ.frozen9
          go_wp2
          have hbx := Lib.hid (hQ.set9 (rnK r L 9))
          have hb9 := Lib.hid (below_set9 hB (b := w.heap.size + 1) (by omega) (rnK r L 9))
          change bodyPost _ _ _ _ _ (set9 wr (w.heap.size + 1) (rnK r L 9))
          generalize set9 wr (w.heap.size + 1) (rnK r L 9) = w9 at *
          refine bodyPost_ret (results_row_tmp rfl _ _ (w.heap.size + 1) 25 (z9 (rnK r L 9)) (0, 0) _ rfl hbx.out Try.underlying25 rfl (by kernel_rfl)) rfl ⟨ret_two' ?_ (rn_yes HR.out HP.out).2, hb9.out⟩
          rw [(rn_yes HR.out HP.out).1]; rfl
    · have hp' : permB 3 L = false := by simpa using hp
      have HR := Lib.hid hr
      have HP := Lib.hid hp'
      unfold z9
      go_enter Try.func21, Try.ntmps21
      go_wp2_with fail
      refine (l07Is_calls r _).mono ?_
      rintro e w1 ⟨rfl, hb⟩
      have Q1 := Lib.hid (Q0.out.below hb Q0.out.lt)
      have HB1 := Lib.hid (HB0.out.trans (hb.mono HB0.out.size))
      clear hb X0 Q0 HB0
      go_wp2_with fail
      refine (l01Order_calls 3 A n c L _ (by omega) HL.out hn (HI.out.below HB1.out)).mono ?_
      rintro e w2 ⟨rfl, hb⟩
      have hp2 : permB ((3 : Nat) : Int) L = false := hp'
      have Q2 := Lib.hid (Q1.out.below hb Q1.out.lt)
      have HB2 := Lib.hid (HB1.out.trans (hb.mono HB1.out.size))
      clear hb Q1 HB1 hp
      obtain ⟨y0, y1, y2, y3, y4, y5, y6, y7, y8⟩ := Q2.out.nine
      obtain ⟨f0, f1, f2, f3, f4, f5, f6, f7, f8⟩ := Q2.out.frozen9
      go_wp2
      have hbx := Lib.hid (Q2.out.set9 (fun _ => 0))
      have hb9 := Lib.hid (below_set9 HB2.out (b := w.heap.size + 1) (by omega) (fun _ => 0))
      change bodyPost _ _ _ _ _ (set9 w2 (w.heap.size + 1) (fun _ => 0))
      generalize set9 w2 (w.heap.size + 1) (fun _ => 0) = w9 at *
      refine bodyPost_ret (results_row_tmp rfl _ _ (w.heap.size + 1) 25 (z9 (fun _ => 0)) (0, 0) _ rfl hbx.out Try.underlying25 rfl (by kernel_rfl)) rfl ⟨ret_two' ?_ (rn_no2 HR.out HP.out).2, hb9.out⟩
      rw [(rn_no2 HR.out HP.out).1]; rfl
  · have hr' : ruB r = false := by simpa using hr
    have HR := Lib.hid hr'
    clear hr
    unfold z9
    go_enter Try.func21, Try.ntmps21
    go_wp2_with fail
    refine (l07Is_calls r _).mono ?_
    rintro e w1 ⟨rfl, hb⟩
    have Q1 := Lib.hid (Q0.out.below hb Q0.out.lt)
    have HB1 := Lib.hid (HB0.out.trans (hb.mono HB0.out.size))
    clear hb X0 Q0 HB0
    obtain ⟨y0, y1, y2, y3, y4, y5, y6, y7, y8⟩ := Q1.out.nine
    obtain ⟨f0, f1, f2, f3, f4, f5, f6, f7, f8⟩ := Q1.out.frozen9
    go_wp2
    have hbx := Lib.hid (Q1.out.set9 (fun _ => 0))
    have hb9 := Lib.hid (below_set9 HB1.out (b := w.heap.size + 1) (by omega) (fun _ => 0))
    change bodyPost _ _ _ _ _ (set9 w1 (w.heap.size + 1) (fun _ => 0))
    generalize set9 w1 (w.heap.size + 1) (fun _ => 0) = w9 at *
    refine bodyPost_ret (results_row_tmp rfl _ _ (w.heap.size + 1) 25 (z9 (fun _ => 0)) (0, 0) _ rfl hbx.out Try.underlying25 rfl (by kernel_rfl)) rfl ⟨ret_two' ?_ (rn_no1 HR.out).2, hb9.out⟩
    rw [(rn_no1 HR.out).1]; rfl

set_option maxRecDepth 100000 in
set_option maxHeartbeats 4000000 in
theorem implRenameRules_calls (r : Nat → Int) (hw : ∀ k, k < 9 → (Lit.int .i64 (r k)).wf = true) (A : Option Addr) (n c : Nat) (L : List Int) (w : World) (hL : L.length = n) (hn : n ≤ 1048576) (hI : Ints w A L) :
    Calls Try.prog 23 #[.agg (z9 r), .slice A n c] w fun e w' => e = .returned (.tuple #[.agg (z9 (rnR r L)), .int .i64 (rnC r L)]) ∧ Below w.heap.size w w' := by
  have HW := Lib.hid hw
  have HL := Lib.hid hL
  have HI := Lib.hid hI
  have X0 := Lib.hid ((Box.new w 25 (z9 r)).alloc (.cells (z9 (fun _ => 0)) 25))
  have HB0 := Lib.hid (((Below.refl w.heap.size w).alloc (Nat.le_refl _) (.cells (z9 r) 25)).alloc (by simp) (.cells (z9 (fun _ => 0)) 25))
  have Q0 : Hid (Box ((w.alloc (.cells (z9 r) 25)).alloc (.cells (z9 (fun _ => 0)) 25)) (w.heap.size + 1) 25 (z9 (fun _ => 0))) := by
    have := Box.new (w.alloc (.cells (z9 r) 25)) 25 (z9 (fun _ => 0))
    rw [World.size_alloc] at this
    exact this
  clear hL hI hw
  by_cases hr : ruB r = true
  · have HR := Lib.hid hr
    have hc := cR_yes hr
    clear hr
    unfold z9
    go_enter Try.func23, Try.ntmps23
    go_wp2_with fail
    refine (codeOfRules_nil r HW.out _).mono ?_
    rintro e w1 ⟨rfl, hb⟩
    rw [hc]
    have X1 := Lib.hid (X0.out.below hb X0.out.lt)
    have Q1 := Lib.hid (Q0.out.below hb Q0.out.lt)
    have HB1 := Lib.hid (HB0.out.trans (hb.mono HB0.out.size))
    clear hb hc X0 Q0 HB0
    go_wp2_with fail
    refine (isPegList_calls 3 A n c L _ (by omega) HL.out hn (HI.out.below HB1.out)).mono ?_
    by_cases hp : permB 3 L = true
    · rw [hp]
      have HP := Lib.hid hp
      have hn3 : n ≤ 1000 := by have := perm_len hp; have := HL.out; omega
      clear hp
      rintro e w2 ⟨rfl, hb⟩
      have X2 := Lib.hid (X1.out.below hb X1.out.lt)
      have Q2 := Lib.hid (Q1.out.below hb Q1.out.lt)
      have HB2 := Lib.hid (HB1.out.trans (hb.mono HB1.out.size))
      clear hb X1 Q1 HB1
      obtain ⟨x0, x1, x2, x3, x4, x5, x6, x7, x8⟩ := X2.out.nine
      go_wp2_with fail
      refine (rulesOfN_calls r A n c L _ HL.out hn3 (HI.out.below HB2.out) HP.out).mono ?_
      rintro e w3 ⟨rfl, hb⟩
      have Q3 := Lib.hid (Q2.out.below hb Q2.out.lt)
      have HB3 := Lib.hid (HB2.out.trans (hb.mono HB2.out.size))
      clear hb Q2 HB2 X2 x0 x1 x2 x3 x4 x5 x6 x7 x8
      rw [z9_congr (rn_rP HR.out HP.out)]
      generalize hq : rnK r L 9 = q
      have HQ := Lib.hid hq
      clear hq
      unfold z9
      obtain ⟨y0, y1, y2, y3, y4, y5, y6, y7, y8⟩ := Q3.out.nine
      obtain ⟨f0, f1, f2, f3, f4, f5, f6, f7, f8⟩ := Q3.out.frozen9
      go_wp2
      have hbx := Lib.hid (Q3.out.set9 q)
      have hb9 := Lib.hid (below_set9 HB3.out (b := w.heap.size + 1) (by omega) q)
      change bodyPost _ _ _ _ _ (set9 w3 (w.heap.size + 1) q)
      generalize set9 w3 (w.heap.size + 1) q = w9 at *
      refine bodyPost_ret (results_row_tmp rfl _ _ (w.heap.size + 1) 25 (z9 q) (0, 0) _ rfl hbx.out Try.underlying25 rfl (by kernel_rfl)) rfl ⟨ret_two' ?_ (rn_yes HR.out HP.out).2, hb9.out⟩
      rw [(rn_yes HR.out HP.out).1, HQ.out]; rfl
    · have hp' : permB 3 L = false := by simpa using hp
      rw [hp']
      have HP := Lib.hid hp'
      clear hp hp'
      rintro e w2 ⟨rfl, hb⟩
      have Q2 := Lib.hid (Q1.out.below hb Q1.out.lt)
      have HB2 := Lib.hid (HB1.out.trans (hb.mono HB1.out.size))
      clear hb X1 Q1 HB1
      obtain ⟨y0, y1, y2, y3, y4, y5, y6, y7, y8⟩ := Q2.out.nine
      obtain ⟨f0, f1, f2, f3, f4, f5, f6, f7, f8⟩ := Q2.out.frozen9
      go_wp2
      have hbx := Lib.hid (Q2.out.set9 (fun _ => 0))
      have hb9 := Lib.hid (below_set9 HB2.out (b := w.heap.size + 1) (by omega) (fun _ => 0))
      change bodyPost _ _ _ _ _ (set9 w2 (w.heap.size + 1) (fun _ => 0))
      generalize set9 w2 (w.heap.size + 1) (fun _ => 0) = w9 at *
      refine bodyPost_ret (results_row_tmp rfl _ _ (w.heap.size + 1) 25 (z9 (fun _ => 0)) (0, 0) _ rfl hbx.out Try.underlying25 rfl (by kernel_rfl)) rfl ⟨ret_two' ?_ (rn_no2 HR.out HP.out).2, hb9.out⟩
      rw [(rn_no2 HR.out HP.out).1]; rfl
  · have hr' : ruB r = false := by simpa using hr
    have HR := Lib.hid hr'
    have hc := cR_no hr'
    clear hr hr'
    unfold z9
    go_enter Try.func23, Try.ntmps23
    go_wp2_with fail
    refine (codeOfRules_nil r HW.out _).mono ?_
    rintro e w1 ⟨rfl, hb⟩
    rw [hc]
    have Q1 := Lib.hid (Q0.out.below hb Q0.out.lt)
    have HB1 := Lib.hid (HB0.out.trans (hb.mono HB0.out.size))
    clear hb hc X0 Q0 HB0
    obtain ⟨y0, y1, y2, y3, y4, y5, y6, y7, y8⟩ := Q1.out.nine
    obtain ⟨f0, f1, f2, f3, f4, f5, f6, f7, f8⟩ := Q1.out.frozen9
    go_wp2
    have hbx := Lib.hid (Q1.out.set9 (fun _ => 0))
    have hb9 := Lib.hid (below_set9 HB1.out (b := w.heap.size + 1) (by omega) (fun _ => 0))
    change bodyPost _ _ _ _ _ (set9 w1 (w.heap.size + 1) (fun _ => 0))
    generalize set9 w1 (w.heap.size + 1) (fun _ => 0) = w9 at *
    refine bodyPost_ret (results_row_tmp rfl _ _ (w.heap.size + 1) 25 (z9 (fun _ => 0)) (0, 0) _ rfl hbx.out Try.underlying25 rfl (by kernel_rfl)) rfl ⟨ret_two' ?_ (rn_no1 HR.out).2, hb9.out⟩
    rw [(rn_no1 HR.out).1]; rfl

end Go.Proofs.Ytekakcpjfjmejaa
