/- 'MovesByRules' of the program answers at every argument as the specification's model, leaves its arguments as they were, and its answer is its own memory. Conditions: none. -/
import Derived.Test.YtglilhnmgfkfhaaOpen
import Derived.Test.YtglilhnmgfkfhaaOpenState
import Derived.Test.YtglilhnmgfkfhaaOpenRu
import Derived.Test.YtglilhnmgfkfhaaMark
import Derived.Test.YtglilhnmgfkfhaaApart
import Derived.Test.YtglilhnmgfkfhaaMvR
import Derived.Deep.RegionHeld3
namespace Go.Proofs.Ytglilhnmgfkfhaa.fnExactMovesByRules
open Go.ChangeShapes Go.WideShapes Go.ChangeAt Go.RowKit Go.Joins
open Go.ChangeMaps (open_string)
set_option linter.unusedVariables false

theorem szI_no {n : Nat} (h : ¬ n ≤ 1048576) : szI n 1048576 = -1 := by unfold szI; omega
theorem szI_yes {n : Nat} (h : n ≤ 1048576) : 0 ≤ szI n 1048576 := by unfold szI; omega
theorem z9_cell {w : World} {b t : Nat} {r : Nat → Int} (h : Box w b t (z9 r)) {i : Nat} (hi : i < 9) : w.cell? ⟨b, i, none⟩ = some (.int .i64 (r i)) := by
  rw [h.cell]
  match i, hi with
  | 0, _ => rfl
  | 1, _ => rfl
  | 2, _ => rfl
  | 3, _ => rfl
  | 4, _ => rfl
  | 5, _ => rfl
  | 6, _ => rfl
  | 7, _ => rfl
  | 8, _ => rfl
theorem cells92 {w : World} {b t b' t' : Nat} {r : Nat → Int} {u v : Value} (h : Box w b t (z9 r)) (h' : Box w b' t' #[u, v]) :
    w.cell? ⟨b, 0, none⟩ = some (.int .i64 (r 0)) ∧ w.cell? ⟨b, 1, none⟩ = some (.int .i64 (r 1)) ∧ w.cell? ⟨b, 2, none⟩ = some (.int .i64 (r 2)) ∧ w.cell? ⟨b, 3, none⟩ = some (.int .i64 (r 3)) ∧ w.cell? ⟨b, 4, none⟩ = some (.int .i64 (r 4)) ∧ w.cell? ⟨b, 5, none⟩ = some (.int .i64 (r 5)) ∧ w.cell? ⟨b, 6, none⟩ = some (.int .i64 (r 6)) ∧ w.cell? ⟨b, 7, none⟩ = some (.int .i64 (r 7)) ∧ w.cell? ⟨b, 8, none⟩ = some (.int .i64 (r 8)) ∧ w.cell? ⟨b', 0, none⟩ = some u ∧ w.cell? ⟨b', 1, none⟩ = some v :=
  ⟨z9_cell h (by omega), z9_cell h (by omega), z9_cell h (by omega), z9_cell h (by omega), z9_cell h (by omega), z9_cell h (by omega), z9_cell h (by omega), z9_cell h (by omega), z9_cell h (by omega), h'.two.1, h'.two.2.1⟩

set_option maxRecDepth 100000 in
set_option maxHeartbeats 8000000 in
theorem core (r : Nat → Int) (p : Int) (A : Option Addr) (n c : Nat) (L : List Int) (E : Int) (LL : List Mv) (nn : Nat) (hnn : nn ≤ 1048576) (hLL : LL.length = nn) (w : World) (hL : L.length = n) (hn : n ≤ 1048576) (hI : Ints w A L)
    (hspec : ∀ g W, Ints W (some ⟨g, 0, none⟩) L → Calls Try.prog 7 #[.agg (z9 r), .agg #[.int .i64 p, .slice (some ⟨g, 0, none⟩) n n]] W (RetMvs W nn LL E))
    (himpl : ∀ g W, Ints W (some ⟨g, 0, none⟩) L → Calls Try.prog 10 #[.agg (z9 r), .agg #[.int .i64 p, .slice (some ⟨g, 0, none⟩) n n]] W (RetMvs W nn LL E)) :
    Calls Try.prog 3 #[.agg (z9 r), .agg #[.int .i64 p, .slice A n c]] w fun e w' => e = .returned (.bool true) ∧ Below w.heap.size w w' := by
  have HS := Lib.hid hspec
  have HP := Lib.hid himpl
  have HL := Lib.hid hL
  have HLL := Lib.hid hLL
  have R0 := Lib.hid ((Box.new w 23 (z9 r)).alloc (.cells #[.int .i64 p, .slice A n c] 26))
  have x0 := Box.new (w.alloc (.cells (z9 r) 23)) 26 #[.int .i64 p, .slice A n c]
  rw [World.size_alloc] at x0
  have X0 := Lib.hid x0
  have HB0 := Lib.hid (((Below.refl w.heap.size w).alloc (Nat.le_refl _) (.cells (z9 r) 23)).alloc (by simp) (.cells #[.int .i64 p, .slice A n c] 26))
  have h0 := szI_yes hn
  obtain ⟨s0, s1, _, _⟩ := X0.out.two
  clear hspec himpl hL hLL x0
  unfold z9 at R0 X0 HB0 s0 s1
  unfold z9
  go_enter Try.func3, Try.ntmps3
  go_wp2_with fail
  refine (szState_calls A n c p 1048576 _ (by omega) (by omega) (by omega)).mono ?_
  rintro e w1 ⟨rfl, hb⟩
  have R1 := Lib.hid (R0.out.below hb R0.out.lt)
  have X1 := Lib.hid (X0.out.below hb X0.out.lt)
  have HB1 := Lib.hid (HB0.out.trans ((hb).mono HB0.out.size))
  clear R0 X0 HB0
  clear hb s0 s1
  have hI2 := Lib.hid (hI.below HB1.out)
  have R2 := R1
  have X2 := X1
  obtain ⟨x0, x1, x2, x3, x4, x5, x6, x7, x8, s0, s1⟩ := cells92 R2.out X2.out
  have zr := R2.out.lt
  have zx := X2.out.lt
  go_wp2_with fail
  go_region_held3 (fun w' => w'.cell? ⟨w.heap.size, 0, none⟩ = some (.int .i64 (r 0)) ∧ w'.cell? ⟨w.heap.size, 1, none⟩ = some (.int .i64 (r 1)) ∧ w'.cell? ⟨w.heap.size, 2, none⟩ = some (.int .i64 (r 2)) ∧ w'.cell? ⟨w.heap.size, 3, none⟩ = some (.int .i64 (r 3)) ∧ w'.cell? ⟨w.heap.size, 4, none⟩ = some (.int .i64 (r 4)) ∧ w'.cell? ⟨w.heap.size, 5, none⟩ = some (.int .i64 (r 5)) ∧ w'.cell? ⟨w.heap.size, 6, none⟩ = some (.int .i64 (r 6)) ∧ w'.cell? ⟨w.heap.size, 7, none⟩ = some (.int .i64 (r 7)) ∧ w'.cell? ⟨w.heap.size, 8, none⟩ = some (.int .i64 (r 8)) ∧ w'.cell? ⟨w.heap.size + 1, 0, none⟩ = some (.int .i64 p) ∧ w'.cell? ⟨w.heap.size + 1, 1, none⟩ = some (.slice A n c))
    (first | exact cells92 R2.out X2.out | exact cells92 R3.out X3.out | exact cells92 R4.out X4.out | exact cells92 R5.out X5.out | go_keep)
    (first
    | (go_at_call 8; refine (toRules_calls r _).mono ?_; rintro e w3 ⟨rfl, hb3⟩; have R3 := Lib.hid (Box.below R2.out (undrew hb3) zr); have X3 := Lib.hid (Box.below X2.out (undrew hb3) zx))
    | (go_at_call 9; refine (toState_calls A n c p L _ HL.out hn ?_).mono ?_; (exact hI2.out.below (undrew hb3)); rintro e w4 ⟨g2, rfl, hg2, hr2, hb4⟩; have R4 := Lib.hid (Box.below R3.out hb4 (Box.lt R3.out)); have X4 := Lib.hid (Box.below X3.out hb4 (Box.lt X3.out)))
    | (go_at_call 7; refine (HS.out g2 _ ?_).mono ?_; (exact hr2.ints); rintro e w5 ⟨A0, c0, rfl, hO, hb5⟩; have R5 := Lib.hid (Box.below R4.out hb5 (Box.lt R4.out)); have X5 := Lib.hid (Box.below X4.out hb5 (Box.lt X4.out))))
  clear x0 x1 x2 x3 x4 x5 x6 x7 x8 s0 s1 zr zx R2 X2 R3 X3 R4 X4 R5 X5 hg2 hr2
  have R2 := Lib.hid (R1.out.below (undrew hb3) R1.out.lt)
  have X2 := Lib.hid (X1.out.below (undrew hb3) X1.out.lt)
  have HB2 := Lib.hid (HB1.out.trans (((undrew hb3)).mono HB1.out.size))
  clear R1 X1 HB1
  have R3 := Lib.hid (R2.out.below hb4 R2.out.lt)
  have X3 := Lib.hid (X2.out.below hb4 X2.out.lt)
  have HB3 := Lib.hid (HB2.out.trans ((hb4).mono HB2.out.size))
  clear R2 X2 HB2
  have R4 := Lib.hid (R3.out.below hb5 R3.out.lt)
  have X4 := Lib.hid (X3.out.below hb5 X3.out.lt)
  have HB4 := Lib.hid (HB3.out.trans ((hb5).mono HB3.out.size))
  clear R3 X3 HB3
  have O0 := Lib.hid hO
  clear hO hb3 hb4 hb5 hI2
  have hI3 := Lib.hid (hI.below HB4.out)
  obtain ⟨s0, s1, _, _⟩ := X4.out.two
  go_wp2_with fail
  refine (toState_calls A n c p L _ HL.out hn hI3.out).mono ?_
  rintro e w6 ⟨g5, rfl, hg5, hr5, hb⟩
  have BV := HB4.out.size
  have hrow := hr5.own (B := w5.heap.size) hg5 (by rw [HL.out]; exact hn)
  rw [HL.out] at hrow
  have AP := Lib.hid (ows_apart O0.out hrow (Nat.le_refl _))
  have APb := Lib.hid (ows_apart_back O0.out hrow (Nat.le_refl _))
  have R5 := Lib.hid (R4.out.below hb R4.out.lt)
  have X5 := Lib.hid (X4.out.below hb X4.out.lt)
  have O1 := Lib.hid (O0.out.below hb)
  have HB5 := Lib.hid (HB4.out.trans ((hb).mono HB4.out.size))
  clear R4 X4 O0 HB4
  have V0 := Lib.hid hrow
  clear hb hg5 hr5 hrow s0 s1 hI3
  have U0 := Lib.hid (Box.new w6 33 #[.int .i64 p, .slice (some ⟨g5, 0, none⟩) n n])
  have hba : Below w6.heap.size w6 (w6.alloc (.cells #[.int .i64 p, .slice (some ⟨g5, 0, none⟩) n n] 33)) := (Below.refl _ w6).alloc (Nat.le_refl _) (.cells #[.int .i64 p, .slice (some ⟨g5, 0, none⟩) n n] 33)
  have R6 := Lib.hid (R5.out.below hba R5.out.lt)
  have X6 := Lib.hid (X5.out.below hba X5.out.lt)
  have O2 := Lib.hid (O1.out.below hba)
  have V1 := Lib.hid (V0.out.below hba)
  have HB6 := Lib.hid (HB5.out.trans ((hba).mono HB5.out.size))
  clear R5 X5 O1 V0 HB5
  clear hba
  have V7 := V1
  obtain ⟨x0, x1, x2, x3, x4, x5, x6, x7, x8, u0, u1⟩ := cells92 R6.out U0.out
  go_wp2_with fail
  generalize hW7 : w6.alloc (.cells #[.int .i64 p, .slice (some ⟨g5, 0, none⟩) n n] 33) = W7 at *
  clear hW7
  generalize w6.heap.size = g8 at *
  clear u0 u1 x0 x1 x2 x3 x4 x5 x6 x7 x8
  have R2 := R6
  have X2 := U0
  obtain ⟨x0, x1, x2, x3, x4, x5, x6, x7, x8, s0, s1⟩ := cells92 R2.out X2.out
  have zr := R2.out.lt
  have zx := X2.out.lt
  go_wp2_with fail
  go_region_held3 (fun w' => w'.cell? ⟨w.heap.size, 0, none⟩ = some (.int .i64 (r 0)) ∧ w'.cell? ⟨w.heap.size, 1, none⟩ = some (.int .i64 (r 1)) ∧ w'.cell? ⟨w.heap.size, 2, none⟩ = some (.int .i64 (r 2)) ∧ w'.cell? ⟨w.heap.size, 3, none⟩ = some (.int .i64 (r 3)) ∧ w'.cell? ⟨w.heap.size, 4, none⟩ = some (.int .i64 (r 4)) ∧ w'.cell? ⟨w.heap.size, 5, none⟩ = some (.int .i64 (r 5)) ∧ w'.cell? ⟨w.heap.size, 6, none⟩ = some (.int .i64 (r 6)) ∧ w'.cell? ⟨w.heap.size, 7, none⟩ = some (.int .i64 (r 7)) ∧ w'.cell? ⟨w.heap.size, 8, none⟩ = some (.int .i64 (r 8)) ∧ w'.cell? ⟨g8, 0, none⟩ = some (.int .i64 p) ∧ w'.cell? ⟨g8, 1, none⟩ = some (.slice (some ⟨g5, 0, none⟩) n n))
    (first | exact cells92 R2.out X2.out | exact cells92 R3.out X3.out | exact cells92 R4.out X4.out | exact cells92 R5.out X5.out | go_keep)
    (first
    | (go_at_call 8; refine (toRules_calls r _).mono ?_; rintro e w3 ⟨rfl, hb3⟩; have R3 := Lib.hid (Box.below R2.out (undrew hb3) zr); have X3 := Lib.hid (Box.below X2.out (undrew hb3) zx))
    | (go_at_call 10; refine (HP.out g5 _ ?_).mono ?_; (exact V7.out.ints.below (undrew hb3)); rintro e w5 ⟨A9, c9, rfl, hQ, hb5⟩; have R4 := Lib.hid (Box.below R3.out hb5 (Box.lt R3.out)); have X4 := Lib.hid (Box.below X3.out hb5 (Box.lt X3.out))))
  clear x0 x1 x2 x3 x4 x5 x6 x7 x8 s0 s1 zr zx R2 X2 R3 X3 R4 X4
  clear V7
  have R7 := Lib.hid (R6.out.below (undrew hb3) R6.out.lt)
  have X7 := Lib.hid (X6.out.below (undrew hb3) X6.out.lt)
  have O3 := Lib.hid (O2.out.below (undrew hb3))
  have V2 := Lib.hid (V1.out.below (undrew hb3))
  have U1 := Lib.hid (U0.out.below (undrew hb3) U0.out.lt)
  have HB7 := Lib.hid (HB6.out.trans (((undrew hb3)).mono HB6.out.size))
  clear R6 X6 O2 V1 U0 HB6
  clear hb3
  have BQ := HB7.out.size
  have AX := Lib.hid (ows_apart V2.out hQ (Nat.le_refl _))
  have AY := Lib.hid (ows_apart_back V2.out hQ (Nat.le_refl _))
  have AZ := Lib.hid (ows_apart O3.out hQ (Nat.le_refl _))
  have AW := Lib.hid (ows_apart_back O3.out hQ (Nat.le_refl _))
  have R8 := Lib.hid (R7.out.below hb5 R7.out.lt)
  have X8 := Lib.hid (X7.out.below hb5 X7.out.lt)
  have O4 := Lib.hid (O3.out.below hb5)
  have V3 := Lib.hid (V2.out.below hb5)
  have U2 := Lib.hid (U1.out.below hb5 U1.out.lt)
  have HB8 := Lib.hid (HB7.out.trans ((hb5).mono HB7.out.size))
  clear R7 X7 O3 V2 U1 HB7
  have Q0 := Lib.hid hQ
  clear hb5 hQ
  go_wp2_with fail
  refine (eqMoveS_calls A9 A0 nn c9 nn c0 LL LL _ HLL.out HLL.out hnn hnn (OwnM.mvs Q0.out) (OwnM.mvs O4.out)).mono ?_
  rintro e w7 ⟨rfl, hbq⟩
  have R9 := Lib.hid (R8.out.below hbq R8.out.lt)
  have X9 := Lib.hid (X8.out.below hbq X8.out.lt)
  have O5 := Lib.hid (O4.out.below hbq)
  have V4 := Lib.hid (V3.out.below hbq)
  have U3 := Lib.hid (U2.out.below hbq U2.out.lt)
  have Q1 := Lib.hid (Q0.out.below hbq)
  have HB9 := Lib.hid (HB8.out.trans ((hbq).mono HB8.out.size))
  clear R8 X8 O4 V3 U2 Q0 HB8
  have hI7 := Lib.hid (hI.below HB9.out)
  have U7 := U3
  have X7 := X9
  have V7 := V4
  obtain ⟨u0, u1, s0, s1⟩ := cells22 U7.out X7.out
  have zu := U7.out.lt
  have zx := X7.out.lt
  go_wp2_with fail
  go_region_held3 (fun w' => w'.cell? ⟨g8, 0, none⟩ = some (.int .i64 p) ∧ w'.cell? ⟨g8, 1, none⟩ = some (.slice (some ⟨g5, 0, none⟩) n n) ∧ w'.cell? ⟨w.heap.size + 1, 0, none⟩ = some (.int .i64 p) ∧ w'.cell? ⟨w.heap.size + 1, 1, none⟩ = some (.slice A n c))
    (first | exact cells22 U7.out X7.out | exact cells22 U8.out X8.out | exact cells22 U9.out X9.out | go_keep)
    (first
    | (go_at_call 9; refine (toState_calls A n c p L _ HL.out hn ?_).mono ?_; (exact hI7.out); rintro e w8 ⟨gr, rfl, hgr, hr8, hb8⟩; have U8 := Lib.hid (Box.below U7.out (undrew hb8) zu); have X8 := Lib.hid (Box.below X7.out (undrew hb8) zx))
    | (go_at_call 12; refine (eqState_calls (some ⟨g5, 0, none⟩) (some ⟨gr, 0, none⟩) n n n n p p L L _ HL.out HL.out hn hn ?_ ?_).mono ?_; (exact V7.out.ints.below (undrew hb8)); (exact hr8.ints); rintro e w9 ⟨rfl, hb9⟩; have U9 := Lib.hid (Box.below U8.out hb9 (Box.lt U8.out)); have X9 := Lib.hid (Box.below X8.out hb9 (Box.lt X8.out))))
  clear U8 X8 U9 X9 u0 u1 s0 s1 zu zx hr8 hgr U7 X7 V7
  have R10 := Lib.hid (R9.out.below (undrew hb8) R9.out.lt)
  have X10 := Lib.hid (X9.out.below (undrew hb8) X9.out.lt)
  have O6 := Lib.hid (O5.out.below (undrew hb8))
  have V5 := Lib.hid (V4.out.below (undrew hb8))
  have U4 := Lib.hid (U3.out.below (undrew hb8) U3.out.lt)
  have Q2 := Lib.hid (Q1.out.below (undrew hb8))
  have HB10 := Lib.hid (HB9.out.trans (((undrew hb8)).mono HB9.out.size))
  clear R9 X9 O5 V4 U3 Q1 HB9
  have R11 := Lib.hid (R10.out.below hb9 R10.out.lt)
  have X11 := Lib.hid (X10.out.below hb9 X10.out.lt)
  have O7 := Lib.hid (O6.out.below hb9)
  have V6 := Lib.hid (V5.out.below hb9)
  have U5 := Lib.hid (U4.out.below hb9 U4.out.lt)
  have Q3 := Lib.hid (Q2.out.below hb9)
  have HB11 := Lib.hid (HB10.out.trans ((hb9).mono HB10.out.size))
  clear R10 X10 O6 V5 U4 Q2 HB10
  clear hb8 hb9 hI7
  obtain ⟨u0, u1, _, _⟩ := U5.out.two
  go_wp2_with fail
  refine (markState_calls _ (some ⟨g5, 0, none⟩) n n p L 1 _ V6.out hn (by omega) (by omega)).mono ?_
  rintro e w10 ⟨rfl, hO, hg⟩
  have R12 := Lib.hid (R11.out.grown hg (V6.out.box_ne R11.out (by decide)))
  have X12 := Lib.hid (X11.out.grown hg (V6.out.box_ne X11.out (by decide)))
  have O8 := Lib.hid (O7.out.kept hg AP.out)
  have U6 := Lib.hid (U5.out.grown hg (V6.out.box_ne U5.out (by decide)))
  have Q4 := Lib.hid (Q3.out.kept hg AY.out)
  have V7 := Lib.hid hO
  have HB12 := Lib.hid (HB11.out.grown hg HB11.out.size (fun k hk => by have h1 := ows_bk V6.out k hk; omega))
  clear R11 X11 O7 V6 U5 Q3 HB11 hO hg
  clear u0 u1
  go_wp2_with fail
  refine (eqMoveS_calls A9 A0 nn c9 nn c0 LL LL _ HLL.out HLL.out hnn hnn (OwnM.mvs Q4.out) (OwnM.mvs O8.out)).mono ?_
  rintro e w7 ⟨rfl, hbq⟩
  have R13 := Lib.hid (R12.out.below hbq R12.out.lt)
  have X13 := Lib.hid (X12.out.below hbq X12.out.lt)
  have O9 := Lib.hid (O8.out.below hbq)
  have Q5 := Lib.hid (Q4.out.below hbq)
  have HB13 := Lib.hid (HB12.out.trans ((hbq).mono HB12.out.size))
  clear R12 X12 O8 Q4 HB12
  go_wp2_with fail
  refine (markMoveS_calls _ A9 nn c9 (mvF LL) 1 _ Q5.out hnn (by omega) (by omega)).mono ?_
  rintro e w12 ⟨rfl, hO, hg⟩
  have R14 := Lib.hid (R13.out.grown hg (Q5.out.box_ne R13.out (by decide)))
  have X14 := Lib.hid (X13.out.grown hg (Q5.out.box_ne X13.out (by decide)))
  have O10 := Lib.hid (O9.out.kept hg AZ.out)
  have Q6 := Lib.hid hO
  have HB14 := Lib.hid (HB13.out.grown hg HB13.out.size (fun k hk => by have h1 := ows_bk Q5.out k hk; omega))
  clear R13 X13 O9 Q5 HB13 hO hg
  go_wp2_with fail
  refine (heldMoveS_calls _ A9 nn c9 1 _ Q6.out hnn (by omega) (by omega)).mono ?_
  rintro e w13 ⟨rfl, hbq⟩
  have R15 := Lib.hid (R14.out.below hbq R14.out.lt)
  have X15 := Lib.hid (X14.out.below hbq X14.out.lt)
  have O11 := Lib.hid (O10.out.below hbq)
  have Q7 := Lib.hid (Q6.out.below hbq)
  have HB15 := Lib.hid (HB14.out.trans ((hbq).mono HB14.out.size))
  clear R14 X14 O10 Q6 HB14
  have hI13 := Lib.hid (hI.below HB15.out)
  have R2 := R15
  have X2 := X15
  obtain ⟨x0, x1, x2, x3, x4, x5, x6, x7, x8, s0, s1⟩ := cells92 R2.out X2.out
  have zr := R2.out.lt
  have zx := X2.out.lt
  go_wp2_with fail
  go_region_held3 (fun w' => w'.cell? ⟨w.heap.size, 0, none⟩ = some (.int .i64 (r 0)) ∧ w'.cell? ⟨w.heap.size, 1, none⟩ = some (.int .i64 (r 1)) ∧ w'.cell? ⟨w.heap.size, 2, none⟩ = some (.int .i64 (r 2)) ∧ w'.cell? ⟨w.heap.size, 3, none⟩ = some (.int .i64 (r 3)) ∧ w'.cell? ⟨w.heap.size, 4, none⟩ = some (.int .i64 (r 4)) ∧ w'.cell? ⟨w.heap.size, 5, none⟩ = some (.int .i64 (r 5)) ∧ w'.cell? ⟨w.heap.size, 6, none⟩ = some (.int .i64 (r 6)) ∧ w'.cell? ⟨w.heap.size, 7, none⟩ = some (.int .i64 (r 7)) ∧ w'.cell? ⟨w.heap.size, 8, none⟩ = some (.int .i64 (r 8)) ∧ w'.cell? ⟨w.heap.size + 1, 0, none⟩ = some (.int .i64 p) ∧ w'.cell? ⟨w.heap.size + 1, 1, none⟩ = some (.slice A n c))
    (first | exact cells92 R2.out X2.out | exact cells92 R3.out X3.out | exact cells92 R4.out X4.out | exact cells92 R5.out X5.out | go_keep)
    (first
    | (go_at_call 8; refine (toRules_calls r _).mono ?_; rintro e w3 ⟨rfl, hb3⟩; have R3 := Lib.hid (Box.below R2.out (undrew hb3) zr); have X3 := Lib.hid (Box.below X2.out (undrew hb3) zx))
    | (go_at_call 9; refine (toState_calls A n c p L _ HL.out hn ?_).mono ?_; (exact hI13.out.below (undrew hb3)); rintro e w4 ⟨g2, rfl, hg2, hr2, hb4⟩; have R4 := Lib.hid (Box.below R3.out hb4 (Box.lt R3.out)); have X4 := Lib.hid (Box.below X3.out hb4 (Box.lt X3.out)))
    | (go_at_call 10; refine (HP.out g2 _ ?_).mono ?_; (exact hr2.ints); rintro e w5 ⟨A14, c14, rfl, hK, hb5⟩; have R5 := Lib.hid (Box.below R4.out hb5 (Box.lt R4.out)); have X5 := Lib.hid (Box.below X4.out hb5 (Box.lt X4.out))))
  clear x0 x1 x2 x3 x4 x5 x6 x7 x8 s0 s1 zr zx R2 X2 R3 X3 R4 X4 R5 X5 hg2 hr2
  have O12 := Lib.hid (O11.out.below (undrew hb3))
  have Q8 := Lib.hid (Q7.out.below (undrew hb3))
  have HB16 := Lib.hid (HB15.out.trans (((undrew hb3)).mono HB15.out.size))
  clear R15 X15 O11 Q7 HB15
  have O13 := Lib.hid (O12.out.below hb4)
  have Q9 := Lib.hid (Q8.out.below hb4)
  have HB17 := Lib.hid (HB16.out.trans ((hb4).mono HB16.out.size))
  clear O12 Q8 HB16
  have O14 := Lib.hid (O13.out.below hb5)
  have Q10 := Lib.hid (Q9.out.below hb5)
  have HB18 := Lib.hid (HB17.out.trans ((hb5).mono HB17.out.size))
  clear O13 Q9 HB17
  have K0 := Lib.hid hK
  clear hK hb3 hb4 hb5 hI13
  go_wp2_with fail
  refine (eqMoveS_calls A14 A0 nn c14 nn c0 LL LL _ HLL.out HLL.out hnn hnn (OwnM.mvs K0.out) (OwnM.mvs O14.out)).mono ?_
  rintro e w7 ⟨rfl, hbq⟩
  have O15 := Lib.hid (O14.out.below hbq)
  have Q11 := Lib.hid (Q10.out.below hbq)
  have K1 := Lib.hid (K0.out.below hbq)
  have HB19 := Lib.hid (HB18.out.trans ((hbq).mono HB18.out.size))
  clear O14 Q10 K0 HB18
  go_wp2_with fail
  refine (heldMoveS_calls _ A9 nn c9 1 _ Q11.out hnn (by omega) (by omega)).mono ?_
  rintro e w13 ⟨rfl, hbq⟩
  have O16 := Lib.hid (O15.out.below hbq)
  have Q12 := Lib.hid (Q11.out.below hbq)
  have K2 := Lib.hid (K1.out.below hbq)
  have HB20 := Lib.hid (HB19.out.trans ((hbq).mono HB19.out.size))
  clear O15 Q11 K1 HB19
  go_wp2
  go_ret
  exact ⟨rfl, by first | exact HB20.out | (rw [← World.drewN_drewN]; exact HB20.out)⟩

theorem walk (r : Nat → Int) (p : Int) (A : Option Addr) (n c : Nat) (L : List Int) (w : World) (hw : ∀ k, k < 9 → (Lit.int .i64 (r k)).wf = true) (w0 : (Lit.int .i64 p).wf = true) (hA : ArgInts w A n L) :
    Calls Try.prog 3 #[.agg (z9 r), .agg #[.int .i64 p, .slice A n c]] w fun e w' => e = .returned (.bool true) ∧ Below w.heap.size w w' := by
  obtain ⟨hL, hm, hI⟩ := hA
  by_cases hn : n ≤ 1048576
  · exact core r p A n c L (cR1 r p L) (mbL r p L) (mbL r p L).length (by exact mbL_len _ _ _) rfl w hL hn hI (fun g W hW => specMovesByRules_ret r (some ⟨g, 0, none⟩) n n p L W hL hn hW) (fun g W hW => implMovesByRules_ret r hw (some ⟨g, 0, none⟩) n n p L W hL hn (Nat.le_refl _) (by omega) hW)
  · have h0 := szI_no hn
    have x0 := Box.new (w.alloc (.cells (z9 r) 23)) 26 #[.int .i64 p, .slice A n c]
    rw [World.size_alloc] at x0
    obtain ⟨s0, s1, _, _⟩ := x0.two
    have HB0 := Lib.hid (((Below.refl w.heap.size w).alloc (Nat.le_refl _) (.cells (z9 r) 23)).alloc (by simp) (.cells #[.int .i64 p, .slice A n c] 26))
    clear x0
    unfold z9 at HB0 s0 s1
    unfold z9
    go_enter Try.func3, Try.ntmps3
    go_wp2_with fail
    refine (szState_calls A n c p 1048576 _ hm (by omega) (by omega)).mono ?_
    rintro e w1 ⟨rfl, hb1⟩
    have HB1 := Lib.hid (HB0.out.trans (hb1.mono HB0.out.size))
    clear hb1
    go_wp2
    go_ret
    exact ⟨rfl, HB1.out⟩

set_option maxRecDepth 100000 in
theorem lifted (os : Os) (started : os.Started) (H : Type) (enc : TypeId × Value → H) :
    ReturnsInHanded {} Try.checked os 3 .any (Rows.fnExactMovesByRulesSpec.pre6 enc Try.prog Try.f3 Rows.fnExactMovesByRulesRow.domain false) (Rows.fnExactMovesByRulesSpec.post enc Try.prog Try.f3 false true false false) := by
  refine returnsInHanded_of_change (C := Try.checked) own started (by kernel_rfl) Try.func3
    (ChangeSpec.witness6 (enc := enc) (C := Try.checked) false ⟨#[], #[.agg #[.int .i64 0, .int .i64 0, .int .i64 0, .int .i64 0, .int .i64 0, .int .i64 0, .int .i64 0, .int .i64 0, .int .i64 0], .agg #[.int .i64 0, .slice none 0 0]], []⟩ 8 (by kernel_rfl) (by kernel_rfl) (by kernel_rfl) (by kernel_rfl)) ?_
  intro W base args ds gs before hval0 hW hcnd _
  have hval : ∀ (j : Nat) t v, Try.f3.params[j]? = some t → args[j]? = some v → Value.okWide Try.prog W .any base t v := hval0
  have hW' := hW
  obtain ⟨p, q, hA0, hV, rfl, hfz, hnd⟩ := hW
  have hA : DataW.TrodAll enc Try.prog W 0 (fun _ => true) true Try.f3.params.toList args.toList ds p := hA0
  rw [Try.params3] at hA hval
  obtain ⟨v0, vs0, d0, ds0, p0, q0, hargs, rfl, rfl, h0, r0⟩ := trodAll_cons hA
  obtain ⟨v1, vs1, d1, ds1, p1, q1, rfl, rfl, rfl, h1, r1⟩ := trodAll_cons r0
  obtain ⟨rfl, rfl, rfl⟩ := trodAll_nil r1
  obtain rfl : args = #[v0, v1] := by cases args; simp_all
  obtain ⟨rfl, rfl⟩ := trodVars_none hV
  have lt0 : ∀ x ∈ p0, x.block < W.heap.size := by obtain ⟨m, hm⟩ := h0; exact DataW.trod_lt m _ _ _ hm
  have k0 := h0
  obtain ⟨R0, rfl, w0⟩ := open_rules (hval 0 23 v0 rfl rfl) h0
  have lt1 : ∀ x ∈ p1, x.block < W.heap.size := by obtain ⟨m, hm⟩ := h1; exact DataW.trod_lt m _ _ _ hm
  have k1 := h1
  obtain ⟨a1, A1, n1, c1, L1, rfl, w1, hAI1⟩ := open_state (hval 1 26 v1 rfl rfl) h1
  clear hA0 hval0
  refine (walk R0 a1 A1 n1 c1 L1 W w0 w1 hAI1).mono fun e W' ⟨he, bel⟩ => ?_
  subst he
  exact ⟨_, rfl, _, _, _, [], _, [], hW', trodAll_mk1 (shut_bool Try.underlying4 _), (trodAll_cons_mk (Below.trod laidOut (by kernel_rfl) (of_decide_eq_true (by kernel_rfl)) k0 bel lt0) (trodAll_cons_mk (Below.trod laidOut (by kernel_rfl) (of_decide_eq_true (by kernel_rfl)) k1 bel lt1) trodAll_mk0)), rfl, bel.frame _, fun h => by cases h⟩

theorem over : Rows.fnExactMovesByRulesRow.holds Try.pinned (OpenSpec.ofChange Rows.fnExactMovesByRulesSpec) :=
  OpenClaim.holds_of_wide 3 Try.f3 rfl rfl rfl rfl rfl rfl rfl ⟨rfl, rfl, rfl, rfl, rfl⟩ rfl rfl rfl rfl rfl (by kernel_rfl) Try.func3 (by kernel_rfl)
    (of_decide_eq_true (by kernel_rfl)) (by unfold Func.isWrapper; first | (rw [if_pos (by decide +kernel)]; kernel_rfl) | (rw [if_neg (by decide +kernel)]; exact ⟨rfl, rfl⟩))
    (fun os started H enc _ => lifted os started H enc)

theorem proved : Rows.FnExactMovesByRulesSaid := over
#print axioms proved
end Go.Proofs.Ytglilhnmgfkfhaa.fnExactMovesByRules
