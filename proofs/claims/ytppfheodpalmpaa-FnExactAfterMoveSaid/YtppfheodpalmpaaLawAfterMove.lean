/- 'AfterMove' of the program answers at every argument as the specification's model, leaves its arguments as they were, and its answer is its own memory. Conditions: none. -/
import Derived.Test.YtppfheodpalmpaaOpen
import Derived.Test.YtppfheodpalmpaaOpenState
import Derived.Test.YtppfheodpalmpaaOpenMove
import Derived.Test.YtppfheodpalmpaaAfter
import Derived.Deep.RegionHeld3
import Derived.Deep.DeepCutAuto
namespace Go.Proofs.Ytppfheodpalmpaa.fnExactAfterMove
open Go.ChangeShapes Go.WideShapes Go.ChangeAt Go.RowKit Go.Joins
open Go.ChangeMaps (open_string)
set_option linter.unusedVariables false

theorem szI_no {n : Nat} (h : ¬ n ≤ 1048576) : szI n 1048576 = -1 := by unfold szI; omega
theorem szI_yes {n : Nat} (h : n ≤ 1048576) : 0 ≤ szI n 1048576 := by unfold szI; omega

theorem own_apart_back {B B' : Nat} {w w' : World} {A A' : Option Addr} {n c n' c' : Nat} {L L' : List Int} (h : Own B w A n c L) (h' : Own B' w' A' n' c' L') (hB : w.heap.size ≤ B') :
    ∀ g, A' = some ⟨g, 0, none⟩ → (Value.slice A n c).ownBlock ≠ some g := by
  intro g hg e
  rcases h.form with ⟨rfl, _⟩ | ⟨g1, rfl, _, hlt⟩
  · simp [Value.ownBlock] at e
  · rcases h'.form with ⟨h1, _⟩ | ⟨g2, h1, hB2, _⟩
    · rw [hg] at h1; simp at h1
    · rw [hg] at h1
      simp only [Option.some.injEq, Addr.mk.injEq, and_true] at h1
      simp only [Value.ownBlock, Option.some.injEq] at e
      omega

/-- What a call of the function leaves: a box with the answer, its list in new memory, all else as it was. -/
def Made (W0 : World) (P : Int) (nn : Nat) (LL : List Int) (E : Int) (t t' : Value) (wc : World) : Prop :=
  ∃ g A c, t = .pointer (some ⟨g, 0, none⟩) ∧ t' = .int .i64 E ∧ Box wc g 29 #[.int .i64 P, .slice A nn c] ∧ Own W0.heap.size wc A nn c LL ∧ Below W0.heap.size W0 wc ∧ W0.heap.size ≤ g

set_option maxRecDepth 100000 in
set_option maxHeartbeats 4000000 in
theorem core (p : Int) (A : Option Addr) (n c : Nat) (L : List Int) (d f t : Int) (P E : Int) (LL : List Int) (nn : Nat) (hnn : nn ≤ 1048576) (hLL : LL.length = nn) (w : World) (hL : L.length = n) (hn : n ≤ 1048576) (hI : Ints w A L)
    (hspec : ∀ g W, Ints W (some ⟨g, 0, none⟩) L → Calls Try.prog 25 #[.agg #[.int .i64 p, .slice (some ⟨g, 0, none⟩) n n], .agg #[.int .i64 d, .int .i64 f, .int .i64 t]] W (RetState W P nn LL E))
    (himpl : ∀ g W, Ints W (some ⟨g, 0, none⟩) L → Calls Try.prog 26 #[.agg #[.int .i64 p, .slice (some ⟨g, 0, none⟩) n n], .agg #[.int .i64 d, .int .i64 f, .int .i64 t]] W (RetState W P nn LL E)) :
    Calls Try.prog 6 #[.agg #[.int .i64 p, .slice A n c], .agg #[.int .i64 d, .int .i64 f, .int .i64 t]] w fun e w' => e = .returned (.bool true) ∧ Below w.heap.size w w' := by
  have HS := Lib.hid hspec
  have HP := Lib.hid himpl
  have HL := Lib.hid hL
  have HLL := Lib.hid hLL
  have hbS : Box ((w.alloc (.cells #[.int .i64 p, .slice A n c] 24)).alloc (.cells #[.int .i64 d, .int .i64 f, .int .i64 t] 37)) w.heap.size 24 #[.int .i64 p, .slice A n c] := (Box.new _ _ _).alloc _
  have hbM : Box ((w.alloc (.cells #[.int .i64 p, .slice A n c] 24)).alloc (.cells #[.int .i64 d, .int .i64 f, .int .i64 t] 37)) (w.heap.size + 1) 37 #[.int .i64 d, .int .i64 f, .int .i64 t] := by
    have := Box.new (w.alloc (.cells #[.int .i64 p, .slice A n c] 24)) 37 #[.int .i64 d, .int .i64 f, .int .i64 t]
    rwa [World.size_alloc] at this
  have hb0 : Below w.heap.size w ((w.alloc (.cells #[.int .i64 p, .slice A n c] 24)).alloc (.cells #[.int .i64 d, .int .i64 f, .int .i64 t] 37)) := ((Below.refl _ _).alloc (Nat.le_refl _) _).alloc (by simp) _
  have X0 := Lib.hid hbS
  have Y0 := Lib.hid hbM
  have HB0 := Lib.hid hb0
  have h0 := szI_yes hn
  clear hbS hbM hb0 hspec himpl hL hLL
  go_enter Try.func6, Try.ntmps6
  go_wp2_with fail
  refine (szState_calls A n c p 1048576 _ (by omega) (by omega) (by omega)).mono ?_
  rintro e w1 ⟨rfl, hb1⟩
  have X1 := Lib.hid (X0.out.below hb1 (by simp; omega))
  have Y1 := Lib.hid (Y0.out.below hb1 (by simp))
  have HB1 := Lib.hid (HB0.out.trans (hb1.mono (by simp; omega)))
  clear hb1 X0 Y0 HB0
  have hI1 := Lib.hid (hI.below HB1.out)
  obtain ⟨s0, s1, m0, m1, m2⟩ := cells23 X1.out Y1.out
  go_upto_region 5 with (fail)
  go_cut [6, 7] (fun t6 t7 wc => Made w1 P nn LL E t6 t7 wc)
  case first =>
      have hxa0 := Nat.ne_of_lt (Box.lt X1.out)
      have hya0 := Nat.ne_of_lt (Box.lt Y1.out)
      go_region_held3 (fun w' => w'.cell? ⟨w.heap.size, 0, none⟩ = some (.int .i64 p) ∧ w'.cell? ⟨w.heap.size, 1, none⟩ = some (.slice A n c) ∧ w'.cell? ⟨w.heap.size + 1, 0, none⟩ = some (.int .i64 d) ∧ w'.cell? ⟨w.heap.size + 1, 1, none⟩ = some (.int .i64 f) ∧ w'.cell? ⟨w.heap.size + 1, 2, none⟩ = some (.int .i64 t))
        (first | exact cells23 X1.out Y1.out | exact cells23 (X1.out.alloc _) (Y1.out.alloc _) | exact cells23 Xa1.out Ya1.out | exact cells23 (Xa1.out.alloc _) (Ya1.out.alloc _) | exact cells23 Xa2.out Ya2.out | exact cells23 (Xa2.out.alloc _) (Ya2.out.alloc _) | exact cells23 Xa3.out Ya3.out | exact cells23 (Xa3.out.alloc _) (Ya3.out.alloc _) | (refine cells23 (Box.other (Box.other Xa3.out ?_ _) ?_ _) (Box.other (Box.other Ya3.out ?_ _) ?_ _) <;> (first | exact hxa0 | exact hya0 | exact hxa1 | exact hya1 | exact hxa2 | exact hya2)) | go_keep)
        (first
        | (go_at_call 10; refine (toState_calls A n c p L _ HL.out hn ?_).mono ?_; (first | exact hI1.out | exact Ints.below (w := w1) hI1.out (Below.drew (Below.alloc (Below.refl _ w1) (Nat.le_refl _) (.cells #[.int .i64 0, .slice none 0 0] 29)))); rintro e wa1 ⟨ga1, rfl, hga1, hra1, hba1⟩; (first | (have Xa1 := Lib.hid (Box.below X1.out (undrew hba1) (Box.lt X1.out)); have Ya1 := Lib.hid (Box.below Y1.out (undrew hba1) (Box.lt Y1.out))) | (have Xa1 := Lib.hid (Box.below (Box.alloc X1.out (.cells #[.int .i64 0, .slice none 0 0] 29)) (undrew hba1) (Box.lt (Box.alloc X1.out (.cells #[.int .i64 0, .slice none 0 0] 29)))); have Ya1 := Lib.hid (Box.below (Box.alloc Y1.out (.cells #[.int .i64 0, .slice none 0 0] 29)) (undrew hba1) (Box.lt (Box.alloc Y1.out (.cells #[.int .i64 0, .slice none 0 0] 29)))); have Na1 := Lib.hid (Box.below (Box.new w1 29 #[.int .i64 0, .slice none 0 0]) (undrew hba1) (Box.lt (Box.new w1 _ _))))); have hxa1 := Nat.ne_of_lt (Box.lt Xa1.out); have hya1 := Nat.ne_of_lt (Box.lt Ya1.out))
        | (go_at_call 18; refine (toMove_calls d f t _).mono ?_; rintro e wa2 ⟨rfl, hba2⟩; (first | (have Xa2 := Lib.hid (Box.below Xa1.out hba2 (Box.lt Xa1.out)); have Ya2 := Lib.hid (Box.below Ya1.out hba2 (Box.lt Ya1.out)); try (have Na2 := Lib.hid (Box.below Na1.out hba2 (Box.lt Na1.out)))) | (have Xa2 := Lib.hid (Box.below (Box.alloc Xa1.out (.cells #[.int .i64 0, .slice none 0 0] 29)) hba2 (Box.lt (Box.alloc Xa1.out (.cells #[.int .i64 0, .slice none 0 0] 29)))); have Ya2 := Lib.hid (Box.below (Box.alloc Ya1.out (.cells #[.int .i64 0, .slice none 0 0] 29)) hba2 (Box.lt (Box.alloc Ya1.out (.cells #[.int .i64 0, .slice none 0 0] 29)))); have Na2 := Lib.hid (Box.below (Box.new wa1 29 #[.int .i64 0, .slice none 0 0]) hba2 (Box.lt (Box.new wa1 _ _))))); have hxa2 := Nat.ne_of_lt (Box.lt Xa2.out); have hya2 := Nat.ne_of_lt (Box.lt Ya2.out))
        | (go_at_call 25; refine (HS.out ga1 _ ?_).mono ?_; (first | exact hra1.ints.below hba2 | exact (hra1.ints.below ((Below.refl _ wa1).alloc (Nat.le_refl _) (.cells #[.int .i64 0, .slice none 0 0] 29))).below hba2 | exact (hra1.ints.below hba2).below ((Below.refl _ wa2).alloc (Nat.le_refl _) (.cells #[.int .i64 0, .slice none 0 0] 29))); rintro e wa3 ⟨Aa, ca, rfl, hOa, hba3⟩; (first | (have Xa3 := Lib.hid (Box.below Xa2.out hba3 (Box.lt Xa2.out)); have Ya3 := Lib.hid (Box.below Ya2.out hba3 (Box.lt Ya2.out)); try (have Na3 := Lib.hid (Box.below Na2.out hba3 (Box.lt Na2.out)))) | (have Xa3 := Lib.hid (Box.below (Box.alloc Xa2.out (.cells #[.int .i64 0, .slice none 0 0] 29)) hba3 (Box.lt (Box.alloc Xa2.out (.cells #[.int .i64 0, .slice none 0 0] 29)))); have Ya3 := Lib.hid (Box.below (Box.alloc Ya2.out (.cells #[.int .i64 0, .slice none 0 0] 29)) hba3 (Box.lt (Box.alloc Ya2.out (.cells #[.int .i64 0, .slice none 0 0] 29)))); have Na3 := Lib.hid (Box.below (Box.new wa2 29 #[.int .i64 0, .slice none 0 0]) hba3 (Box.lt (Box.new wa2 _ _))))); have hxa3 := Nat.ne_of_lt (Box.lt Xa3.out); have hya3 := Nat.ne_of_lt (Box.lt Ya3.out); try (obtain ⟨n0, n1, nf0, nf1⟩ := Na3.out.two)))
      all_goals
        go_wp2_with fail
        go_meet
        case rel =>
          refine ⟨_, Aa, ca, rfl, rfl, ?_, ?_, ?_, ?_⟩
          · first | exact Box.new wa3 _ _ | exact (Na3.out.set 0 _).set 1 _
          · have q1 := Below.size (undrew hba1)
            have q2 := Below.size hba2
            have q3 := Below.size hba3
            try simp only [World.size_alloc] at q1
            try simp only [World.size_alloc] at q2
            try simp only [World.size_alloc] at q3
            first | exact (hOa.below ((Below.refl _ wa3).alloc (Nat.le_refl _) _)).mono (by first | omega | (simp; done) | (simp; omega)) | exact ((hOa.setBoxed Na3.out (by decide) _ _).setBoxed (Na3.out.set _ _) (by decide) _ _).mono (by first | omega | (simp; done) | (simp; omega))
          · have q1 := Below.size (undrew hba1)
            have q2 := Below.size hba2
            have q3 := Below.size hba3
            try simp only [World.size_alloc] at q1
            try simp only [World.size_alloc] at q2
            try simp only [World.size_alloc] at q3
            first | refine Below.alloc ?_ (by omega) _ | refine Below.setCell (Below.setCell ?_ (by first | omega | (simp; done) | (simp; omega)) _) (by first | omega | (simp; done) | (simp; omega)) _
            refine Below.trans ?_ (hba3.mono (by first | omega | (simp; done) | (simp; omega)))
            try refine Below.alloc ?_ (by omega) _
            refine Below.trans ?_ (hba2.mono (by first | omega | (simp; done) | (simp; omega)))
            try refine Below.alloc ?_ (by omega) _
            refine Below.trans ?_ ((undrew hba1).mono (by first | omega | (simp; done) | (simp; omega)))
            first | exact Below.refl _ _ | exact Below.alloc (Below.refl _ _) (Nat.le_refl _) _
          · have q1 := Below.size (undrew hba1)
            have q2 := Below.size hba2
            have q3 := Below.size hba3
            try simp only [World.size_alloc] at q1
            try simp only [World.size_alloc] at q2
            try simp only [World.size_alloc] at q3
            omega
  case rest =>
    obtain ⟨g6, A0, c0, rfl, rfl, hZ, hO0, hbel, hg6⟩ := hcut
    have X4 := Lib.hid (X1.out.below hbel X1.out.lt)
    have Y4 := Lib.hid (Y1.out.below hbel Y1.out.lt)
    have Z4 := Lib.hid hZ
    have O4 := Lib.hid hO0
    have HB4 := Lib.hid (HB1.out.trans (hbel.mono HB1.out.size))
    have zc := HB4.out.size
    clear hZ hO0 hbel s0 s1 m0 m1 m2 X1 Y1 HB1 hI1
    have hI4 := Lib.hid (hI.below HB4.out)
    obtain ⟨s0, s1, _, _⟩ := X4.out.two
    go_wp2_with fail
    refine (toState_calls A n c p L _ HL.out hn hI4.out).mono ?_
    rintro e w5 ⟨g5, rfl, hg5, hr5, hb5⟩
    have X5 := Lib.hid ((X4.out.below hb5 X4.out.lt).alloc (.cells #[.int .i64 p, .slice (some ⟨g5, 0, none⟩) n n] 29))
    have Y5 := Lib.hid ((Y4.out.below hb5 Y4.out.lt).alloc (.cells #[.int .i64 p, .slice (some ⟨g5, 0, none⟩) n n] 29))
    have Z5 := Lib.hid ((Z4.out.below hb5 Z4.out.lt).alloc (.cells #[.int .i64 p, .slice (some ⟨g5, 0, none⟩) n n] 29))
    have U5 := Lib.hid (Box.new w5 29 #[.int .i64 p, .slice (some ⟨g5, 0, none⟩) n n])
    have O5 := Lib.hid ((O4.out.below hb5).below ((Below.refl _ w5).alloc (Nat.le_refl _) (.cells #[.int .i64 p, .slice (some ⟨g5, 0, none⟩) n n] 29)))
    have hrow := hr5.own (B := wc.heap.size) hg5 (by rw [HL.out]; exact hn)
    rw [HL.out] at hrow
    have AP := Lib.hid (own_apart O4.out hrow (Nat.le_refl _))
    have V5 := Lib.hid (hrow.below ((Below.refl _ w5).alloc (Nat.le_refl _) (.cells #[.int .i64 p, .slice (some ⟨g5, 0, none⟩) n n] 29)))
    have HB5 := Lib.hid ((HB4.out.trans (hb5.mono HB4.out.size)).alloc (Nat.le_trans HB4.out.size hb5.size) (.cells #[.int .i64 p, .slice (some ⟨g5, 0, none⟩) n n] 29))
    have I5 := Lib.hid V5.out.ints
    clear hb5 hrow hr5 hg5 s0 s1 X4 Y4 Z4 O4 HB4 hI4
    obtain ⟨u0, u1, m0, m1, m2⟩ := cells23 U5.out Y5.out
    go_upto_region 7 with (fail)
    have z5 := HB5.out.size
    generalize hW5 : w5.alloc (.cells #[.int .i64 p, .slice (some ⟨g5, 0, none⟩) n n] 29) = W5 at *
    clear hW5
    generalize hg8 : w5.heap.size = g8 at *
    clear hg8
    go_cut [9, 10] (fun t9 t10 wd => Made W5 P nn LL E t9 t10 wd)
    case first =>
        have hxb0 := Nat.ne_of_lt (Box.lt U5.out)
        have hyb0 := Nat.ne_of_lt (Box.lt Y5.out)
        go_region_held3 (fun w' => w'.cell? ⟨g8, 0, none⟩ = some (.int .i64 p) ∧ w'.cell? ⟨g8, 1, none⟩ = some (.slice (some ⟨g5, 0, none⟩) n n) ∧ w'.cell? ⟨w.heap.size + 1, 0, none⟩ = some (.int .i64 d) ∧ w'.cell? ⟨w.heap.size + 1, 1, none⟩ = some (.int .i64 f) ∧ w'.cell? ⟨w.heap.size + 1, 2, none⟩ = some (.int .i64 t))
          (first | exact cells23 U5.out Y5.out | exact cells23 (U5.out.alloc _) (Y5.out.alloc _) | exact cells23 Xb1.out Yb1.out | exact cells23 (Xb1.out.alloc _) (Yb1.out.alloc _) | exact cells23 Xb2.out Yb2.out | exact cells23 (Xb2.out.alloc _) (Yb2.out.alloc _) | (refine cells23 (Box.other (Box.other Xb2.out ?_ _) ?_ _) (Box.other (Box.other Yb2.out ?_ _) ?_ _) <;> (first | exact hxb0 | exact hyb0 | exact hxb1 | exact hyb1)) | go_keep)
          (first
          | (go_at_call 18; refine (toMove_calls d f t _).mono ?_; rintro e wb1 ⟨rfl, hbb1⟩; (first | (have Xb1 := Lib.hid (Box.below U5.out (undrew hbb1) (Box.lt U5.out)); have Yb1 := Lib.hid (Box.below Y5.out (undrew hbb1) (Box.lt Y5.out))) | (have Xb1 := Lib.hid (Box.below (Box.alloc U5.out (.cells #[.int .i64 0, .slice none 0 0] 29)) (undrew hbb1) (Box.lt (Box.alloc U5.out (.cells #[.int .i64 0, .slice none 0 0] 29)))); have Yb1 := Lib.hid (Box.below (Box.alloc Y5.out (.cells #[.int .i64 0, .slice none 0 0] 29)) (undrew hbb1) (Box.lt (Box.alloc Y5.out (.cells #[.int .i64 0, .slice none 0 0] 29)))); have Nb1 := Lib.hid (Box.below (Box.new W5 29 #[.int .i64 0, .slice none 0 0]) (undrew hbb1) (Box.lt (Box.new W5 _ _))))); have hxb1 := Nat.ne_of_lt (Box.lt Xb1.out); have hyb1 := Nat.ne_of_lt (Box.lt Yb1.out))
          | (go_at_call 26; refine (HP.out g5 _ ?_).mono ?_; (first | exact I5.out.below (undrew hbb1) | exact (I5.out.below ((Below.refl _ W5).alloc (Nat.le_refl _) (.cells #[.int .i64 0, .slice none 0 0] 29))).below (undrew hbb1) | exact (I5.out.below (undrew hbb1)).below ((Below.refl _ wb1).alloc (Nat.le_refl _) (.cells #[.int .i64 0, .slice none 0 0] 29))); rintro e wb2 ⟨Ab, cb, rfl, hOb, hbb2⟩; (first | (have Xb2 := Lib.hid (Box.below Xb1.out hbb2 (Box.lt Xb1.out)); have Yb2 := Lib.hid (Box.below Yb1.out hbb2 (Box.lt Yb1.out)); try (have Nb2 := Lib.hid (Box.below Nb1.out hbb2 (Box.lt Nb1.out)))) | (have Xb2 := Lib.hid (Box.below (Box.alloc Xb1.out (.cells #[.int .i64 0, .slice none 0 0] 29)) hbb2 (Box.lt (Box.alloc Xb1.out (.cells #[.int .i64 0, .slice none 0 0] 29)))); have Yb2 := Lib.hid (Box.below (Box.alloc Yb1.out (.cells #[.int .i64 0, .slice none 0 0] 29)) hbb2 (Box.lt (Box.alloc Yb1.out (.cells #[.int .i64 0, .slice none 0 0] 29)))); have Nb2 := Lib.hid (Box.below (Box.new wb1 29 #[.int .i64 0, .slice none 0 0]) hbb2 (Box.lt (Box.new wb1 _ _))))); have hxb2 := Nat.ne_of_lt (Box.lt Xb2.out); have hyb2 := Nat.ne_of_lt (Box.lt Yb2.out); try (obtain ⟨n0, n1, nf0, nf1⟩ := Nb2.out.two)))
        all_goals
          go_wp2_with fail
          go_meet
          case rel =>
            refine ⟨_, Ab, cb, rfl, rfl, ?_, ?_, ?_, ?_⟩
            · first | exact Box.new wb2 _ _ | exact (Nb2.out.set 0 _).set 1 _
            · have q1 := Below.size (undrew hbb1)
              have q2 := Below.size hbb2
              try simp only [World.size_alloc] at q1
              try simp only [World.size_alloc] at q2
              first | exact (hOb.below ((Below.refl _ wb2).alloc (Nat.le_refl _) _)).mono (by first | omega | (simp; done) | (simp; omega)) | exact ((hOb.setBoxed Nb2.out (by decide) _ _).setBoxed (Nb2.out.set _ _) (by decide) _ _).mono (by first | omega | (simp; done) | (simp; omega))
            · have q1 := Below.size (undrew hbb1)
              have q2 := Below.size hbb2
              try simp only [World.size_alloc] at q1
              try simp only [World.size_alloc] at q2
              first | refine Below.alloc ?_ (by omega) _ | refine Below.setCell (Below.setCell ?_ (by first | omega | (simp; done) | (simp; omega)) _) (by first | omega | (simp; done) | (simp; omega)) _
              refine Below.trans ?_ (hbb2.mono (by first | omega | (simp; done) | (simp; omega)))
              try refine Below.alloc ?_ (by omega) _
              refine Below.trans ?_ ((undrew hbb1).mono (by first | omega | (simp; done) | (simp; omega)))
              first | exact Below.refl _ _ | exact Below.alloc (Below.refl _ _) (Nat.le_refl _) _
            · have q1 := Below.size (undrew hbb1)
              have q2 := Below.size hbb2
              try simp only [World.size_alloc] at q1
              try simp only [World.size_alloc] at q2
              omega
    case rest =>
      obtain ⟨g9, A9, c9, rfl, rfl, hT, hO9, hbel, hg9⟩ := hcut
      have AX := Lib.hid (own_apart V5.out hO9 (Nat.le_refl _))
      have AY := Lib.hid (own_apart_back V5.out hO9 (Nat.le_refl _))
      have AZ := Lib.hid (own_apart O5.out hO9 (Nat.le_refl _))
      have T6 := Lib.hid hT
      have Q6 := Lib.hid hO9
      have X6 := Lib.hid (X5.out.below hbel X5.out.lt)
      have Y6 := Lib.hid (Y5.out.below hbel Y5.out.lt)
      have Z6 := Lib.hid (Z5.out.below hbel Z5.out.lt)
      have U6 := Lib.hid (U5.out.below hbel U5.out.lt)
      have O6 := Lib.hid (O5.out.below hbel)
      have V6 := Lib.hid (V5.out.below hbel)
      have HB6 := Lib.hid (HB5.out.trans ((hbel).mono HB5.out.size))
      clear X5 Y5 Z5 U5 O5 V5 HB5
      clear hT hO9 hbel u0 u1 m0 m1 m2 I5
      obtain ⟨a0, a1, b0, b1⟩ := cells22 T6.out Z6.out
      go_wp2_with fail
      refine (eqState_calls A9 A0 nn c9 nn c0 P P LL LL _ HLL.out HLL.out hnn hnn Q6.out.ints O6.out.ints).mono ?_
      rintro e w6 ⟨rfl, hb⟩
      have X7 := Lib.hid (X6.out.below hb X6.out.lt)
      have Y7 := Lib.hid (Y6.out.below hb Y6.out.lt)
      have Z7 := Lib.hid (Z6.out.below hb Z6.out.lt)
      have U7 := Lib.hid (U6.out.below hb U6.out.lt)
      have T7 := Lib.hid (T6.out.below hb T6.out.lt)
      have O7 := Lib.hid (O6.out.below hb)
      have V7 := Lib.hid (V6.out.below hb)
      have Q7 := Lib.hid (Q6.out.below hb)
      have HB7 := Lib.hid (HB6.out.trans ((hb).mono HB6.out.size))
      clear X6 Y6 Z6 U6 T6 O6 V6 Q6 HB6
      clear hb a0 a1 b0 b1
      have hI7 := Lib.hid (hI.below HB7.out)
      obtain ⟨u0, u1, s0, s1⟩ := cells22 U7.out X7.out
      have zu := U7.out.lt
      have zx := X7.out.lt
      go_wp2_with fail
      go_region_held3 (fun w' => w'.cell? ⟨g8, 0, none⟩ = some (.int .i64 p) ∧ w'.cell? ⟨g8, 1, none⟩ = some (.slice (some ⟨g5, 0, none⟩) n n) ∧ w'.cell? ⟨w.heap.size, 0, none⟩ = some (.int .i64 p) ∧ w'.cell? ⟨w.heap.size, 1, none⟩ = some (.slice A n c))
        (first | exact cells22 U7.out X7.out | exact cells22 U8.out X8.out | exact cells22 U9.out X9.out | go_keep)
        (first
        | (go_at_call 10; refine (toState_calls A n c p L _ HL.out hn ?_).mono ?_; (exact hI7.out); rintro e w8 ⟨gr, rfl, hgr, hr8, hb8⟩; have U8 := Lib.hid (Box.below U7.out (undrew hb8) zu); have X8 := Lib.hid (Box.below X7.out (undrew hb8) zx))
        | (go_at_call 13; refine (eqState_calls (some ⟨g5, 0, none⟩) (some ⟨gr, 0, none⟩) n n n n p p L L _ HL.out HL.out hn hn ?_ ?_).mono ?_; (exact V7.out.ints.below (undrew hb8)); (exact hr8.ints); rintro e w9 ⟨rfl, hb9⟩; have U9 := Lib.hid (Box.below U8.out hb9 (Box.lt U8.out)); have X9 := Lib.hid (Box.below X8.out hb9 (Box.lt X8.out))))
      clear U8 X8 U9 X9 u0 u1 s0 s1 zu zx hr8 hgr
      have X8 := Lib.hid (X7.out.below (undrew hb8) X7.out.lt)
      have Y8 := Lib.hid (Y7.out.below (undrew hb8) Y7.out.lt)
      have Z8 := Lib.hid (Z7.out.below (undrew hb8) Z7.out.lt)
      have U8 := Lib.hid (U7.out.below (undrew hb8) U7.out.lt)
      have T8 := Lib.hid (T7.out.below (undrew hb8) T7.out.lt)
      have O8 := Lib.hid (O7.out.below (undrew hb8))
      have V8 := Lib.hid (V7.out.below (undrew hb8))
      have Q8 := Lib.hid (Q7.out.below (undrew hb8))
      have HB8 := Lib.hid (HB7.out.trans (((undrew hb8)).mono HB7.out.size))
      clear X7 Y7 Z7 U7 T7 O7 V7 Q7 HB7
      have X9 := Lib.hid (X8.out.below hb9 X8.out.lt)
      have Y9 := Lib.hid (Y8.out.below hb9 Y8.out.lt)
      have Z9 := Lib.hid (Z8.out.below hb9 Z8.out.lt)
      have U9 := Lib.hid (U8.out.below hb9 U8.out.lt)
      have T9 := Lib.hid (T8.out.below hb9 T8.out.lt)
      have O9 := Lib.hid (O8.out.below hb9)
      have V9 := Lib.hid (V8.out.below hb9)
      have Q9 := Lib.hid (Q8.out.below hb9)
      have HB9 := Lib.hid (HB8.out.trans ((hb9).mono HB8.out.size))
      clear X8 Y8 Z8 U8 T8 O8 V8 Q8 HB8
      clear hb8 hb9 hI7
      obtain ⟨u0, u1, _, _⟩ := U9.out.two
      go_wp2_with fail
      refine (markState_calls _ (some ⟨g5, 0, none⟩) n n p L 1 _ V9.out hn (by omega) (by omega)).mono ?_
      rintro e w10 ⟨rfl, hO, hg⟩
      have X10 := Lib.hid (X9.out.grown hg (V9.out.box_ne X9.out (by decide)))
      have Y10 := Lib.hid (Y9.out.grown hg (V9.out.box_ne Y9.out (by decide)))
      have Z10 := Lib.hid (Z9.out.grown hg (V9.out.box_ne Z9.out (by decide)))
      have U10 := Lib.hid (U9.out.grown hg (V9.out.box_ne U9.out (by decide)))
      have T10 := Lib.hid (T9.out.grown hg (V9.out.box_ne T9.out (by decide)))
      have O10 := Lib.hid (O9.out.kept hg AP.out)
      have Q10 := Lib.hid (Q9.out.kept hg AY.out)
      have V10 := Lib.hid hO
      have HB10 := Lib.hid (HB9.out.grown hg HB9.out.size (fun k hk => by have h1 := own_bk V9.out k hk; omega))
      clear X9 Y9 Z9 U9 T9 O9 V9 Q9 HB9 hO hg
      clear u0 u1
      obtain ⟨a0, a1, b0, b1⟩ := cells22 T10.out Z10.out
      go_wp2_with fail
      refine (eqState_calls A9 A0 nn c9 nn c0 P P LL LL _ HLL.out HLL.out hnn hnn Q10.out.ints O10.out.ints).mono ?_
      rintro e w11 ⟨rfl, hb⟩
      have X11 := Lib.hid (X10.out.below hb X10.out.lt)
      have Y11 := Lib.hid (Y10.out.below hb Y10.out.lt)
      have Z11 := Lib.hid (Z10.out.below hb Z10.out.lt)
      have T11 := Lib.hid (T10.out.below hb T10.out.lt)
      have O11 := Lib.hid (O10.out.below hb)
      have Q11 := Lib.hid (Q10.out.below hb)
      have HB11 := Lib.hid (HB10.out.trans ((hb).mono HB10.out.size))
      clear X10 Y10 Z10 T10 O10 Q10 HB10
      clear hb a0 a1 b0 b1 U10 V10
      obtain ⟨a0, a1, _, _⟩ := T11.out.two
      go_wp2_with fail
      refine (markState_calls _ A9 nn c9 P LL 1 _ Q11.out hnn (by omega) (by omega)).mono ?_
      rintro e w12 ⟨rfl, hO, hg⟩
      have X12 := Lib.hid (X11.out.grown hg (Q11.out.box_ne X11.out (by decide)))
      have Y12 := Lib.hid (Y11.out.grown hg (Q11.out.box_ne Y11.out (by decide)))
      have Z12 := Lib.hid (Z11.out.grown hg (Q11.out.box_ne Z11.out (by decide)))
      have T12 := Lib.hid (T11.out.grown hg (Q11.out.box_ne T11.out (by decide)))
      have O12 := Lib.hid (O11.out.kept hg AZ.out)
      have Q12 := Lib.hid hO
      have HB12 := Lib.hid (HB11.out.grown hg HB11.out.size (fun k hk => by have h1 := own_bk Q11.out k hk; omega))
      clear X11 Y11 Z11 T11 O11 Q11 HB11 hO hg
      clear a0 a1
      obtain ⟨a0, a1, _, _⟩ := T12.out.two
      go_wp2_with fail
      refine (heldState_calls A9 nn c9 P 1 _ Q12.out.ints hnn (by omega) (by omega)).mono ?_
      rintro e w13 ⟨rfl, hb⟩
      have X13 := Lib.hid (X12.out.below hb X12.out.lt)
      have Y13 := Lib.hid (Y12.out.below hb Y12.out.lt)
      have Z13 := Lib.hid (Z12.out.below hb Z12.out.lt)
      have T13 := Lib.hid (T12.out.below hb T12.out.lt)
      have O13 := Lib.hid (O12.out.below hb)
      have Q13 := Lib.hid (Q12.out.below hb)
      have HB13 := Lib.hid (HB12.out.trans ((hb).mono HB12.out.size))
      clear X12 Y12 Z12 T12 O12 Q12 HB12
      clear hb a0 a1
      have hI13 := Lib.hid (hI.below HB13.out)
      obtain ⟨s0, s1, m0, m1, m2⟩ := cells23 X13.out Y13.out
      go_upto_region 24 with (fail)
      go_cut [14, 15] (fun t14 t15 wd => Made w13 P nn LL E t14 t15 wd)
      case first =>
        have hxc0 := Nat.ne_of_lt (Box.lt X13.out)
        have hyc0 := Nat.ne_of_lt (Box.lt Y13.out)
        go_region_held3 (fun w' => w'.cell? ⟨w.heap.size, 0, none⟩ = some (.int .i64 p) ∧ w'.cell? ⟨w.heap.size, 1, none⟩ = some (.slice A n c) ∧ w'.cell? ⟨w.heap.size + 1, 0, none⟩ = some (.int .i64 d) ∧ w'.cell? ⟨w.heap.size + 1, 1, none⟩ = some (.int .i64 f) ∧ w'.cell? ⟨w.heap.size + 1, 2, none⟩ = some (.int .i64 t))
          (first | exact cells23 X13.out Y13.out | exact cells23 (X13.out.alloc _) (Y13.out.alloc _) | exact cells23 Xc1.out Yc1.out | exact cells23 (Xc1.out.alloc _) (Yc1.out.alloc _) | exact cells23 Xc2.out Yc2.out | exact cells23 (Xc2.out.alloc _) (Yc2.out.alloc _) | exact cells23 Xc3.out Yc3.out | exact cells23 (Xc3.out.alloc _) (Yc3.out.alloc _) | (refine cells23 (Box.other (Box.other Xc3.out ?_ _) ?_ _) (Box.other (Box.other Yc3.out ?_ _) ?_ _) <;> (first | exact hxc0 | exact hyc0 | exact hxc1 | exact hyc1 | exact hxc2 | exact hyc2)) | go_keep)
          (first
          | (go_at_call 10; refine (toState_calls A n c p L _ HL.out hn ?_).mono ?_; (first | exact hI13.out | exact Ints.below (w := w13) hI13.out (Below.drew (Below.alloc (Below.refl _ w13) (Nat.le_refl _) (.cells #[.int .i64 0, .slice none 0 0] 29)))); rintro e wc1 ⟨gc1, rfl, hgc1, hrc1, hbc1⟩; (first | (have Xc1 := Lib.hid (Box.below X13.out (undrew hbc1) (Box.lt X13.out)); have Yc1 := Lib.hid (Box.below Y13.out (undrew hbc1) (Box.lt Y13.out))) | (have Xc1 := Lib.hid (Box.below (Box.alloc X13.out (.cells #[.int .i64 0, .slice none 0 0] 29)) (undrew hbc1) (Box.lt (Box.alloc X13.out (.cells #[.int .i64 0, .slice none 0 0] 29)))); have Yc1 := Lib.hid (Box.below (Box.alloc Y13.out (.cells #[.int .i64 0, .slice none 0 0] 29)) (undrew hbc1) (Box.lt (Box.alloc Y13.out (.cells #[.int .i64 0, .slice none 0 0] 29)))); have Nc1 := Lib.hid (Box.below (Box.new w13 29 #[.int .i64 0, .slice none 0 0]) (undrew hbc1) (Box.lt (Box.new w13 _ _))))); have hxc1 := Nat.ne_of_lt (Box.lt Xc1.out); have hyc1 := Nat.ne_of_lt (Box.lt Yc1.out))
          | (go_at_call 18; refine (toMove_calls d f t _).mono ?_; rintro e wc2 ⟨rfl, hbc2⟩; (first | (have Xc2 := Lib.hid (Box.below Xc1.out hbc2 (Box.lt Xc1.out)); have Yc2 := Lib.hid (Box.below Yc1.out hbc2 (Box.lt Yc1.out)); try (have Nc2 := Lib.hid (Box.below Nc1.out hbc2 (Box.lt Nc1.out)))) | (have Xc2 := Lib.hid (Box.below (Box.alloc Xc1.out (.cells #[.int .i64 0, .slice none 0 0] 29)) hbc2 (Box.lt (Box.alloc Xc1.out (.cells #[.int .i64 0, .slice none 0 0] 29)))); have Yc2 := Lib.hid (Box.below (Box.alloc Yc1.out (.cells #[.int .i64 0, .slice none 0 0] 29)) hbc2 (Box.lt (Box.alloc Yc1.out (.cells #[.int .i64 0, .slice none 0 0] 29)))); have Nc2 := Lib.hid (Box.below (Box.new wc1 29 #[.int .i64 0, .slice none 0 0]) hbc2 (Box.lt (Box.new wc1 _ _))))); have hxc2 := Nat.ne_of_lt (Box.lt Xc2.out); have hyc2 := Nat.ne_of_lt (Box.lt Yc2.out))
          | (go_at_call 26; refine (HP.out gc1 _ ?_).mono ?_; (first | exact hrc1.ints.below hbc2 | exact (hrc1.ints.below ((Below.refl _ wc1).alloc (Nat.le_refl _) (.cells #[.int .i64 0, .slice none 0 0] 29))).below hbc2 | exact (hrc1.ints.below hbc2).below ((Below.refl _ wc2).alloc (Nat.le_refl _) (.cells #[.int .i64 0, .slice none 0 0] 29))); rintro e wc3 ⟨Ac, cc, rfl, hOc, hbc3⟩; (first | (have Xc3 := Lib.hid (Box.below Xc2.out hbc3 (Box.lt Xc2.out)); have Yc3 := Lib.hid (Box.below Yc2.out hbc3 (Box.lt Yc2.out)); try (have Nc3 := Lib.hid (Box.below Nc2.out hbc3 (Box.lt Nc2.out)))) | (have Xc3 := Lib.hid (Box.below (Box.alloc Xc2.out (.cells #[.int .i64 0, .slice none 0 0] 29)) hbc3 (Box.lt (Box.alloc Xc2.out (.cells #[.int .i64 0, .slice none 0 0] 29)))); have Yc3 := Lib.hid (Box.below (Box.alloc Yc2.out (.cells #[.int .i64 0, .slice none 0 0] 29)) hbc3 (Box.lt (Box.alloc Yc2.out (.cells #[.int .i64 0, .slice none 0 0] 29)))); have Nc3 := Lib.hid (Box.below (Box.new wc2 29 #[.int .i64 0, .slice none 0 0]) hbc3 (Box.lt (Box.new wc2 _ _))))); have hxc3 := Nat.ne_of_lt (Box.lt Xc3.out); have hyc3 := Nat.ne_of_lt (Box.lt Yc3.out); try (obtain ⟨n0, n1, nf0, nf1⟩ := Nc3.out.two)))
        all_goals
          go_wp2_with fail
          go_meet
          case rel =>
            refine ⟨_, Ac, cc, rfl, rfl, ?_, ?_, ?_, ?_⟩
            · first | exact Box.new wc3 _ _ | exact (Nc3.out.set 0 _).set 1 _
            · have q1 := Below.size (undrew hbc1)
              have q2 := Below.size hbc2
              have q3 := Below.size hbc3
              try simp only [World.size_alloc] at q1
              try simp only [World.size_alloc] at q2
              try simp only [World.size_alloc] at q3
              first | exact (hOc.below ((Below.refl _ wc3).alloc (Nat.le_refl _) _)).mono (by first | omega | (simp; done) | (simp; omega)) | exact ((hOc.setBoxed Nc3.out (by decide) _ _).setBoxed (Nc3.out.set _ _) (by decide) _ _).mono (by first | omega | (simp; done) | (simp; omega))
            · have q1 := Below.size (undrew hbc1)
              have q2 := Below.size hbc2
              have q3 := Below.size hbc3
              try simp only [World.size_alloc] at q1
              try simp only [World.size_alloc] at q2
              try simp only [World.size_alloc] at q3
              first | refine Below.alloc ?_ (by omega) _ | refine Below.setCell (Below.setCell ?_ (by first | omega | (simp; done) | (simp; omega)) _) (by first | omega | (simp; done) | (simp; omega)) _
              refine Below.trans ?_ (hbc3.mono (by first | omega | (simp; done) | (simp; omega)))
              try refine Below.alloc ?_ (by omega) _
              refine Below.trans ?_ (hbc2.mono (by first | omega | (simp; done) | (simp; omega)))
              try refine Below.alloc ?_ (by omega) _
              refine Below.trans ?_ ((undrew hbc1).mono (by first | omega | (simp; done) | (simp; omega)))
              first | exact Below.refl _ _ | exact Below.alloc (Below.refl _ _) (Nat.le_refl _) _
            · have q1 := Below.size (undrew hbc1)
              have q2 := Below.size hbc2
              have q3 := Below.size hbc3
              try simp only [World.size_alloc] at q1
              try simp only [World.size_alloc] at q2
              try simp only [World.size_alloc] at q3
              omega
      case rest =>
        obtain ⟨g14, A14, c14, rfl, rfl, hT, hO, hbel, hgc⟩ := hcut
        have S14 := Lib.hid hT
        have K14 := Lib.hid hO
        have Z14 := Lib.hid (Z13.out.below hbel Z13.out.lt)
        have T14 := Lib.hid (T13.out.below hbel T13.out.lt)
        have O14 := Lib.hid (O13.out.below hbel)
        have Q14 := Lib.hid (Q13.out.below hbel)
        have HB14 := Lib.hid (HB13.out.trans ((hbel).mono HB13.out.size))
        clear Z13 T13 O13 Q13 HB13
        clear hT hO hbel s0 s1 m0 m1 m2 hI13 X13 Y13
        obtain ⟨a0, a1, b0, b1⟩ := cells22 S14.out Z14.out
        go_wp2_with fail
        refine (eqState_calls A14 A0 nn c14 nn c0 P P LL LL _ HLL.out HLL.out hnn hnn K14.out.ints O14.out.ints).mono ?_
        rintro e w15 ⟨rfl, hb⟩
        have T15 := Lib.hid (T14.out.below hb T14.out.lt)
        have Q15 := Lib.hid (Q14.out.below hb)
        have HB15 := Lib.hid (HB14.out.trans ((hb).mono HB14.out.size))
        clear T14 Q14 HB14
        clear hb a0 a1 b0 b1
        obtain ⟨a0, a1, _, _⟩ := T15.out.two
        go_wp2_with fail
        refine (heldState_calls A9 nn c9 P 1 _ Q15.out.ints hnn (by omega) (by omega)).mono ?_
        rintro e w16 ⟨rfl, hb⟩
        have HB16 := Lib.hid (HB15.out.trans (hb.mono HB15.out.size))
        clear hb a0 a1
        go_wp2
        go_ret
        exact ⟨rfl, HB16.out⟩

theorem aftL_le (p : Int) (L : List Int) (d f t : Int) (h : L.length ≤ 1048576) : (aftL p L d f t).length ≤ 1048576 := by
  unfold aftL
  split
  · simpa using h
  · simp

theorem walk (p : Int) (A : Option Addr) (n c : Nat) (L : List Int) (d f t : Int) (w : World) (w0 : (Lit.int .i64 p).wf = true) (hA : ArgInts w A n L) (wx : (Lit.int .i64 d).wf = true) (wy : (Lit.int .i64 f).wf = true) (wz : (Lit.int .i64 t).wf = true) :
    Calls Try.prog 6 #[.agg #[.int .i64 p, .slice A n c], .agg #[.int .i64 d, .int .i64 f, .int .i64 t]] w fun e w' => e = .returned (.bool true) ∧ Below w.heap.size w w' := by
  obtain ⟨hL, hm, hI⟩ := hA
  by_cases hn : n ≤ 1048576
  · exact core p A n c L d f t (aftP p L d f t) (aftE p L d f t) (aftL p L d f t) (aftL p L d f t).length (aftL_le _ _ _ _ _ (by omega)) rfl w hL hn hI
      (fun g W hW => specAfterMove_ret _ _ _ p L d f t W hL hn hW (Nat.le_refl _) hn) (fun g W hW => implAfterMove_ret _ _ _ p L d f t W hL hn hW (Nat.le_refl _) hn)
  · have h0 := szI_no hn
    go_enter Try.func6, Try.ntmps6
    go_wp2_with fail
    refine (szState_calls A n c p 1048576 _ hm (by omega) (by omega)).mono ?_
    rintro e w1 ⟨rfl, hb1⟩
    have HB1 := Lib.hid ((((Below.refl w.heap.size w).alloc (Nat.le_refl _) _).alloc (by simp) _).trans (hb1.mono (by simp; omega)))
    clear hb1
    go_wp2
    go_ret
    exact ⟨rfl, HB1.out⟩

set_option maxRecDepth 100000 in
theorem lifted (os : Os) (started : os.Started) (H : Type) (enc : TypeId × Value → H) :
    ReturnsInHanded {} Try.checked os 6 .any (Rows.fnExactAfterMoveSpec.pre6 enc Try.prog Try.f6 Rows.fnExactAfterMoveRow.domain false) (Rows.fnExactAfterMoveSpec.post enc Try.prog Try.f6 false true false false) := by
  refine returnsInHanded_of_change (C := Try.checked) own started (by kernel_rfl) Try.func6
    (ChangeSpec.witness6 (enc := enc) (C := Try.checked) false ⟨#[], #[.agg #[.int .i64 0, .slice none 0 0], .agg #[.int .i64 0, .int .i64 0, .int .i64 0]], []⟩ 8 (by kernel_rfl) (by kernel_rfl) (by kernel_rfl) (by kernel_rfl)) ?_
  intro W base args ds gs before hval0 hW hcnd _
  have hval : ∀ (j : Nat) t v, Try.f6.params[j]? = some t → args[j]? = some v → Value.okWide Try.prog W .any base t v := hval0
  have hW' := hW
  obtain ⟨p, q, hA0, hV, rfl, hfz, hnd⟩ := hW
  have hA : DataW.TrodAll enc Try.prog W 0 (fun _ => true) true Try.f6.params.toList args.toList ds p := hA0
  rw [Try.params6] at hA hval
  obtain ⟨v0, vs0, d0, ds0, p0, q0, hargs, rfl, rfl, h0, r0⟩ := trodAll_cons hA
  obtain ⟨v1, vs1, d1, ds1, p1, q1, rfl, rfl, rfl, h1, r1⟩ := trodAll_cons r0
  obtain ⟨rfl, rfl, rfl⟩ := trodAll_nil r1
  obtain rfl : args = #[v0, v1] := by cases args; simp_all
  obtain ⟨rfl, rfl⟩ := trodVars_none hV
  have lt0 : ∀ x ∈ p0, x.block < W.heap.size := by obtain ⟨m, hm⟩ := h0; exact DataW.trod_lt m _ _ _ hm
  have k0 := h0
  obtain ⟨a0, A0, n0, c0, L0, rfl, w0, hAI0⟩ := open_state (hval 0 24 v0 rfl rfl) h0
  have lt1 : ∀ x ∈ p1, x.block < W.heap.size := by obtain ⟨m, hm⟩ := h1; exact DataW.trod_lt m _ _ _ hm
  have k1 := h1
  obtain ⟨x1, y1, z1, rfl, wx1, wy1, wz1⟩ := open_move (hval 1 37 v1 rfl rfl) h1
  clear hA0 hval0
  refine (walk a0 A0 n0 c0 L0 x1 y1 z1 W w0 hAI0 wx1 wy1 wz1).mono fun e W' ⟨he, bel⟩ => ?_
  subst he
  exact ⟨_, rfl, _, _, _, [], _, [], hW', trodAll_mk1 (shut_bool Try.underlying4 _), (trodAll_cons_mk (Below.trod laidOut (by kernel_rfl) (of_decide_eq_true (by kernel_rfl)) k0 bel lt0) (trodAll_cons_mk (Below.trod laidOut (by kernel_rfl) (of_decide_eq_true (by kernel_rfl)) k1 bel lt1) trodAll_mk0)), rfl, bel.frame _, fun h => by cases h⟩

theorem over : Rows.fnExactAfterMoveRow.holds Try.pinned (OpenSpec.ofChange Rows.fnExactAfterMoveSpec) :=
  OpenClaim.holds_of_wide 6 Try.f6 rfl rfl rfl rfl rfl rfl rfl ⟨rfl, rfl, rfl, rfl, rfl⟩ rfl rfl rfl rfl rfl (by kernel_rfl) Try.func6 (by kernel_rfl)
    (of_decide_eq_true (by kernel_rfl)) (by unfold Func.isWrapper; first | (rw [if_pos (by decide +kernel)]; kernel_rfl) | (rw [if_neg (by decide +kernel)]; exact ⟨rfl, rfl⟩))
    (fun os started H enc _ => lifted os started H enc)

theorem proved : Rows.FnExactAfterMoveSaid := over
#print axioms proved
end Go.Proofs.Ytppfheodpalmpaa.fnExactAfterMove
