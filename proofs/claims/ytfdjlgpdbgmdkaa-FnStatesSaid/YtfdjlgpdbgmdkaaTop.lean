/- Contracts: the top of a peg, by the specification's model and by the program. -/
import Derived.Test.YtfdjlgpdbgmdkaaRank
namespace Go.Proofs.Ytfdjlgpdbgmdkaa
open Go.RowKit
set_option linter.unusedVariables false

/-- The first place from k on at which the list has a peg, or -1. -/
def topF (a : Int) : Nat → List Int → Int
  | _, [] => -1
  | k, x :: xs => if x = a then (k : Int) else topF a (k + 1) xs
def topL (a : Int) (L : List Int) : Int := topF a 0 L

theorem topF_drop {a : Int} {L : List Int} {k : Nat} (hk : k < L.length) : topF a k (L.drop k) = if L[k]?.getD 0 = a then (k : Int) else topF a (k + 1) (L.drop (k + 1)) := by
  rw [List.drop_eq_getElem_cons hk, List.getElem?_eq_getElem hk, Option.getD_some]
  rfl
theorem topF_lo (a : Int) : ∀ (L : List Int) (k : Nat), topF a k L = -1 ∨ ((k : Int) ≤ topF a k L ∧ topF a k L < k + L.length)
  | [], k => .inl rfl
  | x :: xs, k => by
    unfold topF
    by_cases h : x = a
    · rw [if_pos h]; right; simp; omega
    · rw [if_neg h]
      rcases topF_lo a xs (k + 1) with h1 | h1
      · exact .inl h1
      · right; simp only [List.length_cons]; omega

set_option maxHeartbeats 400000 in
theorem l01Top_calls (A : Option Addr) (n c : Nat) (p : Int) (L : List Int) (a : Int) (w : World) (hL : L.length = n) (hn : n ≤ 1048576) (hI : Ints w A L) :
    Calls Try.prog 70 #[.agg #[.int .i64 p, .slice A n c], .int .i64 a] w fun e w' => e = .returned (.int .i64 (topL a L)) ∧ Below w.heap.size w w' := by
  have HL : Hid (L.length = n) := hL
  clear hL
  go_enter Try.func70, Try.ntmps70
  go_wp2
  go_loopw [5] (fun i wr => ∃ k : Nat, k ≤ n ∧ i = .int .i64 k ∧ topL a L = topF a k (L.drop k) ∧ ∃ m, wr = (w.alloc (.cells #[.int .i64 p, .slice A n c] 26)).drewN m) (fun i _ => n - (intOf i).toNat)
  case atStart => exact ⟨0, Nat.zero_le _, rfl, rfl, 0, rfl⟩
  case round =>
    obtain ⟨k, hk, rfl, ht, m, rfl⟩ := hrel
    have HT := Lib.hid ht
    clear ht
    by_cases hlt : k < n
    · obtain ⟨ad, rfl, had, hc⟩ := (hI.below ((Below.refl _ _).alloc (Nat.le_refl _) (.cells #[.int .i64 p, .slice A n c] 26))) k (by rw [HL.out]; omega)
      have HD := Lib.hid (topF_drop (a := a) (L := L) (k := k) (by rw [HL.out]; omega))
      by_cases hx : L[k]?.getD 0 = a
      · have hb : (L[k]?.getD 0 == a) = true := by simpa using hx
        have HX := Lib.hid hx
        clear hx
        go_wp2
        go_ret
        exact ⟨ret_int (by rw [HT.out, HD.out, if_pos HX.out]), belowDraws ((Below.refl _ _).alloc (Nat.le_refl _) _) m⟩
      · have hb : (L[k]?.getD 0 == a) = false := by simpa using hx
        have HX := Lib.hid hx
        clear hx
        go_wp2
        go_roundw
        case rel => exact ⟨k + 1, by omega, by go_num, by rw [HT.out, HD.out, if_neg HX.out], by first | exact ⟨_, rfl⟩ | exact ⟨_, World.drewN_drewN _ _ _⟩⟩
        case measure => simp [intOf]; omega
    · obtain rfl : k = n := by omega
      go_wp2
      go_ret
      exact ⟨ret_int (by rw [HT.out, List.drop_of_length_le (by rw [HL.out]; omega)]; rfl), belowDraws ((Below.refl _ _).alloc (Nat.le_refl _) _) m⟩

/-- What TopOf answers. -/
def topV (p a : Int) (L : List Int) : Int := if stateB p L = true ∧ inB a 0 (p - 1) = true ∧ 0 ≤ topL a L then topL a L else 0
def topE (p a : Int) (L : List Int) : Int := if stateB p L = true then (if inB a 0 (p - 1) = true then (if 0 ≤ topL a L then 0 else 4) else 2) else 1
theorem top1 {p a : Int} {L : List Int} (h : stateB p L = false) : topV p a L = 0 ∧ topE p a L = 1 := by unfold topV topE; simp [h]
theorem top2 {p a : Int} {L : List Int} (h : stateB p L = true) (h2 : inB a 0 (p - 1) = false) : topV p a L = 0 ∧ topE p a L = 2 := by unfold topV topE; simp [h, h2]
theorem top3 {p a : Int} {L : List Int} (h : stateB p L = true) (h2 : inB a 0 (p - 1) = true) (h3 : topL a L < 0) : topV p a L = 0 ∧ topE p a L = 4 := by
  have h3' : ¬ 0 ≤ topL a L := by omega
  unfold topV topE; simp [h, h2, h3']
theorem top4 {p a : Int} {L : List Int} (h : stateB p L = true) (h2 : inB a 0 (p - 1) = true) (h3 : 0 ≤ topL a L) : topV p a L = topL a L ∧ topE p a L = 0 := by unfold topV topE; simp [h, h2, h3]

theorem specTopOf_calls (A : Option Addr) (n c : Nat) (p : Int) (L : List Int) (a : Int) (w : World) (hL : L.length = n) (hn : n ≤ 1048576) (hI : Ints w A L) :
    Calls Try.prog 31 #[.agg #[.int .i64 p, .slice A n c], .int .i64 a] w fun e w' => e = .returned (.tuple #[.int .i64 (topV p a L), .int .i64 (topE p a L)]) ∧ Below w.heap.size w w' := by
  have HL : Hid (L.length = n) := hL
  have hb0 : Below w.heap.size w (w.alloc (.cells #[.int .i64 p, .slice A n c] 26)) := (Below.refl _ _).alloc (Nat.le_refl _) _
  have hI0 := hI.below hb0
  by_cases hs : stateB p L = true
  · obtain ⟨h3, h5, h8, hpn⟩ := state_facts hs hL
    clear hL
    by_cases hp : inB a 0 (p - 1) = true
    · by_cases ht : 0 ≤ topL a L
      · go_enter Try.func31, Try.ntmps31
        go_wp2_with fail
        refine (l01Is_calls A n c p L _ HL.out hn hI0).mono ?_
        rintro e w1 ⟨rfl, hb⟩
        have HB := Lib.hid hb
        have hI1 := hI0.below hb
        obtain ⟨c0, c1, hz⟩ := boxed2 (hb.mono (by simp))
        clear hb
        go_wp2_with fail
        refine (l01In_calls a 0 (p - 1) _).mono ?_
        rintro e w' ⟨rfl, rfl⟩
        go_wp2_with fail
        refine (l01Top_calls A n c p L a _ HL.out hn hI1).mono ?_
        rintro e w2 ⟨rfl, hb2⟩
        have HB2 := Lib.hid hb2
        clear hb2
        go_wp2
        go_ret2
        exact ⟨ret_two (top4 hs hp ht).1 (top4 hs hp ht).2, hb0.trans ((HB.out.mono (by simp)).trans (HB2.out.mono (by omega)))⟩
      · have ht' : topL a L < 0 := by omega
        clear ht
        go_enter Try.func31, Try.ntmps31
        go_wp2_with fail
        refine (l01Is_calls A n c p L _ HL.out hn hI0).mono ?_
        rintro e w1 ⟨rfl, hb⟩
        have HB := Lib.hid hb
        have hI1 := hI0.below hb
        obtain ⟨c0, c1, hz⟩ := boxed2 (hb.mono (by simp))
        clear hb
        go_wp2_with fail
        refine (l01In_calls a 0 (p - 1) _).mono ?_
        rintro e w' ⟨rfl, rfl⟩
        go_wp2_with fail
        refine (l01Top_calls A n c p L a _ HL.out hn hI1).mono ?_
        rintro e w2 ⟨rfl, hb2⟩
        have HB2 := Lib.hid hb2
        clear hb2
        go_wp2
        go_ret2
        exact ⟨ret_two (top3 hs hp ht').1 (top3 hs hp ht').2, hb0.trans ((HB.out.mono (by simp)).trans (HB2.out.mono (by omega)))⟩
    · have hp' : inB a 0 (p - 1) = false := by simpa using hp
      clear hp
      go_enter Try.func31, Try.ntmps31
      go_wp2_with fail
      refine (l01Is_calls A n c p L _ HL.out hn hI0).mono ?_
      rintro e w1 ⟨rfl, hb⟩
      have HB := Lib.hid hb
      obtain ⟨c0, c1, hz⟩ := boxed2 (hb.mono (by simp))
      clear hb
      go_wp2_with fail
      refine (l01In_calls a 0 (p - 1) _).mono ?_
      rintro e w' ⟨rfl, rfl⟩
      go_wp2
      go_ret2
      exact ⟨ret_two (top2 hs hp').1 (top2 hs hp').2, hb0.trans (HB.out.mono (by simp))⟩
  · have hs' : stateB p L = false := by simpa using hs
    clear hs hL
    go_enter Try.func31, Try.ntmps31
    go_wp2_with fail
    refine (l01Is_calls A n c p L _ HL.out hn hI0).mono ?_
    rintro e w1 ⟨rfl, hb⟩
    have HB := Lib.hid hb
    clear hb
    go_wp2
    go_ret2
    exact ⟨ret_two (top1 hs').1 (top1 hs').2, hb0.trans (HB.out.mono (by simp))⟩

set_option maxHeartbeats 400000 in
theorem implTopOf_calls (A : Option Addr) (n c : Nat) (p : Int) (L : List Int) (a : Int) (w : World) (hL : L.length = n) (hn : n ≤ 1048576) (hI : Ints w A L) :
    Calls Try.prog 15 #[.agg #[.int .i64 p, .slice A n c], .int .i64 a] w fun e w' => e = .returned (.tuple #[.int .i64 (topV p a L), .int .i64 (topE p a L)]) ∧ Below w.heap.size w w' := by
  have HL : Hid (L.length = n) := hL
  have hb0 : Below w.heap.size w (w.alloc (.cells #[.int .i64 p, .slice A n c] 26)) := (Below.refl _ _).alloc (Nat.le_refl _) _
  have hI0 := hI.below hb0
  by_cases hs : stateB p L = true
  · clear hL
    by_cases hp : inB a 0 (p - 1) = true
    · have hp2 : pegB p a = true := by rw [pegB_in]; exact hp
      have HP := Lib.hid hp
      clear hp
      go_enter Try.func15, Try.ntmps15
      go_wp2_with fail
      refine (implIsState_calls A n c p L _ HL.out hn hI0).mono ?_
      rintro e w1 ⟨rfl, hb⟩
      have HB := Lib.hid hb
      have hI1 := hI0.below hb
      obtain ⟨c0, c1, hz⟩ := boxed2 (hb.mono (by simp))
      clear hb
      go_wp2_with fail
      refine (isPeg_calls p a _).mono ?_
      rintro e w' ⟨rfl, rfl⟩
      go_wp2
      have HS := Lib.hid hs
      clear hs
      go_loopw [6, 7, 19] (fun _ _ i wr => ∃ k : Nat, k ≤ n ∧ i = .int .i64 k ∧ topL a L = topF a k (L.drop k) ∧ ∃ m, wr = w1.drewN m) (fun _ _ i _ => n - (intOf i).toNat)
      case atStart => exact ⟨0, Nat.zero_le _, rfl, rfl, 0, rfl⟩
      case round =>
        obtain ⟨k, hk, rfl, ht, m, rfl⟩ := hrel
        have HT := Lib.hid ht
        clear ht
        by_cases hlt : k < n
        · obtain ⟨ad, rfl, had, hc⟩ := hI1 k (by rw [HL.out]; omega)
          have HD := Lib.hid (topF_drop (a := a) (L := L) (k := k) (by rw [HL.out]; omega))
          by_cases hx : L[k]?.getD 0 = a
          · have hb : (L[k]?.getD 0 == a) = true := by simpa using hx
            have HX := Lib.hid hx
            clear hx
            go_wp2
            go_ret2
            have ht : topL a L = k := by rw [HT.out, HD.out, if_pos HX.out]
            exact ⟨ret_two ((top4 HS.out HP.out (by omega)).1.trans ht) (top4 HS.out HP.out (by omega)).2, belowDraws (hb0.trans (HB.out.mono (by simp))) m⟩
          · have hb : (L[k]?.getD 0 == a) = false := by simpa using hx
            have HX := Lib.hid hx
            clear hx
            go_wp2
            go_roundw
            case rel => exact ⟨k + 1, by omega, by go_num, by rw [HT.out, HD.out, if_neg HX.out], by first | exact ⟨_, rfl⟩ | exact ⟨_, World.drewN_drewN _ _ _⟩⟩
            case measure => simp [intOf]; omega
        · obtain rfl : k = n := by omega
          go_wp2
          go_ret2
          have ht : topL a L = -1 := by rw [HT.out, List.drop_of_length_le (by rw [HL.out]; omega)]; rfl
          exact ⟨ret_two (top3 HS.out HP.out (by omega)).1 (top3 HS.out HP.out (by omega)).2, belowDraws (hb0.trans (HB.out.mono (by simp))) m⟩
    · have hp' : inB a 0 (p - 1) = false := by simpa using hp
      have hp2 : pegB p a = false := by rw [pegB_in]; exact hp'
      have HP := Lib.hid hp'
      clear hp hp'
      go_enter Try.func15, Try.ntmps15
      go_wp2_with fail
      refine (implIsState_calls A n c p L _ HL.out hn hI0).mono ?_
      rintro e w1 ⟨rfl, hb⟩
      have HB := Lib.hid hb
      obtain ⟨c0, c1, hz⟩ := boxed2 (hb.mono (by simp))
      clear hb
      go_wp2_with fail
      refine (isPeg_calls p a _).mono ?_
      rintro e w' ⟨rfl, rfl⟩
      go_wp2
      go_ret2
      exact ⟨ret_two (top2 hs HP.out).1 (top2 hs HP.out).2, hb0.trans (HB.out.mono (by simp))⟩
  · have hs' : stateB p L = false := by simpa using hs
    clear hs hL
    go_enter Try.func15, Try.ntmps15
    go_wp2_with fail
    refine (implIsState_calls A n c p L _ HL.out hn hI0).mono ?_
    rintro e w1 ⟨rfl, hb⟩
    have HB := Lib.hid hb
    clear hb
    go_wp2
    go_ret2
    exact ⟨ret_two (top1 hs').1 (top1 hs').2, hb0.trans (HB.out.mono (by simp))⟩

end Go.Proofs.Ytfdjlgpdbgmdkaa
