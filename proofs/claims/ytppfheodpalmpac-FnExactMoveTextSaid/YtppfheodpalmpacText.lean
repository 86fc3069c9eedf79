/- Contracts: texts of moves. -/
import Derived.Test.YtppfheodpalmpacState1
import Derived.Test.YtppfheodpalmpacToMove
import Derived.Deep.RegionHeld3
import Derived.StillTailTactics
import Derived.WalkLawsBesides
import Derived.Laws.IdiomStrings
namespace Go.Proofs.Ytppfheodpalmpac
open Go.RowKit
set_option linter.unusedVariables false

/-- The byte of a digit. -/
def dg (n : Int) : UInt8 := UInt8.ofNat (48 + n).toNat
theorem dg_val {n : Int} (h0 : 0 ≤ n) (h9 : n ≤ 9) : ((dg n).toNat : Int) = 48 + n := by
  unfold dg
  rw [UInt8.toNat_ofNat_of_lt' (by show (48 + n).toNat < 256; omega)]
  omega

theorem digit_calls (n : Int) (w : World) (h0 : 0 ≤ n) (h9 : n ≤ 9) :
    Calls Try.prog 26 #[.int .i64 n] w fun e w' => e = .returned (.int .u8 (48 + n)) ∧ w = w' := by
  go_enter Try.func26, Try.ntmps26
  go_wp2
  go_ret
  exact ⟨rfl, rfl⟩

/-- string([]byte{..}) in the world that the bytes have just been laid in. -/
theorem conv_new (W : World) (l : List UInt8) (cs : Array Value) (hcs : cs = (l.map (fun b => Value.int .u8 (b.toNat : Int))).toArray) :
    (convert 49 9 (.slice (some ⟨W.heap.size, 0, none⟩) l.length l.length)).run Try.prog (W.alloc (.cells cs 5)) = .ok (.string ⟨l.toArray⟩) (W.alloc (.cells cs 5)) := by
  refine run_convert_bytes_back _ 49 9 5 ⟨W.heap.size, 0, none⟩ l.length l Try.underlying49 Try.underlying5 Try.underlying9 (fun j hj => ?_)
  have e : (⟨W.heap.size, 0, none⟩ : Addr).add j = ⟨W.heap.size, j, none⟩ := by
    unfold Addr.add
    split
    · next h0 => rw [h0]
    · simp
  rw [e, (Box.new W 5 cs).cell j, hcs]
  simp [hj]

theorem l01Dec_calls (n : Int) (w : World) (h0 : 0 ≤ n) (h9 : n ≤ 9) :
    Calls Try.prog 32 #[.int .i64 n] w fun e w' => e = .returned (.string ⟨#[dg n]⟩) ∧ Below w.heap.size w w' := by
  have hc := conv_new w [dg n] #[.int .u8 (48 + n)] (by simp [dg_val h0 h9])
  simp only [List.length_cons, List.length_nil, Nat.zero_add] at hc
  go_enter Try.func32, Try.ntmps32
  go_wp2_with fail
  go_wp2
  go_ret
  exact ⟨rfl, (Below.refl _ _).alloc (Nat.le_refl _) _⟩

/-- The text of a move. -/
def mtxt (d f t : Int) : ByteArray := ⟨#[dg d, 58, dg f, 62, dg t]⟩

theorem mtxt_eq (d f t : Int) : mtxt d f t = (⟨#[dg d]⟩ : ByteArray) ++ ⟨#[58]⟩ ++ ⟨#[dg f]⟩ ++ ⟨#[62]⟩ ++ ⟨#[dg t]⟩ := by
  apply ByteArray.ext
  simp [mtxt]
theorem ret_str {a b : ByteArray} (h : a = b) : Ending.returned (.string b) = .returned (.string a) := by rw [h]

set_option maxHeartbeats 1000000 in
theorem l01MoveText_calls (d f t : Int) (w : World) (hd0 : 0 ≤ d) (hd1 : d ≤ 9) (hf0 : 0 ≤ f) (hf1 : f ≤ 9) (ht0 : 0 ≤ t) (ht1 : t ≤ 9) :
    Calls Try.prog 24 #[.agg #[.int .i64 d, .int .i64 f, .int .i64 t]] w fun e w' => e = .returned (.string (mtxt d f t)) ∧ Below w.heap.size w w' := by
  have Y0 := Lib.hid (Box.new w 34 #[.int .i64 d, .int .i64 f, .int .i64 t])
  have HB0 := Lib.hid ((Below.refl w.heap.size w).alloc (Nat.le_refl _) (.cells #[.int .i64 d, .int .i64 f, .int .i64 t] 34))
  generalize hW : w.alloc (.cells #[.int .i64 d, .int .i64 f, .int .i64 t] 34) = W at *
  have HW := Lib.hid hW
  clear hW
  obtain ⟨m0, m1, m2⟩ := Y0.out.three
  go_enter Try.func24, Try.ntmps24
  go_wp2_with fail
  rw [HW.out]
  go_region_held3 (fun w' => w'.cell? ⟨w.heap.size, 0, none⟩ = some (.int .i64 d) ∧ w'.cell? ⟨w.heap.size, 1, none⟩ = some (.int .i64 f) ∧ w'.cell? ⟨w.heap.size, 2, none⟩ = some (.int .i64 t))
    (first | exact Y0.out.three | exact Y1.out.three | exact Y2.out.three | exact Y3.out.three | go_keep)
    ((go_at_call 32; refine (l01Dec_calls _ _ ?_ ?_).mono ?_; (omega); (omega); rintro e wn ⟨rfl, hbn⟩; first | (have Y1 := Lib.hid (Box.below Y0.out (undrew hbn) (Box.lt Y0.out)); have hb1 := Lib.hid (undrew hbn)) | (have Y2 := Lib.hid (Box.below Y1.out hbn (Box.lt Y1.out)); have hb2 := Lib.hid hbn) | (have Y3 := Lib.hid (Box.below Y2.out hbn (Box.lt Y2.out)); have hb3 := Lib.hid hbn)))
  go_wp2
  have h1 := Below.size hb1.out
  have h2 := Below.size hb2.out
  have h3 := HB0.out.size
  go_ret
  exact ⟨ret_str (mtxt_eq d f t), ((HB0.out.trans (hb1.out.mono h3)).trans (hb2.out.mono (Nat.le_trans h3 h1))).trans (hb3.out.mono (Nat.le_trans h3 (Nat.le_trans h1 h2)))⟩

def plainB (d f t : Int) : Bool := decide (0 ≤ d ∧ d ≤ 7 ∧ 0 ≤ f ∧ f ≤ 4 ∧ 0 ≤ t ∧ t ≤ 4)
theorem plain_yes {d f t : Int} (h : plainB d f t = true) : 0 ≤ d ∧ d ≤ 7 ∧ 0 ≤ f ∧ f ≤ 4 ∧ 0 ≤ t ∧ t ≤ 4 := by unfold plainB at h; simpa using h
theorem ret_plain {d f t : Int} {b : Bool} (h : plainB d f t = b) : Ending.returned (.bool b) = .returned (.bool (plainB d f t)) := by rw [h]

set_option maxHeartbeats 400000 in
theorem l01Plain_calls (d f t : Int) (w : World) :
    Calls Try.prog 23 #[.agg #[.int .i64 d, .int .i64 f, .int .i64 t]] w fun e w' => e = .returned (.bool (plainB d f t)) ∧ Below w.heap.size w w' := by
  have HB0 := Lib.hid ((Below.refl w.heap.size w).alloc (Nat.le_refl _) (.cells #[.int .i64 d, .int .i64 f, .int .i64 t] 34))
  by_cases h1 : 0 ≤ d ∧ d ≤ 7
  · have e1 := inB_yes h1.1 h1.2
    by_cases h2 : 0 ≤ f ∧ f ≤ 4
    · have e2 := inB_yes h2.1 h2.2
      by_cases h3 : 0 ≤ t ∧ t ≤ 4
      · have e3 := inB_yes h3.1 h3.2
        go_enter Try.func23, Try.ntmps23
        go_wp2_with fail
        refine (l01In_calls d 0 7 _).mono ?_
        rintro e w' ⟨rfl, rfl⟩
        go_wp2_with fail
        refine (l01In_calls f 0 4 _).mono ?_
        rintro e w' ⟨rfl, rfl⟩
        go_wp2_with fail
        refine (l01In_calls t 0 4 _).mono ?_
        rintro e w' ⟨rfl, rfl⟩
        go_wp2
        go_ret
        exact ⟨ret_plain (by unfold plainB; rw [decide_eq_true_iff]; omega), HB0.out⟩
      · have e3 := inB_no h3
        have H3 := Lib.hid h3
        clear h3
        go_enter Try.func23, Try.ntmps23
        go_wp2_with fail
        refine (l01In_calls d 0 7 _).mono ?_
        rintro e w' ⟨rfl, rfl⟩
        go_wp2_with fail
        refine (l01In_calls f 0 4 _).mono ?_
        rintro e w' ⟨rfl, rfl⟩
        go_wp2_with fail
        refine (l01In_calls t 0 4 _).mono ?_
        rintro e w' ⟨rfl, rfl⟩
        go_wp2
        go_ret
        exact ⟨ret_plain (by unfold plainB; rw [decide_eq_false_iff_not]; rintro ⟨_, _, _, _, h, h'⟩; exact H3.out ⟨h, h'⟩), HB0.out⟩
    · have e2 := inB_no h2
      have H2 := Lib.hid h2
      clear h2
      go_enter Try.func23, Try.ntmps23
      go_wp2_with fail
      refine (l01In_calls d 0 7 _).mono ?_
      rintro e w' ⟨rfl, rfl⟩
      go_wp2_with fail
      refine (l01In_calls f 0 4 _).mono ?_
      rintro e w' ⟨rfl, rfl⟩
      go_wp2
      go_ret
      exact ⟨ret_plain (by unfold plainB; rw [decide_eq_false_iff_not]; rintro ⟨_, _, h, h', _⟩; exact H2.out ⟨h, h'⟩), HB0.out⟩
  · have e1 := inB_no h1
    have H1 := Lib.hid h1
    clear h1
    go_enter Try.func23, Try.ntmps23
    go_wp2_with fail
    refine (l01In_calls d 0 7 _).mono ?_
    rintro e w' ⟨rfl, rfl⟩
    go_wp2
    go_ret
    exact ⟨ret_plain (by unfold plainB; rw [decide_eq_false_iff_not]; rintro ⟨h, h', _⟩; exact H1.out ⟨h, h'⟩), HB0.out⟩

set_option maxHeartbeats 400000 in
theorem hasText_calls (d f t : Int) (w : World) :
    Calls Try.prog 25 #[.agg #[.int .i64 d, .int .i64 f, .int .i64 t]] w fun e w' => e = .returned (.bool (plainB d f t)) ∧ Below w.heap.size w w' := by
  have HB0 := Lib.hid ((Below.refl w.heap.size w).alloc (Nat.le_refl _) (.cells #[.int .i64 d, .int .i64 f, .int .i64 t] 34))
  by_cases h1 : 0 ≤ d
  · by_cases h1' : d < 8
    · by_cases h2 : 0 ≤ f ∧ f ≤ 4
      · have e2 : pegB 5 f = true := by rw [pegB_in]; exact inB_yes h2.1 (by omega)
        by_cases h3 : 0 ≤ t ∧ t ≤ 4
        · have e3 : pegB 5 t = true := by rw [pegB_in]; exact inB_yes h3.1 (by omega)
          go_enter Try.func25, Try.ntmps25
          go_wp2_with fail
          refine (isPeg_calls 5 f _).mono ?_
          rintro e w' ⟨rfl, rfl⟩
          go_wp2_with fail
          refine (isPeg_calls 5 t _).mono ?_
          rintro e w' ⟨rfl, rfl⟩
          go_wp2
          go_ret
          exact ⟨ret_plain (by unfold plainB; rw [decide_eq_true_iff]; omega), HB0.out⟩
        · have e3 : pegB 5 t = false := by rw [pegB_in]; exact inB_no (by omega)
          have H3 := Lib.hid h3
          clear h3
          go_enter Try.func25, Try.ntmps25
          go_wp2_with fail
          refine (isPeg_calls 5 f _).mono ?_
          rintro e w' ⟨rfl, rfl⟩
          go_wp2_with fail
          refine (isPeg_calls 5 t _).mono ?_
          rintro e w' ⟨rfl, rfl⟩
          go_wp2
          go_ret
          exact ⟨ret_plain (by unfold plainB; rw [decide_eq_false_iff_not]; rintro ⟨_, _, _, _, h, h'⟩; exact H3.out ⟨h, h'⟩), HB0.out⟩
      · have e2 : pegB 5 f = false := by rw [pegB_in]; exact inB_no (by omega)
        have H2 := Lib.hid h2
        clear h2
        go_enter Try.func25, Try.ntmps25
        go_wp2_with fail
        refine (isPeg_calls 5 f _).mono ?_
        rintro e w' ⟨rfl, rfl⟩
        go_wp2
        go_ret
        exact ⟨ret_plain (by unfold plainB; rw [decide_eq_false_iff_not]; rintro ⟨_, _, h, h', _⟩; exact H2.out ⟨h, h'⟩), HB0.out⟩
    · go_enter Try.func25, Try.ntmps25
      go_wp2
      go_ret
      exact ⟨ret_plain (by unfold plainB; rw [decide_eq_false_iff_not]; omega), HB0.out⟩
  · go_enter Try.func25, Try.ntmps25
    go_wp2
    go_ret
    exact ⟨ret_plain (by unfold plainB; rw [decide_eq_false_iff_not]; omega), HB0.out⟩

/-- What MoveText answers. -/
def mtV (d f t : Int) : ByteArray := if plainB d f t = true then mtxt d f t else ⟨#[]⟩
def mtE (d f t : Int) : Int := if plainB d f t = true then 0 else 2
theorem ret_se {a b : ByteArray} {x y : Int} (h : a = b) (h' : x = y) : Ending.returned (.tuple #[.string b, .int .i64 y]) = .returned (.tuple #[.string a, .int .i64 x]) := by rw [h, h']
theorem mt_yes {d f t : Int} (h : plainB d f t = true) : mtV d f t = mtxt d f t ∧ mtE d f t = 0 := by unfold mtV mtE; simp [h]
theorem mt_no {d f t : Int} (h : plainB d f t = false) : mtV d f t = ⟨#[]⟩ ∧ mtE d f t = 2 := by unfold mtV mtE; simp [h]

set_option maxHeartbeats 400000 in
theorem specMoveText_calls (d f t : Int) (w : World) :
    Calls Try.prog 11 #[.agg #[.int .i64 d, .int .i64 f, .int .i64 t]] w fun e w' => e = .returned (.tuple #[.string (mtV d f t), .int .i64 (mtE d f t)]) ∧ Below w.heap.size w w' := by
  have HB0 := Lib.hid ((Below.refl w.heap.size w).alloc (Nat.le_refl _) (.cells #[.int .i64 d, .int .i64 f, .int .i64 t] 34))
  have Y0 := Lib.hid (Box.new w 34 #[.int .i64 d, .int .i64 f, .int .i64 t])
  by_cases hp : plainB d f t = true
  · have hb := plain_yes hp
    have Q := Lib.hid (mt_yes hp)
    go_enter Try.func11, Try.ntmps11
    go_wp2_with fail
    refine (l01Plain_calls d f t _).mono ?_
    rintro e w1 ⟨rfl, hb1⟩
    have Y1 := Lib.hid (Box.below Y0.out hb1 (Box.lt Y0.out))
    have HB1 := Lib.hid (HB0.out.trans (hb1.mono HB0.out.size))
    clear hb1
    obtain ⟨m0, m1, m2⟩ := Y1.out.three
    go_wp2_with fail
    refine (l01MoveText_calls d f t _ (by omega) (by omega) (by omega) (by omega) (by omega) (by omega)).mono ?_
    rintro e w2 ⟨rfl, hb2⟩
    have HB2 := Lib.hid (HB1.out.trans (hb2.mono HB1.out.size))
    clear hb2
    go_wp2
    go_ret2
    exact ⟨ret_se Q.out.1 Q.out.2, HB2.out⟩
  · have hp' : plainB d f t = false := by simpa using hp
    have Q := Lib.hid (mt_no hp')
    clear hp
    go_enter Try.func11, Try.ntmps11
    go_wp2_with fail
    refine (l01Plain_calls d f t _).mono ?_
    rintro e w1 ⟨rfl, hb1⟩
    have HB1 := Lib.hid (HB0.out.trans (hb1.mono HB0.out.size))
    clear hb1
    go_wp2
    go_ret2
    exact ⟨ret_se Q.out.1 Q.out.2, HB1.out⟩

set_option maxHeartbeats 1000000 in
theorem implMoveText_calls (d f t : Int) (w : World) :
    Calls Try.prog 13 #[.agg #[.int .i64 d, .int .i64 f, .int .i64 t]] w fun e w' => e = .returned (.tuple #[.string (mtV d f t), .int .i64 (mtE d f t)]) ∧ Below w.heap.size w w' := by
  have HB0 := Lib.hid ((Below.refl w.heap.size w).alloc (Nat.le_refl _) (.cells #[.int .i64 d, .int .i64 f, .int .i64 t] 34))
  have Y0 := Lib.hid (Box.new w 34 #[.int .i64 d, .int .i64 f, .int .i64 t])
  by_cases hp : plainB d f t = true
  · have hb := plain_yes hp
    have Q := Lib.hid (mt_yes hp)
    go_enter Try.func13, Try.ntmps13
    go_wp2_with fail
    refine (hasText_calls d f t _).mono ?_
    rintro e w1 ⟨rfl, hb1⟩
    have Y1 := Lib.hid (Box.below Y0.out hb1 (Box.lt Y0.out))
    have HB1 := Lib.hid (HB0.out.trans (hb1.mono HB0.out.size))
    clear hb1
    obtain ⟨m0, m1, m2⟩ := Y1.out.three
    have hc : (convert 49 9 (.slice (some ⟨w1.heap.size, 0, none⟩) 5 5)).run Try.prog (w1.alloc (.cells #[.int .u8 (48 + d), .int .u8 58, .int .u8 (48 + f), .int .u8 62, .int .u8 (48 + t)] 5)).drew = .ok (.string (mtxt d f t)) (w1.alloc (.cells #[.int .u8 (48 + d), .int .u8 58, .int .u8 (48 + f), .int .u8 62, .int .u8 (48 + t)] 5)).drew :=
      conv_new w1.drew [dg d, 58, dg f, 62, dg t] #[.int .u8 (48 + d), .int .u8 58, .int .u8 (48 + f), .int .u8 62, .int .u8 (48 + t)] (by simp [dg_val (n := d) (by omega) (by omega), dg_val (n := f) (by omega) (by omega), dg_val (n := t) (by omega) (by omega)])
    go_wp2_with fail
    have D1 : ∀ W, Calls Try.prog 26 #[.int .i64 d] W fun e w' => e = .returned (.int .u8 (48 + d)) ∧ w' = W := fun W => (digit_calls d W (by omega) (by omega)).mono fun _ _ h => ⟨h.1, h.2.symm⟩
    have D2 : ∀ W, Calls Try.prog 26 #[.int .i64 f] W fun e w' => e = .returned (.int .u8 (48 + f)) ∧ w' = W := fun W => (digit_calls f W (by omega) (by omega)).mono fun _ _ h => ⟨h.1, h.2.symm⟩
    have D3 : ∀ W, Calls Try.prog 26 #[.int .i64 t] W fun e w' => e = .returned (.int .u8 (48 + t)) ∧ w' = W := fun W => (digit_calls t W (by omega) (by omega)).mono fun _ _ h => ⟨h.1, h.2.symm⟩
    go_still_tail 9, (by kernel_rfl)
    still_call (D1 _)
    repeat still_step
    still_call (D2 _)
    repeat still_step
    still_call (D3 _)
    repeat still_step
    refine wpStill_nil ?_
    change wpList _ _ _ _ _ w1.drew
    clear D1 D2 D3
    go_wp2
    go_ret2
    exact ⟨ret_se Q.out.1 Q.out.2, (HB1.out.alloc (HB1.out.size) _).drew⟩
  · have hp' : plainB d f t = false := by simpa using hp
    have Q := Lib.hid (mt_no hp')
    clear hp
    go_enter Try.func13, Try.ntmps13
    go_wp2_with fail
    refine (hasText_calls d f t _).mono ?_
    rintro e w1 ⟨rfl, hb1⟩
    have HB1 := Lib.hid (HB0.out.trans (hb1.mono HB0.out.size))
    clear hb1
    go_wp2
    go_ret2
    exact ⟨ret_se Q.out.1 Q.out.2, HB1.out⟩

end Go.Proofs.Ytppfheodpalmpac
