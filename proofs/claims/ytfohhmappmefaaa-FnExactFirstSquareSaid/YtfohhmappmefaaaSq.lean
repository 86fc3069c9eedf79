/- Contracts: squares in texts. -/
import Derived.Test.YtfohhmappmefaaaBase
import Derived.Test.YtfohhmappmefaaaRows
import Derived.ProofKit
import Derived.BigQuiet
import Derived.WalkLawsBesides
import Derived.Laws.IdiomStrings
import Derived.Laws.Strings3
import Derived.Laws.DeepStrings4
namespace Go.Proofs.Ytfohhmappmefaaa
open Go.RowKit
open Go.RowKit (wrap64)
set_option linter.unusedVariables false

/-- Whether a square with parts of n bytes begins at i. -/
def sq (s : ByteArray) (i n : Nat) : Bool := (s.extract i (i + n)).toList == (s.extract (i + n) (i + 2 * n)).toList
def sq0 (s : ByteArray) (n : Nat) : Bool := (s.extract 0 n).toList == (s.extract n (2 * n)).toList
/-- The least n from n on with 2 n at most m that is one of p. -/
def sqP (p : Nat → Bool) (m : Nat) : Nat → Nat → Option Nat
  | 0, _ => none
  | g + 1, n => if 2 * n ≤ m then (if p n = true then some n else sqP p m g (n + 1)) else none
def sqAt (s : ByteArray) (i : Nat) : Option Nat := sqP (sq s i) (s.size - i) (s.size - i + 1) 1
def fsFrom (s : ByteArray) : Nat → Nat → Option (Nat × Nat)
  | 0, _ => none
  | g + 1, i => if i < s.size then (match sqAt s i with | some n => some (i, n) | none => fsFrom s g (i + 1)) else none
theorem sqP_yes {p : Nat → Bool} {m g n : Nat} (h : 2 * n ≤ m) (h2 : p n = true) : sqP p m (g + 1) n = some n := by unfold sqP; rw [if_pos h, if_pos h2]
theorem sqP_no {p : Nat → Bool} {m g n : Nat} (h : 2 * n ≤ m) (h2 : p n = false) : sqP p m (g + 1) n = sqP p m g (n + 1) := by rw [sqP, if_pos h, h2]; rfl
theorem sqP_end {p : Nat → Bool} {m g n : Nat} (h : ¬ 2 * n ≤ m) : sqP p m g n = none := by
  cases g with
  | zero => rfl
  | succ g => unfold sqP; rw [if_neg h]
theorem sqP_congr {p q : Nat → Bool} {m : Nat} (h : ∀ n, 2 * n ≤ m → p n = q n) : ∀ g n, sqP p m g n = sqP q m g n
  | 0, _ => rfl
  | g + 1, n => by
    by_cases hn : 2 * n ≤ m
    · cases hp : p n with
      | true => rw [sqP_yes hn hp, sqP_yes hn (by rw [← h n hn, hp])]
      | false => rw [sqP_no hn hp, sqP_no hn (by rw [← h n hn, hp]), sqP_congr h g (n + 1)]
    · rw [sqP_end hn, sqP_end hn]
theorem sq_part {s : ByteArray} {i n : Nat} (h : i + 2 * n ≤ s.size) : sq0 (s.extract i s.size) n = sq s i n := by
  unfold sq0 sq
  rw [ByteArray.extract_extract, ByteArray.extract_extract, Nat.min_eq_left (by omega), Nat.min_eq_left (by omega), Nat.add_zero]
theorem size_from (s : ByteArray) (i : Nat) : (s.extract i s.size).size = s.size - i := by rw [ByteArray.size_extract]; omega
theorem sqAt_part {s : ByteArray} {i : Nat} (hi : i ≤ s.size) : sqP (sq0 (s.extract i s.size)) (s.extract i s.size).size ((s.extract i s.size).size + 1) 1 = sqAt s i := by
  rw [size_from]
  exact sqP_congr (fun n hn => sq_part (by omega)) _ _
theorem fsFrom_yes {s : ByteArray} {i g n : Nat} (h : i < s.size) (h2 : sqAt s i = some n) : fsFrom s (g + 1) i = some (i, n) := by unfold fsFrom; rw [if_pos h, h2]
theorem fsFrom_no {s : ByteArray} {i g : Nat} (h : i < s.size) (h2 : sqAt s i = none) : fsFrom s (g + 1) i = fsFrom s g (i + 1) := by rw [fsFrom, if_pos h, h2]
theorem fsFrom_end {s : ByteArray} {i g : Nat} (h : ¬ i < s.size) : fsFrom s g i = none := by
  cases g with
  | zero => rfl
  | succ g => unfold fsFrom; rw [if_neg h]
theorem sqP_fuel {p : Nat → Bool} {m n : Nat} : ∀ g k, sqP p m g k = some n → 2 * n ≤ m
  | 0, k, h => by cases h
  | g + 1, k, h => by
    by_cases hn : 2 * k ≤ m
    · cases hp : p k with
      | true => rw [sqP_yes hn hp] at h; cases h; exact hn
      | false => rw [sqP_no hn hp] at h; exact sqP_fuel g (k + 1) h
    · rw [sqP_end hn] at h; cases h
def fsO (s : ByteArray) : Option (Nat × Nat) := fsFrom s (s.size + 1) 0
def fsB (s : ByteArray) : Int := if 400 < s.size then 0 else match fsO s with | some (b, _) => b | none => 0
def fsN (s : ByteArray) : Int := if 400 < s.size then 0 else match fsO s with | some (_, n) => n | none => 0
def fsE (s : ByteArray) : Int := if 400 < s.size then 2 else match fsO s with | some _ => 0 | none => 4
theorem fs_big {s : ByteArray} (h : 400 < s.size) : fsB s = 0 ∧ fsN s = 0 ∧ fsE s = 2 := by unfold fsB fsN fsE; rw [if_pos h, if_pos h, if_pos h]; exact ⟨rfl, rfl, rfl⟩
theorem fs_some {s : ByteArray} (h : ¬ 400 < s.size) {b n : Nat} (h2 : fsO s = some (b, n)) : fsB s = b ∧ fsN s = n ∧ fsE s = 0 := by unfold fsB fsN fsE; rw [if_neg h, if_neg h, if_neg h, h2]; exact ⟨rfl, rfl, rfl⟩
theorem fs_none {s : ByteArray} (h : ¬ 400 < s.size) (h2 : fsO s = none) : fsB s = 0 ∧ fsN s = 0 ∧ fsE s = 4 := by unfold fsB fsN fsE; rw [if_neg h, if_neg h, if_neg h, h2]; exact ⟨rfl, rfl, rfl⟩
theorem ret_three {a b c a' b' c' : Int} (h : a = a' ∧ b = b' ∧ c = c') : Ending.returned (.tuple #[.int .i64 a', .int .i64 b', .int .i64 c']) = .returned (.tuple #[.int .i64 a, .int .i64 b, .int .i64 c]) := by rw [h.1, h.2.1, h.2.2]
def sqV (o : Option Nat) : Int := match o with | some n => n | none => 0
def sqB (o : Option Nat) : Bool := match o with | some _ => true | none => false
theorem ret_sq {a b : Int} {p q : Bool} (h : a = b) (h2 : p = q) : Ending.returned (.tuple #[.int .i64 b, .bool q]) = .returned (.tuple #[.int .i64 a, .bool p]) := by rw [h, h2]
theorem sqV_some {o : Option Nat} {n : Nat} (h : o = some n) : sqV o = n ∧ sqB o = true := by rw [h]; exact ⟨rfl, rfl⟩
theorem sqV_none {o : Option Nat} (h : o = none) : sqV o = 0 ∧ sqB o = false := by rw [h]; exact ⟨rfl, rfl⟩
def sqO (s : ByteArray) : Option Nat := sqP (sq0 s) s.size (s.size + 1) 1

set_option maxHeartbeats 1000000 in
theorem squareAtStart_calls (s : ByteArray) (w : World) (hs : s.size ≤ 400) :
    Calls Try.prog 12 #[.string s] w fun e w' => e = .returned (.tuple #[.int .i64 (sqV (sqO s)), .bool (sqB (sqO s))]) ∧ Below w.heap.size w w' := by
  go_enter Try.func12, Try.ntmps12
  go_wp2
  go_loopw [4] (fun i wr => ∃ n g : Nat, 1 ≤ n ∧ n + g = s.size + 2 ∧ i = .int .i64 n ∧ Hid (sqO s = sqP (sq0 s) s.size g n) ∧ Below w.heap.size w wr) (fun i _ => s.size + 2 - (intOf i).toNat)
  case atStart => exact ⟨1, s.size + 1, Nat.le_refl _, by omega, rfl, rfl, Below.refl _ _⟩
  case round =>
    obtain ⟨n, g, hn1, hng, rfl, hsq, hb⟩ := hrel
    have HB := Lib.hid hb
    clear hb
    by_cases hlt : 2 * n ≤ s.size
    · have c1 : 0 ≤ (n : Int) ∧ (n : Int) ≤ (s.size : Int) := by omega
      have c2 : 0 ≤ 2 * (n : Int) ∧ 2 * (n : Int) ≤ (s.size : Int) := by omega
      have c3 : 0 ≤ (n : Int) ∧ (n : Int) ≤ 2 * (n : Int) := by omega
      obtain ⟨g, rfl⟩ : ∃ g', g = g' + 1 := ⟨g - 1, by omega⟩
      cases hq : sq0 s n with
      | true =>
        have hq' : ((s.extract 0 n).toList == (s.extract n (2 * n)).toList) = true := hq
        have H := Lib.hid (sqV_some (hsq.out.trans (sqP_yes hlt hq)))
        clear hq
        go_wp2_with fail
        go_quiet (fail)
        go_wp2
        go_ret2
        exact ⟨ret_sq H.out.1 H.out.2, by first | exact belowDraws HB.out _ | exact HB.out⟩
      | false =>
        have hq' : ((s.extract 0 n).toList == (s.extract n (2 * n)).toList) = false := hq
        have H := Lib.hid (hsq.out.trans (sqP_no hlt hq))
        have hng' : n + 1 + g = s.size + 2 := by omega
        clear hq
        go_wp2_with fail
        go_quiet (fail)
        go_wp2
        go_roundw
        case rel => exact ⟨n + 1, g, by omega, hng', by go_num, H, by first | exact belowDraws HB.out _ | exact HB.out⟩
        case measure => simp [intOf]; omega
    · have H := Lib.hid (sqV_none (hsq.out.trans (sqP_end hlt)))
      go_wp2
      go_ret2
      exact ⟨ret_sq H.out.1 H.out.2, HB.out⟩

set_option maxHeartbeats 1000000 in
theorem implFirstSquare_calls (s : ByteArray) (w : World) (hsz : s.size ≤ 1048576) :
    Calls Try.prog 6 #[.string s] w fun e w' => e = .returned (.tuple #[.int .i64 (fsB s), .int .i64 (fsN s), .int .i64 (fsE s)]) ∧ Below w.heap.size w w' := by
  by_cases hbig : 400 < s.size
  · have H := Lib.hid (fs_big hbig)
    go_enter Try.func6, Try.ntmps6
    go_wp2
    go_ret3
    exact ⟨ret_three H.out, Below.refl _ _⟩
  · have HBG := Lib.hid hbig
    have hs4 : s.size ≤ 400 := by omega
    clear hbig
    go_enter Try.func6, Try.ntmps6
    go_wp2
    go_loopw [5, 6, 7, 13] (fun _ _ _ i wr => ∃ b g : Nat, b + g = s.size + 1 ∧ i = .int .i64 b ∧ Hid (fsO s = fsFrom s g b) ∧ Below w.heap.size w wr) (fun _ _ _ i _ => s.size + 1 - (intOf i).toNat)
    case atStart => exact ⟨0, s.size + 1, by omega, rfl, rfl, Below.refl _ _⟩
    case round =>
      obtain ⟨b, g, hbg, rfl, hfs, hb⟩ := hrel
      have HB := Lib.hid hb
      have hsz2 := hb.size
      clear hb
      by_cases hlt : b < s.size
      · have c1 : 0 ≤ (b : Int) ∧ (b : Int) ≤ (s.size : Int) := by omega
        obtain ⟨g, rfl⟩ : ∃ g', g = g' + 1 := ⟨g - 1, by omega⟩
        have HP := Lib.hid (sqAt_part (s := s) (i := b) (by omega))
        have hsu : (s.extract b s.size).size ≤ 400 := by rw [size_from]; omega
        obtain ⟨u, hu⟩ : ∃ u, Hid (u = s.extract b s.size) := ⟨_, rfl⟩
        rw [← hu.out] at HP hsu
        go_wp2_with fail
        rw [← hu.out]
        refine (squareAtStart_calls u _ hsu).mono ?_
        rintro e w3 ⟨rfl, hb3⟩
        rw [show sqO u = sqAt s b from HP.out]
        have HB3 := Lib.hid (HB.out.trans (hb3.mono hsz2))
        clear hb3
        cases hq : sqAt s b with
        | some n =>
          have hnb := sqP_fuel _ _ (show sqP (sq s b) (s.size - b) (s.size - b + 1) 1 = some n from hq)
          have H := Lib.hid (fs_some HBG.out (hfs.out.trans (fsFrom_yes hlt hq)))
          rw [(sqV_some (rfl : some n = some n)).1, (sqV_some (rfl : some n = some n)).2]
          go_wp2
          go_ret3
          exact ⟨ret_three H.out, HB3.out⟩
        | none =>
          have H := Lib.hid (hfs.out.trans (fsFrom_no hlt hq))
          rw [(sqV_none (rfl : (none : Option Nat) = none)).1, (sqV_none (rfl : (none : Option Nat) = none)).2]
          have hbg' : b + 1 + g = s.size + 1 := by omega
          go_wp2
          go_roundw
          case rel => exact ⟨b + 1, g, hbg', by go_num, H, HB3.out⟩
          case measure => simp [intOf]; omega
      · have H := Lib.hid (fs_none HBG.out (hfs.out.trans (fsFrom_end hlt)))
        go_wp2
        go_ret3
        exact ⟨ret_three H.out, HB.out⟩

set_option maxHeartbeats 2000000 in
theorem specFirstSquare_calls (s : ByteArray) (w : World) (hsz : s.size ≤ 1048576) :
    Calls Try.prog 5 #[.string s] w fun e w' => e = .returned (.tuple #[.int .i64 (fsB s), .int .i64 (fsN s), .int .i64 (fsE s)]) ∧ Below w.heap.size w w' := by
  by_cases hbig : 400 < s.size
  · have H := Lib.hid (fs_big hbig)
    go_enter Try.func5, Try.ntmps5
    go_wp2
    go_ret3
    exact ⟨ret_three H.out, Below.refl _ _⟩
  · have HBG := Lib.hid hbig
    have hs4 : s.size ≤ 400 := by omega
    clear hbig
    go_enter Try.func5, Try.ntmps5
    go_wp2
    go_loopw [5, 6] (fun i _ wr => ∃ b g : Nat, b + g = s.size + 1 ∧ i = .int .i64 b ∧ Hid (fsO s = fsFrom s g b) ∧ Below w.heap.size w wr) (fun i _ _ => s.size + 1 - (intOf i).toNat)
    case atStart => exact ⟨0, s.size + 1, by omega, rfl, rfl, Below.refl _ _⟩
    case round =>
      obtain ⟨b, g, hbg, rfl, hfs, hb⟩ := hrel
      have HB := Lib.hid hb
      have hsz2 := hb.size
      clear hb
      by_cases hlt : b < s.size
      · obtain ⟨g, rfl⟩ : ∃ g', g = g' + 1 := ⟨g - 1, by omega⟩
        have hbg' : b + 1 + g = s.size + 1 := by omega
        obtain ⟨wm, rfl⟩ : ∃ x, x = wr := ⟨wr, rfl⟩
        go_wp2
        go_loopw [6] (fun i wr => ∃ n h : Nat, 1 ≤ n ∧ n + h = s.size - b + 2 ∧ i = .int .i64 n ∧ Hid (sqAt s b = sqP (sq s b) (s.size - b) h n) ∧ Below w.heap.size w wr) (fun i _ => s.size + 2 - (intOf i).toNat)
        case atStart => exact ⟨1, s.size - b + 1, Nat.le_refl _, by omega, rfl, rfl, HB.out⟩
        case round =>
          obtain ⟨n, h, hn1, hnh, rfl, hsq, hb5⟩ := hrel
          have HB5 := Lib.hid hb5
          clear hb5
          by_cases hle : b + 2 * n ≤ s.size
          · have hle' : 2 * n ≤ s.size - b := by omega
            have hle2 : (b : Int) + 2 * (n : Int) ≤ (s.size : Int) := by omega
            have c1 : 0 ≤ (b : Int) + (n : Int) ∧ (b : Int) + (n : Int) ≤ (s.size : Int) := by omega
            have c2 : 0 ≤ (b : Int) ∧ (b : Int) ≤ (b : Int) + (n : Int) := by omega
            have c3 : 0 ≤ (b : Int) + 2 * (n : Int) ∧ (b : Int) + 2 * (n : Int) ≤ (s.size : Int) := by omega
            have c4 : 0 ≤ (b : Int) + (n : Int) ∧ (b : Int) + (n : Int) ≤ (b : Int) + 2 * (n : Int) := by omega
            have e1 : ((b : Int) + (n : Int)).toNat = b + n := by omega
            have e2 : ((b : Int) + 2 * (n : Int)).toNat = b + 2 * n := by omega
            obtain ⟨h, rfl⟩ : ∃ g', h = g' + 1 := ⟨h - 1, by omega⟩
            cases hq : sq s b n with
            | true =>
              have hq' : ((s.extract b (b + n)).toList == (s.extract (b + n) (b + 2 * n)).toList) = true := hq
              have H := Lib.hid (fs_some HBG.out (hfs.out.trans (fsFrom_yes hlt (hsq.out.trans (sqP_yes hle' hq)))))
              clear hq
              go_wp2_with fail
              go_quiet (fail)
              go_wp2
              go_ret3
              exact ⟨ret_three H.out, by first | exact belowDraws HB5.out _ | exact HB5.out⟩
            | false =>
              have hq' : ((s.extract b (b + n)).toList == (s.extract (b + n) (b + 2 * n)).toList) = false := hq
              have H := Lib.hid (hsq.out.trans (sqP_no hle' hq))
              have hnh' : n + 1 + h = s.size - b + 2 := by omega
              clear hq
              go_wp2_with fail
              go_quiet (fail)
              go_wp2
              go_roundw
              case rel => exact ⟨n + 1, h, by omega, hnh', by go_num, H, by first | exact belowDraws HB5.out _ | exact HB5.out⟩
              case measure => simp [intOf]; omega
          · have H := Lib.hid (hfs.out.trans (fsFrom_no hlt (hsq.out.trans (sqP_end (by omega)))))
            have hle2 : ¬ (b : Int) + 2 * (n : Int) ≤ (s.size : Int) := by omega
            go_wp2
            go_roundw
            case rel => exact ⟨b + 1, g, hbg', by go_num, H, HB5.out⟩
            case measure => simp [intOf]; omega
      · have H := Lib.hid (fs_none HBG.out (hfs.out.trans (fsFrom_end hlt)))
        go_wp2
        go_ret3
        exact ⟨ret_three H.out, HB.out⟩

end Go.Proofs.Ytfohhmappmefaaa
