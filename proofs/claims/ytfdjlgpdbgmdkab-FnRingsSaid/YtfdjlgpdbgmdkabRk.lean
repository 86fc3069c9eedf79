/- Contracts: ranks of words of rings, by the specification's model and by the program. -/
import Derived.Test.YtfdjlgpdbgmdkabRings
namespace Go.Proofs.Ytfdjlgpdbgmdkab
open Go.RowKit
set_option linter.unusedVariables false

def rbL : List Int → Int
  | [] => 0
  | x :: t => (rbL t + x) % 2
def rkL : List Int → Int
  | [] => 0
  | x :: t => 2 * rkL t + (rbL t + x) % 2
theorem bit_bd {a b : Int} (ha : 0 ≤ a ∧ a ≤ 1) (hb : 0 ≤ b ∧ b ≤ 1) : 0 ≤ (a + b) % 2 ∧ (a + b) % 2 ≤ 1 := by
  omega
theorem rk_bd : ∀ L : List Int, (∀ x ∈ L, 0 ≤ x ∧ x ≤ 1) → (0 ≤ rbL L ∧ rbL L ≤ 1) ∧ 0 ≤ rkL L ∧ rkL L + 1 ≤ 2 ^ L.length
  | [], _ => by simp [rbL, rkL]
  | x :: t, h => by
    obtain ⟨h1, h2, h3⟩ := rk_bd t (fun y hy => h y (List.mem_cons_of_mem _ hy))
    have hx := h x List.mem_cons_self
    have hb := bit_bd h1 hx
    refine ⟨hb, ?_, ?_⟩
    · unfold rkL; omega
    · unfold rkL; rw [List.length_cons, Int.pow_succ]; omega
theorem rg_mem {L : List Int} (h : rgB L = true) : ∀ x ∈ L, 0 ≤ x ∧ x ≤ 1 := by
  unfold rgB at h
  rw [Bool.and_eq_true, List.all_eq_true] at h
  exact fun x hx => inB_of (h.1 x hx)
theorem pow16 {n : Nat} (h : n ≤ 16) : (2 : Int) ^ n ≤ 65536 := by
  have h0 : (2 : Nat) ^ n ≤ 65536 := Nat.le_trans (Nat.pow_le_pow_right (by omega) h) (by decide)
  have h2 : ((2 ^ n : Nat) : Int) ≤ 65536 := by omega
  rwa [Int.natCast_pow] at h2
theorem rk_drop_bd {L : List Int} (h : rgB L = true) (j : Nat) : (0 ≤ rbL (L.drop j) ∧ rbL (L.drop j) ≤ 1) ∧ 0 ≤ rkL (L.drop j) ∧ rkL (L.drop j) ≤ 65535 := by
  obtain ⟨h1, h2, h3⟩ := rk_bd (L.drop j) (fun x hx => rg_mem h x (List.mem_of_mem_drop hx))
  have := pow16 (n := (L.drop j).length) (by have := rgB_len h; simp; omega)
  exact ⟨h1, h2, by omega⟩
theorem rk_drop {L : List Int} {j : Nat} (h : j < L.length) : rbL (L.drop j) = (rbL (L.drop (j + 1)) + L[j]?.getD 0) % 2 ∧ rkL (L.drop j) = 2 * rkL (L.drop (j + 1)) + (rbL (L.drop (j + 1)) + L[j]?.getD 0) % 2 := by
  rw [List.drop_eq_getElem_cons h, List.getElem?_eq_getElem h]
  exact ⟨rfl, rfl⟩
theorem rk_end {L : List Int} {n : Nat} (h : L.length = n) : rbL (L.drop n) = 0 ∧ rkL (L.drop n) = 0 := by
  rw [List.drop_eq_nil_of_le (by omega)]
  exact ⟨rfl, rfl⟩

set_option maxHeartbeats 400000 in
theorem l05Rank_calls (A : Option Addr) (n c : Nat) (L : List Int) (w : World) (hL : L.length = n) (hI : Ints w A L) (hs : rgB L = true) :
    Calls Try.prog 44 #[.slice A n c] w fun e w' => e = .returned (.int .i64 (rkL L)) ∧ w = w' := by
  have HL := Lib.hid hL
  have HS := Lib.hid hs
  have hn : n ≤ 16 := by have := rgB_len hs; omega
  clear hL hs
  go_enter Try.func44, Try.ntmps44
  go_wp2
  go_loop [3, 4, 5] (fun o b i => ∃ j : Nat, j ≤ n ∧ i = .int .i64 ((j : Int) - 1) ∧ o = .int .i64 (rkL (L.drop j)) ∧ b = .int .i64 (rbL (L.drop j))) (fun _ _ i => (intOf i + 1).toNat)
  case atStart => exact ⟨n, Nat.le_refl _, rfl, by rw [(rk_end HL.out).2], by rw [(rk_end HL.out).1]⟩
  case round =>
    obtain ⟨j, hj, rfl, rfl, rfl⟩ := hrel
    by_cases hlt : 0 < j
    · obtain ⟨k, rfl⟩ : ∃ k, j = k + 1 := ⟨j - 1, by omega⟩
      obtain ⟨ad, rfl, had, hc⟩ := hI k (by rw [HL.out]; omega)
      have hx := rgB_at HS.out k
      have hd := Lib.hid (rk_drop (L := L) (j := k) (by rw [HL.out]; omega))
      obtain ⟨h1, h2⟩ := rk_drop_bd HS.out (k + 1)
      have hb := bit_bd h1 hx
      have hidx : ((k + 1 : Nat) : Int) - 1 = (k : Int) := by omega
      have hj1 : (k : Int) < (n : Int) := by omega
      rw [hidx]
      clear hidx
      generalize hx0 : L[k]?.getD 0 = x at *
      generalize rbL (L.drop (k + 1)) = b at *
      generalize rkL (L.drop (k + 1)) = q at *
      have HX := Lib.hid hx0
      go_wp2
      go_round
      case rel => exact ⟨k, by omega, by first | rfl | (go_num), by rw [hd.out.2], by rw [hd.out.1]⟩
      case measure => simp [intOf]
    · obtain rfl : j = 0 := by omega
      go_wp2
      go_ret
      exact ⟨rfl, rfl⟩

/-- The boxes of the rest and of the rank. -/
def RBox (w : World) (a b : Nat) (r k : Int) : Prop := Box w a 2 #[.int .i64 r] ∧ Box w b 2 #[.int .i64 k] ∧ a ≠ b
theorem RBox.below {w w' : World} {a b : Nat} {r k : Int} (h : RBox w a b r k) (hb : Below w.heap.size w w') : RBox w' a b r k := ⟨h.1.below hb h.1.lt, h.2.1.below hb h.2.1.lt, h.2.2⟩

set_option maxHeartbeats 1000000 in
theorem ringRanker_calls (w : World) :
    Calls Try.prog 54 #[] w fun e w' => ∃ a b, e = .returned (.func (.func 61) #[] #[.pointer (some ⟨a, 0, none⟩), .pointer (some ⟨b, 0, none⟩)]) ∧ RBox w' a b 0 0 ∧ w.heap.size ≤ a ∧ w.heap.size ≤ b ∧ Below w.heap.size w w' := by
  have hmf : ∀ (fn : Fn) (first cap : Array Value) (w : World), (Instr.makeFunc fn first cap).run Try.prog w = .ok (.func fn first cap) w := fun _ _ _ _ => rfl
  go_enter Try.func54, Try.ntmps54
  go_wp2
  go_ret
  refine ⟨_, _, rfl, ⟨?_, (Box.new _ _ _).alloc _, by omega⟩, by omega, by omega, ((Below.refl _ _).alloc (Nat.le_refl _) _).alloc (by simp) _⟩
  have := Box.new (w.alloc (.cells #[.int .i64 0] 2)) 2 #[.int .i64 0]
  rwa [World.size_alloc] at this

set_option maxHeartbeats 400000 in
theorem ranker_calls (a b : Nat) (r k x : Int) (w : World) (hB : RBox w a b r k) (hr : 0 ≤ r ∧ r ≤ 1) (hk : 0 ≤ k ∧ k ≤ 100000) (hx : 0 ≤ x ∧ x ≤ 1) :
    Calls Try.prog 61 #[.int .i64 x, .pointer (some ⟨a, 0, none⟩), .pointer (some ⟨b, 0, none⟩)] w fun e w' => e = .returned (.int .i64 (2 * k + (r + x) % 2)) ∧ RBox w' a b ((r + x) % 2) (2 * k + (r + x) % 2) ∧ ∀ B, B ≤ a → B ≤ b → Below B w w' := by
  obtain ⟨hA, hC, hne⟩ := hB
  have ha := hA.lt
  have hb := hC.lt
  have hd := bit_bd hr hx
  obtain ⟨c0, f0⟩ := hA.one
  obtain ⟨c1, f1⟩ := hC.one
  go_enter Try.func61, Try.ntmps61
  go_wp2
  go_ret
  have e1 := hA.set 0 (.int .i64 ((r + x) % 2))
  have e2 := hC.other (a := ⟨a, 0, none⟩) (fun h => hne h.symm) (.int .i64 ((r + x) % 2))
  refine ⟨rfl, ⟨e1.other (a := ⟨b, 0, none⟩) hne _, ?_, hne⟩, fun B h1 h2 => ((Below.refl _ _).setCell h1 _).setCell h2 _⟩
  exact e2.set 0 (.int .i64 (2 * k + (r + x) % 2))

set_option maxHeartbeats 1000000 in
theorem rankOfRings_calls (A : Option Addr) (n c : Nat) (L : List Int) (w : World) (hL : L.length = n) (hI : Ints w A L) (hs : rgB L = true) :
    Calls Try.prog 34 #[.slice A n c] w fun e w' => e = .returned (.int .i64 (rkL L)) ∧ Below w.heap.size w w' := by
  have HL := Lib.hid hL
  have HS := Lib.hid hs
  have hn : n ≤ 16 := by have := rgB_len hs; omega
  clear hL hs
  go_enter Try.func34, Try.ntmps34
  go_wp2_with fail
  refine (ringRanker_calls _).mono ?_
  rintro e w1 ⟨a, b, rfl, hR, ha, hb, hbl⟩
  go_wp2
  go_loopw [3, 5] (fun o i wr => ∃ j : Nat, j ≤ n ∧ i = .int .i64 ((j : Int) - 1) ∧ o = .int .i64 (rkL (L.drop j)) ∧ RBox wr a b (rbL (L.drop j)) (rkL (L.drop j)) ∧ Below w.heap.size w wr) (fun _ i _ => (intOf i + 1).toNat)
  case atStart => exact ⟨n, Nat.le_refl _, rfl, by rw [(rk_end HL.out).2], by rw [(rk_end HL.out).1, (rk_end HL.out).2]; exact hR, hbl⟩
  case round =>
    obtain ⟨j, hj, rfl, rfl, hR2, hb2⟩ := hrel
    by_cases hlt : 0 < j
    · obtain ⟨k, rfl⟩ : ∃ k, j = k + 1 := ⟨j - 1, by omega⟩
      obtain ⟨ad, rfl, had, hc⟩ := (hI.below hb2) k (by rw [HL.out]; omega)
      have hx := rgB_at HS.out k
      have hd := Lib.hid (rk_drop (L := L) (j := k) (by rw [HL.out]; omega))
      obtain ⟨h1, h2⟩ := rk_drop_bd HS.out (k + 1)
      have hidx : ((k + 1 : Nat) : Int) - 1 = (k : Int) := by omega
      have hj1 : (k : Int) < (n : Int) := by omega
      rw [hidx]
      clear hidx
      generalize hx0 : L[k]?.getD 0 = x at *
      generalize rbL (L.drop (k + 1)) = r at *
      generalize rkL (L.drop (k + 1)) = q at *
      have HX := Lib.hid hx0
      have HR := Lib.hid hR2
      clear hR2 hR
      go_wp2_with fail
      refine (ranker_calls a b r q x _ HR.out h1 (by omega) (by first | exact hx | (have := HX.out; omega))).mono ?_
      rintro e w2 ⟨rfl, hR3, hb3⟩
      have HR3 := Lib.hid hR3
      have HB3 := Lib.hid (hb2.trans (hb3 _ ha hb))
      clear hR3 hb3
      go_wp2
      go_roundw
      case rel => exact ⟨k, by omega, by first | rfl | (go_num), by rw [hd.out.2], by rw [hd.out.2, hd.out.1]; exact HR3.out, HB3.out⟩
      case measure => simp [intOf]
    · obtain rfl : j = 0 := by omega
      go_wp2
      go_ret
      exact ⟨rfl, hb2⟩

def rgV (L : List Int) : Int := if rgB L = true then rkL L else 0
def rgE (L : List Int) : Int := if rgB L = true then 0 else 1
theorem rg_yes {L : List Int} (h : rgB L = true) : rgV L = rkL L ∧ rgE L = 0 := by unfold rgV rgE; rw [if_pos h, if_pos h]; exact ⟨rfl, rfl⟩
theorem rg_no {L : List Int} (h : rgB L = false) : rgV L = 0 ∧ rgE L = 1 := by unfold rgV rgE; rw [h]; exact ⟨rfl, rfl⟩

theorem specRankOfRings_calls (A : Option Addr) (n c : Nat) (L : List Int) (w : World) (hL : L.length = n) (hn : n ≤ 1048576) (hI : Ints w A L) :
    Calls Try.prog 20 #[.slice A n c] w fun e w' => e = .returned (.tuple #[.int .i64 (rgV L), .int .i64 (rgE L)]) ∧ Below w.heap.size w w' := by
  by_cases h : rgB L = true
  · have H := Lib.hid (rg_yes h)
    go_enter Try.func20, Try.ntmps20
    go_wp2_with fail
    refine (l05Is_calls A n c L _ hL hn hI).mono ?_
    rintro e w1 ⟨rfl, rfl⟩
    go_wp2_with fail
    refine (l05Rank_calls A n c L _ hL hI h).mono ?_
    rintro e w1 ⟨rfl, rfl⟩
    go_wp2
    go_ret2
    exact ⟨ret_two H.out.1 H.out.2, Below.refl _ _⟩
  · have h' : rgB L = false := by simpa using h
    have H := Lib.hid (rg_no h')
    clear h
    go_enter Try.func20, Try.ntmps20
    go_wp2_with fail
    refine (l05Is_calls A n c L _ hL hn hI).mono ?_
    rintro e w1 ⟨rfl, rfl⟩
    go_wp2
    go_ret2
    exact ⟨ret_two H.out.1 H.out.2, Below.refl _ _⟩

theorem implRankOfRings_calls (A : Option Addr) (n c : Nat) (L : List Int) (w : World) (hL : L.length = n) (hn : n ≤ 1048576) (hI : Ints w A L) :
    Calls Try.prog 11 #[.slice A n c] w fun e w' => e = .returned (.tuple #[.int .i64 (rgV L), .int .i64 (rgE L)]) ∧ Below w.heap.size w w' := by
  by_cases h : rgB L = true
  · have H := Lib.hid (rg_yes h)
    go_enter Try.func11, Try.ntmps11
    go_wp2_with fail
    refine (isRings_still A n c L _ hL hn hI).mono ?_
    rintro e w1 ⟨rfl, rfl⟩
    go_wp2_with fail
    refine (rankOfRings_calls A n c L _ hL hI h).mono ?_
    rintro e w1 ⟨rfl, hb⟩
    go_wp2
    go_ret2
    exact ⟨ret_two H.out.1 H.out.2, hb⟩
  · have h' : rgB L = false := by simpa using h
    have H := Lib.hid (rg_no h')
    clear h
    go_enter Try.func11, Try.ntmps11
    go_wp2_with fail
    refine (isRings_still A n c L _ hL hn hI).mono ?_
    rintro e w1 ⟨rfl, rfl⟩
    go_wp2
    go_ret2
    exact ⟨ret_two H.out.1 H.out.2, Below.refl _ _⟩
theorem rk_bd0 {L : List Int} (h : rgB L = true) : 0 ≤ rkL L ∧ rkL L ≤ 65535 := by
  have := (rk_drop_bd h 0).2
  simpa using this

end Go.Proofs.Ytfdjlgpdbgmdkab
