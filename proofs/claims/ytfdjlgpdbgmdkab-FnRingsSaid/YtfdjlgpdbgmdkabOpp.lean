/- Contracts: opposite words of rings. -/
import Derived.Test.YtfdjlgpdbgmdkabTurn
import Derived.Test.YtfdjlgpdbgmdkabRgOf
namespace Go.Proofs.Ytfdjlgpdbgmdkab
open Go.RowKit
set_option linter.unusedVariables false

theorem rk_cons (x : Int) (t : List Int) : rkL (x :: t) = 2 * rkL t + (rbL t + x) % 2 := rfl
theorem rb_cons (x : Int) (t : List Int) : rbL (x :: t) = (rbL t + x) % 2 := rfl
theorem rk_mod : ∀ L : List Int, rkL L % 2 = rbL L % 2
  | [] => rfl
  | x :: t => by rw [rk_cons, rb_cons]; omega
theorem rb_mod : ∀ L : List Int, rbL L % 2 = rbL L
  | [] => rfl
  | x :: t => by rw [rb_cons]; omega
theorem rk_half (x : Int) (t : List Int) : rkL (x :: t) / 2 = rkL t := by rw [rk_cons]; omega
theorem rk_div : ∀ (i : Nat) (L : List Int), rkL L / 2 ^ i = rkL (L.drop i)
  | 0, L => by simp
  | i + 1, [] => by simp [rkL]
  | i + 1, x :: t => by
    rw [List.drop_succ_cons, ← rk_div i t, ← rk_half x t, Int.pow_succ, Int.mul_comm, ← Int.ediv_ediv_of_nonneg (by omega)]
theorem rwB_int {r : Int} (hr : 0 ≤ r) (i : Nat) : rwB r.toNat i = (r / 2 ^ i + r / 2 ^ (i + 1)) % 2 := by
  obtain ⟨m, rfl⟩ := Int.eq_ofNat_of_zero_le hr
  unfold rwB
  simp
/-- The word of the rank of a word is the word. -/
theorem rw_rk {L : List Int} (h : ∀ x ∈ L, 0 ≤ x ∧ x ≤ 1) : rwL (rkL L).toNat L.length = L := by
  have h0 := (rk_bd L h).2.1
  apply List.ext_getElem (by rw [rwL_len])
  intro i h1 h2
  have e : (rwL (rkL L).toNat L.length)[i] = rwB (rkL L).toNat i := by
    have := rwL_at (rkL L).toNat h2
    rw [List.getElem?_eq_getElem h1] at this
    simpa using this
  rw [e, rwB_int h0, rk_div, rk_div]
  have h3 := rk_mod (L.drop i)
  have h4 := rk_mod (L.drop (i + 1))
  have h5 : rbL (L.drop i) = (rbL (L.drop (i + 1)) + L[i]) % 2 := by
    rw [List.drop_eq_getElem_cons h2]
    rfl
  have hx := h L[i] (List.getElem_mem h2)
  omega
/-- The last ring is turned. -/
def oppL : List Int → List Int
  | [] => []
  | [x] => [1 - x]
  | x :: y :: t => x :: oppL (y :: t)
theorem oppL_turn : ∀ (L : List Int), L ≠ [] → oppL L = turnL L (L.length - 1)
  | [], h => absurd rfl h
  | [x], _ => by simp [oppL, turnL]
  | x :: y :: t, _ => by
    rw [oppL, oppL_turn (y :: t) (by simp)]
    unfold turnL
    simp
theorem oppL_len : ∀ L : List Int, (oppL L).length = L.length
  | [] => rfl
  | [x] => rfl
  | x :: y :: t => by rw [oppL, List.length_cons, oppL_len (y :: t)]; rfl
theorem oppL_bits : ∀ L : List Int, (∀ x ∈ L, 0 ≤ x ∧ x ≤ 1) → ∀ x ∈ oppL L, 0 ≤ x ∧ x ≤ 1
  | [], _, x, hx => by simp [oppL] at hx
  | [y], h, x, hx => by
    have := h y (by simp)
    simp [oppL] at hx
    omega
  | y :: z :: t, h, x, hx => by
    rw [oppL] at hx
    rcases List.mem_cons.1 hx with rfl | hx
    · exact h _ (by simp)
    · exact oppL_bits (z :: t) (fun q hq => h q (List.mem_cons_of_mem _ hq)) x hx
theorem opp_rank : ∀ L : List Int, L ≠ [] → (∀ x ∈ L, 0 ≤ x ∧ x ≤ 1) → rbL (oppL L) = 1 - rbL L ∧ rkL (oppL L) = 2 ^ L.length - 1 - rkL L
  | [], h, _ => absurd rfl h
  | [x], _, h => by
    have := h x (by simp)
    simp [oppL, rbL, rkL]
    omega
  | x :: y :: t, _, h => by
    obtain ⟨h1, h2⟩ := opp_rank (y :: t) (by simp) (fun q hq => h q (List.mem_cons_of_mem _ hq))
    have hb := (rk_bd (y :: t) (fun q hq => h q (List.mem_cons_of_mem _ hq))).1
    have hx := h x (by simp)
    rw [oppL]
    generalize hM : y :: t = M at *
    have e1 : rbL (x :: oppL M) = (rbL (oppL M) + x) % 2 := rfl
    have e2 : rbL (x :: M) = (rbL M + x) % 2 := rfl
    have e3 : rkL (x :: oppL M) = 2 * rkL (oppL M) + (rbL (oppL M) + x) % 2 := rfl
    have e4 : rkL (x :: M) = 2 * rkL M + (rbL M + x) % 2 := rfl
    rw [e1, e2, e3, e4, h1, h2, List.length_cons, Int.pow_succ]
    generalize (2 : Int) ^ M.length = P at *
    constructor <;> omega
theorem opp_word {L : List Int} (h : ∀ x ∈ L, 0 ≤ x ∧ x ≤ 1) : rwL ((2 ^ L.length - 1 - rkL L : Int)).toNat L.length = oppL L := by
  by_cases h0 : L = []
  · subst h0; rfl
  · have := rw_rk (oppL_bits L h)
    rw [(opp_rank L h0 h).2, oppL_len] at this
    exact this

/-- What OppositeRings answers. -/
def opV (L : List Int) : List Int := if rgB L = true then oppL L else []
theorem op_yes {L : List Int} (h : rgB L = true) : opV L = oppL L ∧ rgE L = 0 := ⟨by unfold opV; rw [if_pos h], (rg_yes h).2⟩
theorem op_no {L : List Int} (h : rgB L = false) : opV L = [] ∧ rgE L = 1 := ⟨by unfold opV; rw [h]; rfl, (rg_no h).2⟩
theorem opV_len (L : List Int) : (opV L).length ≤ 1048576 := by
  by_cases h : rgB L = true
  · rw [(op_yes h).1, oppL_len]; have := rgB_len h; omega
  · rw [(op_no (by simpa using h)).1]; simp

set_option maxHeartbeats 1000000 in
theorem specOppositeRings_ret (A : Option Addr) (n c : Nat) (L : List Int) (w : World) (hL : L.length = n) (hn : n ≤ 1048576) (hI : Ints w A L) :
    Calls Try.prog 24 #[.slice A n c] w (RetInts w (opV L).length (opV L) (rgE L)) := by
  by_cases h : rgB L = true
  · have H := Lib.hid (op_yes h)
    have h16 : n ≤ 16 := by have := rgB_len h; omega
    obtain ⟨N, hN⟩ : ∃ N : Nat, Hid (N = 2 ^ n) := ⟨_, rfl⟩
    have hNb : N ≤ 65536 := by rw [hN.out]; exact (pow2n16 h16).2
    have hr := rk_bd0 h
    have hr2 : rkL L + 1 ≤ (N : Int) := by
      have := (rk_bd L (rg_mem h)).2.2
      rw [hL] at this
      rw [hN.out]
      simpa using this
    obtain ⟨r, hrr⟩ := Int.eq_ofNat_of_zero_le (a := (N : Int) - 1 - rkL L) (by omega)
    have HW : Hid (rwL r n = oppL L) := by
      have := opp_word (rg_mem h)
      rw [hL] at this
      rw [← this]
      unfold Hid
      congr 1
      have : ((2 : Int) ^ n) = (N : Int) := by rw [hN.out]; simp
      rw [this, hrr]
      rfl
    have HL := Lib.hid hL
    have hrb : r ≤ 65536 := by omega
    have HS := Lib.hid h
    clear hL
    go_enter Try.func24, Try.ntmps24
    go_wp2_with fail
    refine (l05Is_calls A n c L _ HL.out hn hI).mono ?_
    rintro e w1 ⟨rfl, rfl⟩
    go_wp2_with fail
    refine (l01Size_two n N _ h16 hN).mono ?_
    rintro e w' ⟨rfl, rfl⟩
    go_wp2_with fail
    refine (l05Rank_calls A n c L _ HL.out hI HS.out).mono ?_
    rintro e w1 ⟨rfl, rfl⟩
    go_wp2_with fail
    refine (l05Word_calls n r _ h16 hrb).mono ?_
    rintro e w' ⟨A', c', rfl, hO, hb⟩
    have HO := Lib.hid hO
    have HB := Lib.hid hb
    clear hO hb hrr
    go_wp2
    go_ret2
    obtain ⟨q1, q2⟩ := H.out
    rw [q1, q2, oppL_len, HL.out]
    refine ⟨A', c', rfl, ?_, HB.out⟩
    rw [← HW.out]
    exact HO.out
  · have h' : rgB L = false := by simpa using h
    have H := Lib.hid (op_no h')
    clear h
    go_enter Try.func24, Try.ntmps24
    go_wp2_with fail
    refine (l05Is_calls A n c L _ hL hn hI).mono ?_
    rintro e w1 ⟨rfl, rfl⟩
    go_wp2
    go_ret2
    obtain ⟨q1, q2⟩ := H.out
    rw [q1, q2]
    exact retInts_zero rfl (Below.refl _ _)

set_option maxHeartbeats 1000000 in
theorem implOppositeRings_ret (A : Option Addr) (n c : Nat) (L : List Int) (w : World) (hL : L.length = n) (hn : n ≤ 1048576) (hI : Ints w A L) :
    Calls Try.prog 15 #[.slice A n c] w (RetIntsC w (opV L).length (opV L) (rgE L)) := by
  by_cases h : rgB L = true
  · have H := Lib.hid (op_yes h)
    have h16 : n ≤ 16 := by have := rgB_len h; omega
    have HL := Lib.hid hL
    have HS := Lib.hid h
    by_cases h0 : n = 0
    · subst h0
      have hnil : L = [] := List.eq_nil_of_length_eq_zero hL
      clear hL
      go_enter Try.func15, Try.ntmps15
      go_wp2_with fail
      refine (isRings_still A 0 c L _ HL.out hn hI).mono ?_
      rintro e w1 ⟨rfl, rfl⟩
      go_wp2
      go_ret2
      obtain ⟨q1, q2⟩ := H.out
      rw [q1, q2, hnil]
      exact retIntsC_zero rfl (Below.refl _ _)
    · obtain ⟨ad, rfl, _⟩ := hI 0 (by omega)
      obtain ⟨m, rfl⟩ : ∃ m, n = m + 1 := ⟨n - 1, by omega⟩
      have HT : Hid (turnL L m = oppL L) := by
        have := oppL_turn L (by intro e; rw [e] at hL; simp at hL)
        rw [this, hL]
        rfl
      have hb := rgB_at h
      have HBB := Lib.hid hb
      have he : ((m + 1 : Nat) : Int) - 1 = (m : Int) := by omega
      have h0' : (((m : Int) + 1) == 0) = false := by simp; omega
      clear hL h0 hb
      go_enter Try.func15, Try.ntmps15
      go_wp2_with fail
      refine (isRings_still (some ad) (m + 1) c L _ HL.out hn hI).mono ?_
      rintro e w1 ⟨rfl, rfl⟩
      go_wp2_with fail
      refine (withRingTurned_calls ad (m + 1) c L m _ HL.out h16 (by omega) hI HBB.out).mono ?_
      rintro e w2 ⟨A', c', d, rfl, hO, hb⟩
      have HO := Lib.hid hO
      have HB := Lib.hid hb
      clear hO hb
      go_wp2
      go_ret2
      obtain ⟨q1, q2⟩ := H.out
      rw [q1, q2, oppL_len, HL.out]
      refine ⟨A', c', d, rfl, ?_, HB.out⟩
      rw [← HT.out]
      exact HO.out
  · have h' : rgB L = false := by simpa using h
    have H := Lib.hid (op_no h')
    clear h
    go_enter Try.func15, Try.ntmps15
    go_wp2_with fail
    refine (isRings_still A n c L _ hL hn hI).mono ?_
    rintro e w1 ⟨rfl, rfl⟩
    go_wp2
    go_ret2
    obtain ⟨q1, q2⟩ := H.out
    rw [q1, q2]
    exact retIntsC_zero rfl (Below.refl _ _)

end Go.Proofs.Ytfdjlgpdbgmdkab
