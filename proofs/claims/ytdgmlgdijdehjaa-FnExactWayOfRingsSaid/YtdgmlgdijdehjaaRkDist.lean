/- Contracts: distances of words of rings, by the specification's model and by the program. -/
import Derived.Test.YtdgmlgdijdehjaaRk
namespace Go.Proofs.Ytdgmlgdijdehjaa
open Go.RowKit
set_option linter.unusedVariables false

def rdE (L M : List Int) : Int := if rgB L = true ∧ rgB M = true then (if L.length = M.length then 0 else 2) else 1
def rdV (L M : List Int) : Int := if rdE L M = 0 then max (rkL L - rkL M) (-(rkL L - rkL M)) else 0
theorem rdE_one {L M : List Int} (h : rgB L = false) : rdE L M = 1 := by unfold rdE; rw [if_neg (by rw [h]; simp)]
theorem rdE_two {L M : List Int} (h : rgB M = false) : rdE L M = 1 := by unfold rdE; rw [if_neg (by rw [h]; simp)]
theorem rdE_len {L M : List Int} (h1 : rgB L = true) (h2 : rgB M = true) (h : ¬ L.length = M.length) : rdE L M = 2 := by unfold rdE; rw [if_pos ⟨h1, h2⟩, if_neg h]
theorem rdE_ok {L M : List Int} (h1 : rgB L = true) (h2 : rgB M = true) (h : L.length = M.length) : rdE L M = 0 := by unfold rdE; rw [if_pos ⟨h1, h2⟩, if_pos h]
theorem rdE_inv {L M : List Int} (h : rdE L M = 0) : rgB L = true ∧ rgB M = true ∧ L.length = M.length := by
  unfold rdE at h
  by_cases h1 : rgB L = true ∧ rgB M = true
  · rw [if_pos h1] at h
    by_cases h2 : L.length = M.length
    · exact ⟨h1.1, h1.2, h2⟩
    · rw [if_neg h2] at h; omega
  · rw [if_neg h1] at h; omega
theorem ret_intR {a b : Int} (h : b = a) : Ending.returned (.int .i64 a) = .returned (.int .i64 b) := by rw [h]

set_option maxHeartbeats 1000000 in
theorem l05Like_calls (A : Option Addr) (n c : Nat) (L : List Int) (B : Option Addr) (m d : Nat) (M : List Int) (w : World) (hL : L.length = n) (hn : n ≤ 1048576) (hI : Ints w A L) (hM : M.length = m) (hm : m ≤ 1048576) (hJ : Ints w B M) :
    Calls Try.prog 27 #[.slice A n c, .slice B m d] w fun e w' => e = .returned (.int .i64 (rdE L M)) ∧ w = w' := by
  have HL := Lib.hid hL
  have HM := Lib.hid hM
  clear hL hM
  by_cases h1 : rgB L = true
  · by_cases h2 : rgB M = true
    · by_cases h3 : n = m
      · subst h3
        have H := Lib.hid (rdE_ok h1 h2 (by rw [HL.out, HM.out]))
        have hd : ((n : Int) != (n : Int)) = false := by simp
        go_enter Try.func27, Try.ntmps27
        go_wp2_with fail
        refine (l05Is_calls A n c L _ HL.out hn hI).mono ?_
        rintro e w' ⟨rfl, rfl⟩
        go_wp2_with fail
        refine (l05Is_calls B n d M _ HM.out hm hJ).mono ?_
        rintro e w' ⟨rfl, rfl⟩
        go_wp2
        go_ret
        exact ⟨ret_intR H.out, rfl⟩
      · have H := Lib.hid (rdE_len h1 h2 (by rw [HL.out, HM.out]; exact h3))
        have hd : ((n : Int) != (m : Int)) = true := by simp; omega
        clear h3
        go_enter Try.func27, Try.ntmps27
        go_wp2_with fail
        refine (l05Is_calls A n c L _ HL.out hn hI).mono ?_
        rintro e w' ⟨rfl, rfl⟩
        go_wp2_with fail
        refine (l05Is_calls B m d M _ HM.out hm hJ).mono ?_
        rintro e w' ⟨rfl, rfl⟩
        go_wp2
        go_ret
        exact ⟨ret_intR H.out, rfl⟩
    · have h2' : rgB M = false := by simpa using h2
      have H := Lib.hid (rdE_two (L := L) h2')
      clear h2
      go_enter Try.func27, Try.ntmps27
      go_wp2_with fail
      refine (l05Is_calls A n c L _ HL.out hn hI).mono ?_
      rintro e w' ⟨rfl, rfl⟩
      go_wp2_with fail
      refine (l05Is_calls B m d M _ HM.out hm hJ).mono ?_
      rintro e w' ⟨rfl, rfl⟩
      go_wp2
      go_ret
      exact ⟨ret_intR H.out, rfl⟩
  · have h1' : rgB L = false := by simpa using h1
    have H := Lib.hid (rdE_one (M := M) h1')
    clear h1
    go_enter Try.func27, Try.ntmps27
    go_wp2_with fail
    refine (l05Is_calls A n c L _ HL.out hn hI).mono ?_
    rintro e w' ⟨rfl, rfl⟩
    go_wp2
    go_ret
    exact ⟨ret_intR H.out, rfl⟩

set_option maxHeartbeats 1000000 in
theorem codeOfRings_two (g : Nat) (A : Option Addr) (n c : Nat) (L : List Int) (B : Option Addr) (m d : Nat) (M : List Int) (w : World) (hx : Box w g 22 #[.slice A n c, .slice B m d]) (hL : L.length = n) (hn : n ≤ 1048576) (hI : Ints w A L) (hM : M.length = m) (hm : m ≤ 1048576) (hJ : Ints w B M) :
    Calls Try.prog 30 #[.slice (some ⟨g, 0, none⟩) 2 2] w fun e w' => e = .returned (.int .i64 (rdE L M)) ∧ Below w.heap.size w w' := by
  have HL := Lib.hid hL
  have HM := Lib.hid hM
  have hz := hx.lt
  obtain ⟨x0, x1, _, _⟩ := hx.two
  clear hL hM hx
  by_cases h1 : rgB L = true
  · by_cases h2 : rgB M = true
    · by_cases h3 : n = m
      · subst h3
        have H := Lib.hid (rdE_ok h1 h2 (by rw [HL.out, HM.out]))
        go_enter Try.func30, Try.ntmps30
        go_wp2
        refine wp_loop_rounds 3 ?_
        rw [rounds_succ]
        go_wp2_with fail
        refine (isRings_still A n c L _ HL.out hn hI).mono ?_
        rintro e w1 ⟨rfl, rfl⟩
        go_wp2
        rw [rounds_succ]
        go_wp2_with fail
        refine (isRings_still B n d M _ HM.out hn hJ).mono ?_
        rintro e w2 ⟨rfl, rfl⟩
        go_wp2
        rw [rounds_succ]
        go_wp2
        refine wp_loop_rounds 3 ?_
        rw [rounds_succ]
        go_wp2
        rw [rounds_succ]
        go_wp2
        rw [rounds_succ]
        go_wp2
        go_ret
        exact ⟨ret_intR H.out, Below.refl _ _⟩
      · have H := Lib.hid (rdE_len h1 h2 (by rw [HL.out, HM.out]; exact h3))
        have hd : ((m : Int) != (n : Int)) = true := by simp; omega
        clear h3
        go_enter Try.func30, Try.ntmps30
        go_wp2
        refine wp_loop_rounds 3 ?_
        rw [rounds_succ]
        go_wp2_with fail
        refine (isRings_still A n c L _ HL.out hn hI).mono ?_
        rintro e w1 ⟨rfl, rfl⟩
        go_wp2
        rw [rounds_succ]
        go_wp2_with fail
        refine (isRings_still B m d M _ HM.out hm hJ).mono ?_
        rintro e w2 ⟨rfl, rfl⟩
        go_wp2
        rw [rounds_succ]
        go_wp2
        refine wp_loop_rounds 3 ?_
        rw [rounds_succ]
        go_wp2
        rw [rounds_succ]
        go_wp2
        go_ret
        exact ⟨ret_intR H.out, Below.refl _ _⟩
    · have h2' : rgB M = false := by simpa using h2
      have H := Lib.hid (rdE_two (L := L) h2')
      clear h2
      go_enter Try.func30, Try.ntmps30
      go_wp2
      refine wp_loop_rounds 3 ?_
      rw [rounds_succ]
      go_wp2_with fail
      refine (isRings_still A n c L _ HL.out hn hI).mono ?_
      rintro e w1 ⟨rfl, rfl⟩
      go_wp2
      rw [rounds_succ]
      go_wp2_with fail
      refine (isRings_still B m d M _ HM.out hm hJ).mono ?_
      rintro e w2 ⟨rfl, rfl⟩
      go_wp2
      go_ret
      exact ⟨ret_intR H.out, Below.refl _ _⟩
  · have h1' : rgB L = false := by simpa using h1
    have H := Lib.hid (rdE_one (M := M) h1')
    clear h1
    go_enter Try.func30, Try.ntmps30
    go_wp2
    refine wp_loop_rounds 3 ?_
    rw [rounds_succ]
    go_wp2_with fail
    refine (isRings_still A n c L _ HL.out hn hI).mono ?_
    rintro e w1 ⟨rfl, rfl⟩
    go_wp2
    go_ret
    exact ⟨ret_intR H.out, Below.refl _ _⟩

end Go.Proofs.Ytdgmlgdijdehjaa
