/- States: ranks, texts, stacks, tops, renamed states: no program. -/
import Derived.Test.YtfdjlgpdbgmdkaaRank
import Derived.Test.YtfdjlgpdbgmdkaaSor
import Derived.Test.YtfdjlgpdbgmdkaaStText
import Derived.Test.YtfdjlgpdbgmdkaaParse
import Derived.Test.YtfdjlgpdbgmdkaaStacks
import Derived.Test.YtfdjlgpdbgmdkaaTop
import Derived.Test.YtfdjlgpdbgmdkaaRenameI
import Derived.Test.YtfdjlgpdbgmdkaaLegalMoves
import Derived.Test.YtfdjlgpdbgmdkaaPerfect
import Derived.Test.YtfdjlgpdbgmdkaaIsPerf
namespace Go.Proofs.Ytfdjlgpdbgmdkaa
open Go.RowKit
set_option linter.unusedVariables false

theorem st_facts {p : Int} {L : List Int} (h : stateB p L = true) : fitsB p L.length = true ∧ ∀ x ∈ L, 0 ≤ x ∧ x ≤ p - 1 := by
  unfold stateB at h
  rw [Bool.and_eq_true, List.all_eq_true] at h
  exact ⟨h.1, fun x hx => by have := h.2 x hx; unfold inB at this; simpa using this⟩
theorem st_at {p : Int} {L : List Int} (h : stateB p L = true) {k : Nat} (hk : k < L.length) : 0 ≤ L[k]?.getD 0 ∧ L[k]?.getD 0 ≤ p - 1 := by
  rw [List.getElem?_eq_getElem hk]
  exact (st_facts h).2 _ (List.getElem_mem hk)
-- ranks
theorem rankL_bdS {p : Int} (hp : 3 ≤ p) : ∀ L : List Int, (∀ x ∈ L, 0 ≤ x ∧ x ≤ p - 1) → 0 ≤ rankL p L ∧ rankL p L ≤ powI p L.length - 1
  | [], _ => ⟨Int.le_refl _, by show (0 : Int) ≤ 1 - 1; omega⟩
  | x :: xs, h => by
    have ih := rankL_bdS hp xs (fun y hy => h y (List.mem_cons_of_mem _ hy))
    have hx := h x List.mem_cons_self
    have h1 : 0 ≤ rankL p xs * p := Int.mul_nonneg ih.1 (by omega)
    have h2 : rankL p xs * p ≤ (powI p xs.length - 1) * p := Int.mul_le_mul_of_nonneg_right ih.2 (by omega)
    rw [Int.sub_mul, Int.one_mul] at h2
    show 0 ≤ rankL p xs * p + x ∧ rankL p xs * p + x ≤ powI p xs.length * p - 1
    generalize rankL p xs * p = u at *
    generalize powI p xs.length * p = v at *
    omega
theorem rank_rest {p : Int} (hp : 3 ≤ p) {L : List Int} (h : ∀ x ∈ L, 0 ≤ x ∧ x ≤ p - 1) : ∀ j, j ≤ L.length → restR p j (rankL p L) = rankL p (L.drop j)
  | 0, _ => rfl
  | j + 1, hj => by
    show restR p j (rankL p L) / p = _
    rw [rank_rest hp h j (by omega), List.drop_eq_getElem_cons (by omega)]
    have hx := h (L[j]'(by omega)) (List.getElem_mem _)
    show (rankL p (L.drop (j + 1)) * p + _) / p = _
    rw [Int.add_comm, Int.add_mul_ediv_right _ _ (by omega), Int.ediv_eq_zero_of_lt hx.1 (by omega)]
    omega
theorem rank_back {p : Int} (hp : 3 ≤ p) {L : List Int} (h : ∀ x ∈ L, 0 ≤ x ∧ x ≤ p - 1) : ∀ j, j ≤ L.length → digR p j (rankL p L) = L.take j
  | 0, _ => rfl
  | j + 1, hj => by
    show digR p j (rankL p L) ++ [restR p j (rankL p L) % p] = _
    rw [rank_back hp h j (by omega), rank_rest hp h j (by omega), List.drop_eq_getElem_cons (by omega), List.take_succ_eq_append_getElem (by omega)]
    have hx := h (L[j]'(by omega)) (List.getElem_mem _)
    show L.take j ++ [(rankL p (L.drop (j + 1)) * p + _) % p] = _
    rw [Int.add_comm, Int.add_mul_emod_self_right, Int.emod_eq_of_lt hx.1 (by omega)]
theorem ss_rank {p : Int} {L : List Int} (h : stateB p L = true) : sorP p L.length (rankV p L) = p ∧ sorL p L.length (rankV p L) = L ∧ sorE p L.length (rankV p L) = 0 := by
  obtain ⟨hf, hx⟩ := st_facts h
  have hp := fitsB_bd hf
  have hb := rankL_bdS (by omega) L hx
  have hB : sorB p L.length (rankV p L) = true := by
    unfold sorB inB
    rw [hf, rankV_yes h, Int.toNat_natCast]
    simp
    omega
  obtain ⟨h1, h2, h3⟩ := sor_yes hB
  refine ⟨h1, ?_, h3⟩
  rw [h2, rankV_yes h, Int.toNat_natCast, rank_back (by omega) hx _ (Nat.le_refl _), List.take_length]
-- texts
theorem tsS_at (p : Int) (L : List Int) (k i : Nat) : (tsS p L k).data.toList.getD i 0 = (stB p L k).getD i 0 := by
  show (stB p L k).toArray.toList.getD i 0 = _
  rfl
theorem ss_text {p : Int} {L : List Int} (h : stateB p L = true) : (sttV p L).size ≤ 10 ∧ psP (sttV p L) = p ∧ psL (sttV p L) = L ∧ psE (sttV p L) = 0 := by
  obtain ⟨hf, hx⟩ := st_facts h
  have hp := fitsB_bd hf
  rw [stt_yes h]
  have hs := tsS_size p L L.length
  have d0 : dgt (tsS p L L.length) 0 = p := by
    unfold dgt
    rw [tsS_at]
    show ((dg p).toNat : Int) - 48 = p
    rw [dg_val (by omega) (by omega)]
    omega
  have d1 : dgt (tsS p L L.length) 1 = 10 := by
    unfold dgt
    rw [tsS_at]
    rfl
  have dj : ∀ j, j < L.length → dgt (tsS p L L.length) ((tsS p L L.length).size - 1 - j) = L[j]?.getD 0 := by
    intro j hj
    unfold dgt
    rw [tsS_at, hs, show L.length + 2 - 1 - j = (L.length - 1 - j) + 2 by omega]
    have e : (stB p L L.length).getD (L.length - 1 - j + 2) 0 = dg (L.getD j 0) := by
      show (dg p :: 58 :: (List.range L.length).map (fun j => dg (L.getD (L.length - 1 - j) 0))).getD (L.length - 1 - j + 2) 0 = _
      rw [List.getD_cons_succ, List.getD_cons_succ, List.getD_eq_getElem?_getD, List.getElem?_map, List.getElem?_range (by omega)]
      show dg (L.getD (L.length - 1 - (L.length - 1 - j)) 0) = _
      rw [show L.length - 1 - (L.length - 1 - j) = j by omega]
    have hr := st_at h hj
    rw [e, List.getD_eq_getElem?_getD, dg_val hr.1 (by omega)]
    omega
  have hL : prsL (tsS p L L.length) ((tsS p L L.length).size - 2) = L := by
    unfold prsL
    rw [hs, show L.length + 2 - 2 = L.length by omega]
    apply List.ext_getElem (by simp)
    intro j h1 h2
    have := dj j h2
    rw [hs, List.getElem?_eq_getElem h2] at this
    simpa using this
  have hok : okT (tsS p L L.length) = true := by
    unfold okT formT
    rw [hL, d0, h, d1, hs]
    simp
    omega
  obtain ⟨h1, h2, h3⟩ := ps_yes hok
  exact ⟨by rw [hs]; omega, by rw [h1, d0], by rw [h2, hL], h3⟩
-- stacks and tops
theorem stk_top {L : List Int} {a : Int} : ∀ k, k ≤ L.length → (stkL L a k = [] ∧ topF a (L.length - k) (L.drop (L.length - k)) = -1) ∨ (∃ (M : List Int) (x : Int), stkL L a k = M ++ [x] ∧ 0 ≤ x ∧ topF a (L.length - k) (L.drop (L.length - k)) = x)
  | 0, _ => by
    left
    refine ⟨rfl, ?_⟩
    rw [show L.length - 0 = L.length by omega, List.drop_length]
    rfl
  | k + 1, hk => by
    have ih := stk_top (L := L) (a := a) k (by omega)
    have e := topF_drop (a := a) (L := L) (k := L.length - (k + 1)) (by omega)
    rw [show L.length - (k + 1) + 1 = L.length - k by omega] at e
    rw [e]
    show (stkL L a k ++ _ = [] ∧ _) ∨ (∃ (M : List Int) (x : Int), stkL L a k ++ _ = M ++ [x] ∧ _)
    rw [show L.length - 1 - k = L.length - (k + 1) by omega]
    by_cases hc : L[L.length - (k + 1)]?.getD 0 = a
    · right
      rw [if_pos hc, if_pos hc]
      exact ⟨_, _, rfl, by omega, rfl⟩
    · rw [if_neg hc, if_neg hc, List.append_nil]
      exact ih
theorem ss_top {p : Int} {L : List Int} (h : stateB p L = true) {a : Nat} (ha : (a : Int) < p) : (stkL L a L.length = [] ∧ topE p a L = 4) ∨ (∃ (M : List Int) (x : Int), stkL L a L.length = M ++ [x] ∧ topV p a L = x ∧ topE p a L = 0) := by
  have hi : inB (a : Int) 0 (p - 1) = true := by unfold inB; simp; omega
  have ht := stk_top (L := L) (a := (a : Int)) L.length (Nat.le_refl _)
  rw [show L.length - L.length = 0 by omega, List.drop_zero] at ht
  rcases ht with ⟨h1, h2⟩ | ⟨M, x, h1, h2, h3⟩
  · left
    refine ⟨h1, ?_⟩
    have : ¬ 0 ≤ topL a L := by show ¬ 0 ≤ topF a 0 L; omega
    unfold topE
    rw [if_pos h, if_pos hi, if_neg this]
  · right
    have e : topL a L = x := h3
    refine ⟨M, x, h1, ?_, ?_⟩
    · unfold topV; rw [if_pos ⟨h, hi, by omega⟩, e]
    · unfold topE; rw [if_pos h, if_pos hi, if_pos (by omega)]
/-- The discs of the first i stacks, among the last k. -/
def cntS (L : List Int) (k : Nat) : Nat → Nat
  | 0 => 0
  | i + 1 => cntS L k i + (stkL L (i : Int) k).length
theorem cntS_step (L : List Int) (k : Nat) : ∀ i, cntS L (k + 1) i = cntS L k i + (if 0 ≤ L[L.length - 1 - k]?.getD 0 ∧ L[L.length - 1 - k]?.getD 0 < (i : Int) then 1 else 0)
  | 0 => by
    show 0 = 0 + _
    rw [if_neg (by omega)]
  | i + 1 => by
    show cntS L (k + 1) i + (stkL L (i : Int) k ++ _).length = (cntS L k i + (stkL L (i : Int) k).length) + _
    rw [cntS_step L k i, List.length_append]
    by_cases hc : L[L.length - 1 - k]?.getD 0 = (i : Int)
    · rw [if_pos hc, if_neg (by omega), if_pos (by omega)]
      simp
      omega
    · rw [if_neg hc]
      by_cases h2 : 0 ≤ L[L.length - 1 - k]?.getD 0 ∧ L[L.length - 1 - k]?.getD 0 < (i : Int)
      · rw [if_pos h2, if_pos (by omega)]; simp; omega
      · rw [if_neg h2, if_neg (by omega)]; simp
theorem cntS_zero (L : List Int) : ∀ i, cntS L 0 i = 0
  | 0 => rfl
  | i + 1 => by show cntS L 0 i + 0 = 0; rw [cntS_zero L i]
theorem ss_cnt {p : Int} {L : List Int} (h : stateB p L = true) : cntS L L.length p.toNat = L.length := by
  have hp := fitsB_bd (st_facts h).1
  have key : ∀ k, k ≤ L.length → cntS L k p.toNat = k := by
    intro k
    induction k with
    | zero => intro _; exact cntS_zero L _
    | succ k ih =>
      intro hk
      have hx := st_at h (k := L.length - 1 - k) (by omega)
      rw [cntS_step, ih (by omega), if_pos (by omega)]
  exact key _ (Nat.le_refl _)
theorem cntS_le (L : List Int) (k : Nat) : ∀ i, cntS L k i ≤ i * k
  | 0 => Nat.zero_le _
  | i + 1 => by
    have ih := cntS_le L k i
    have h2 : ∀ m, (stkL L (i : Int) m).length ≤ m := by
      intro m
      induction m with
      | zero => exact Nat.le_refl _
      | succ m ihm =>
        show (stkL L (i : Int) m ++ _).length ≤ m + 1
        rw [List.length_append]
        split <;> simp <;> omega
    have := h2 k
    show cntS L k i + _ ≤ (i + 1) * k
    rw [Nat.add_mul, Nat.one_mul]
    omega
-- renamed states
theorem perm3 (a b c : Int) (ha : 0 ≤ a ∧ a ≤ 2) (hb : 0 ≤ b ∧ b ≤ 2) (hc : 0 ≤ c ∧ c ≤ 2) (hab : a ≠ b) (hac : a ≠ c) (hbc : b ≠ c) (G : Int → Nat) : G a + G b + G c = G 0 + G 1 + G 2 := by
  have ea : a = 0 ∨ a = 1 ∨ a = 2 := by omega
  have eb : b = 0 ∨ b = 1 ∨ b = 2 := by omega
  have ec : c = 0 ∨ c = 1 ∨ c = 2 := by omega
  clear ha hb hc
  rcases ea with rfl | rfl | rfl
  all_goals rcases eb with rfl | rfl | rfl
  all_goals try (exfalso; omega)
  all_goals rcases ec with rfl | rfl | rfl
  all_goals try (exfalso; omega)
  all_goals omega
theorem perm4 (a b c d : Int) (ha : 0 ≤ a ∧ a ≤ 3) (hb : 0 ≤ b ∧ b ≤ 3) (hc : 0 ≤ c ∧ c ≤ 3) (hd : 0 ≤ d ∧ d ≤ 3) (hab : a ≠ b) (hac : a ≠ c) (had : a ≠ d) (hbc : b ≠ c) (hbd : b ≠ d) (hcd : c ≠ d) (G : Int → Nat) : G a + G b + G c + G d = G 0 + G 1 + G 2 + G 3 := by
  have ea : a = 0 ∨ a = 1 ∨ a = 2 ∨ a = 3 := by omega
  have eb : b = 0 ∨ b = 1 ∨ b = 2 ∨ b = 3 := by omega
  have ec : c = 0 ∨ c = 1 ∨ c = 2 ∨ c = 3 := by omega
  have ed : d = 0 ∨ d = 1 ∨ d = 2 ∨ d = 3 := by omega
  clear ha hb hc hd
  rcases ea with rfl | rfl | rfl | rfl
  all_goals rcases eb with rfl | rfl | rfl | rfl
  all_goals try (exfalso; omega)
  all_goals rcases ec with rfl | rfl | rfl | rfl
  all_goals try (exfalso; omega)
  all_goals rcases ed with rfl | rfl | rfl | rfl
  all_goals try (exfalso; omega)
  all_goals omega
theorem perm5 (a b c d e : Int) (ha : 0 ≤ a ∧ a ≤ 4) (hb : 0 ≤ b ∧ b ≤ 4) (hc : 0 ≤ c ∧ c ≤ 4) (hd : 0 ≤ d ∧ d ≤ 4) (he : 0 ≤ e ∧ e ≤ 4) (hab : a ≠ b) (hac : a ≠ c) (had : a ≠ d) (hae : a ≠ e) (hbc : b ≠ c) (hbd : b ≠ d) (hbe : b ≠ e) (hcd : c ≠ d) (hce : c ≠ e) (hde : d ≠ e) (G : Int → Nat) : G a + G b + G c + G d + G e = G 0 + G 1 + G 2 + G 3 + G 4 := by
  have ea : a = 0 ∨ a = 1 ∨ a = 2 ∨ a = 3 ∨ a = 4 := by omega
  have eb : b = 0 ∨ b = 1 ∨ b = 2 ∨ b = 3 ∨ b = 4 := by omega
  have ec : c = 0 ∨ c = 1 ∨ c = 2 ∨ c = 3 ∨ c = 4 := by omega
  have ed : d = 0 ∨ d = 1 ∨ d = 2 ∨ d = 3 ∨ d = 4 := by omega
  have ee : e = 0 ∨ e = 1 ∨ e = 2 ∨ e = 3 ∨ e = 4 := by omega
  clear ha hb hc hd he
  rcases ea with rfl | rfl | rfl | rfl | rfl
  all_goals rcases eb with rfl | rfl | rfl | rfl | rfl
  all_goals try (exfalso; omega)
  all_goals rcases ec with rfl | rfl | rfl | rfl | rfl
  all_goals try (exfalso; omega)
  all_goals rcases ed with rfl | rfl | rfl | rfl | rfl
  all_goals try (exfalso; omega)
  all_goals rcases ee with rfl | rfl | rfl | rfl | rfl
  all_goals try (exfalso; omega)
  all_goals omega

def cnt (g : Nat → Bool) : Nat → Nat
  | 0 => 0
  | j + 1 => cnt g j + (if g j = true then 1 else 0)
theorem cnt_congr {g g' : Nat → Bool} : ∀ j, (∀ t, t < j → g t = g' t) → cnt g j = cnt g' j
  | 0, _ => rfl
  | j + 1, h => by show cnt g j + _ = cnt g' j + _; rw [cnt_congr j (fun t ht => h t (by omega)), h j (by omega)]
theorem row_cnt (p : Int) (L : List Int) (d : Nat) : ∀ j, (rowM p L d j).length = cnt (fun t => legalB p L d (L[d]?.getD 0) t) j
  | 0 => rfl
  | j + 1 => by
    show (rowM p L d j ++ _).length = cnt _ j + _
    rw [List.length_append, row_cnt p L d j]
    congr 1
    show (if legalB p L d (L[d]?.getD 0) j = true then [((d : Int), L[d]?.getD 0, (j : Int))] else []).length = if legalB p L d (L[d]?.getD 0) j = true then 1 else 0
    split <;> rfl
theorem met_no {P : List Int} {v : Int} : ∀ j, metTo P j v = false → ∀ i, i < j → P[i]?.getD 0 ≠ v
  | 0, _, i, hi => absurd hi (by omega)
  | j + 1, h, i, hi => by
    rw [metTo, Bool.or_eq_false_iff] at h
    by_cases hij : i = j
    · subst hij
      intro e
      have := h.2
      simp [e] at this
    · exact met_no j h.1 i (by omega)
theorem ok_ne {k : Int} {P : List Int} : ∀ m, okTo k P m = true → ∀ j, j < m → ∀ i, i < j → P[i]?.getD 0 ≠ P[j]?.getD 0
  | 0, _, j, hj => absurd hj (by omega)
  | m + 1, h, j, hj => by
    rw [okTo, Bool.and_eq_true, Bool.and_eq_true] at h
    by_cases hjm : j = m
    · subst hjm
      exact met_no j (by simpa using h.2.2)
    · exact ok_ne m h.1 j (by omega)
theorem cnt_perm {p : Nat} {P : List Int} (hp : 3 ≤ p ∧ p ≤ 5) (h : permB p P = true) (g : Int → Bool) : cnt (fun t => g (P[t]?.getD 0)) p = cnt (fun t => g (t : Int)) p := by
  have hl : P.length = p := by have := perm_len h; omega
  have hok : okTo p P p = true := by
    unfold permB at h
    rw [Bool.and_eq_true, hl] at h
    exact h.2
  have hr := okTo_at p hok
  have hn := ok_ne p hok
  generalize hG : (fun x : Int => if g x = true then 1 else 0) = G
  have hg : ∀ x, (if g x = true then 1 else 0) = G x := fun x => by rw [← hG]
  have hc : p = 3 ∨ p = 4 ∨ p = 5 := by omega
  rcases hc with rfl | rfl | rfl
  · have k := perm3 (P[0]?.getD 0) (P[1]?.getD 0) (P[2]?.getD 0) (by have := hr 0 (by omega); omega) (by have := hr 1 (by omega); omega) (by have := hr 2 (by omega); omega) (hn 1 (by omega) 0 (by omega)) (hn 2 (by omega) 0 (by omega)) (hn 2 (by omega) 1 (by omega)) G
    simp only [cnt, hg]
    simp only [Nat.zero_add]
    exact k
  · have k := perm4 (P[0]?.getD 0) (P[1]?.getD 0) (P[2]?.getD 0) (P[3]?.getD 0) (by have := hr 0 (by omega); omega) (by have := hr 1 (by omega); omega) (by have := hr 2 (by omega); omega) (by have := hr 3 (by omega); omega) (hn 1 (by omega) 0 (by omega)) (hn 2 (by omega) 0 (by omega)) (hn 3 (by omega) 0 (by omega)) (hn 2 (by omega) 1 (by omega)) (hn 3 (by omega) 1 (by omega)) (hn 3 (by omega) 2 (by omega)) G
    simp only [cnt, hg]
    simp only [Nat.zero_add]
    exact k
  · have k := perm5 (P[0]?.getD 0) (P[1]?.getD 0) (P[2]?.getD 0) (P[3]?.getD 0) (P[4]?.getD 0) (by have := hr 0 (by omega); omega) (by have := hr 1 (by omega); omega) (by have := hr 2 (by omega); omega) (by have := hr 3 (by omega); omega) (by have := hr 4 (by omega); omega) (hn 1 (by omega) 0 (by omega)) (hn 2 (by omega) 0 (by omega)) (hn 3 (by omega) 0 (by omega)) (hn 4 (by omega) 0 (by omega)) (hn 2 (by omega) 1 (by omega)) (hn 3 (by omega) 1 (by omega)) (hn 4 (by omega) 1 (by omega)) (hn 3 (by omega) 2 (by omega)) (hn 4 (by omega) 2 (by omega)) (hn 4 (by omega) 3 (by omega)) G
    simp only [cnt, hg]
    simp only [Nat.zero_add]
    exact k

theorem ren_get {p : Int} {L P : List Int} (h : stateB p L = true) {i : Nat} (hi : i < L.length) : (rnL L P).getD i 0 = P[(L.getD i 0).toNat]?.getD 0 := by
  unfold rnL
  rw [List.getD_eq_getElem?_getD, List.getElem?_map, List.getElem?_eq_getElem hi, List.getD_eq_getElem?_getD, List.getElem?_eq_getElem hi]
  rfl
theorem legal_iff {p : Int} {L : List Int} {d f t : Int} : legalB p L d f t = true ↔ (0 ≤ d ∧ d < L.length ∧ 0 ≤ t ∧ t < p ∧ f ≠ t ∧ L.getD d.toNat 0 = f) ∧ ∀ i, i < d.toNat → L.getD i 0 ≠ f ∧ L.getD i 0 ≠ t := by
  unfold legalB
  rw [Bool.and_eq_true, decide_eq_true_iff, List.all_eq_true]
  constructor
  · rintro ⟨h1, h2⟩
    refine ⟨h1, fun i hi => ?_⟩
    have := h2 i (List.mem_range.2 hi)
    rw [Bool.and_eq_true, bne_iff_ne, bne_iff_ne] at this
    exact this
  · rintro ⟨h1, h2⟩
    refine ⟨h1, fun i hi => ?_⟩
    rw [Bool.and_eq_true, bne_iff_ne, bne_iff_ne]
    exact h2 i (List.mem_range.1 hi)
theorem ren_legal {p : Nat} {L P : List Int} (h : stateB p L = true) (hP : permB p P = true) {d t : Nat} (hd : d < L.length) (ht : t < p) : legalB p (rnL L P) d ((rnL L P)[d]?.getD 0) (P[t]?.getD 0) = legalB p L d (L[d]?.getD 0) t := by
  have hl : P.length = p := by have := perm_len hP; omega
  have hok : okTo p P p = true := by
    unfold permB at hP
    rw [Bool.and_eq_true, hl] at hP
    exact hP.2
  have hr := okTo_at p hok
  have hn := ok_ne p hok
  have inj : ∀ i j, i < p → j < p → (P[i]?.getD 0 = P[j]?.getD 0 ↔ i = j) := by
    intro i j hi hj
    constructor
    · intro e
      by_cases h1 : i < j
      · exact absurd e (hn j hj i h1)
      · by_cases h2 : j < i
        · exact absurd e.symm (hn i hi j h2)
        · omega
    · rintro rfl; rfl
  have hx : ∀ i, i < L.length → 0 ≤ L.getD i 0 ∧ L.getD i 0 ≤ (p : Int) - 1 := fun i hi => by rw [List.getD_eq_getElem?_getD]; exact st_at h hi
  have hlen : (rnL L P).length = L.length := by unfold rnL; simp
  have hrt := hr t ht
  have e1 : ∀ i, i < L.length → ∀ j, j < L.length → ((rnL L P).getD i 0 = (rnL L P).getD j 0 ↔ L.getD i 0 = L.getD j 0) := by
    intro i hi j hj
    have a1 := hx i hi
    have a2 := hx j hj
    rw [ren_get h hi, ren_get h hj, inj _ _ (by omega) (by omega)]
    omega
  have e2 : ∀ i, i < L.length → ((rnL L P).getD i 0 = P[t]?.getD 0 ↔ L.getD i 0 = (t : Int)) := by
    intro i hi
    have a1 := hx i hi
    rw [ren_get h hi, inj _ _ (by omega) ht]
    omega
  rw [show (rnL L P)[d]?.getD 0 = (rnL L P).getD d 0 from (List.getD_eq_getElem?_getD ..).symm, show L[d]?.getD 0 = L.getD d 0 from (List.getD_eq_getElem?_getD ..).symm, Bool.eq_iff_iff, legal_iff, legal_iff, hlen, Int.toNat_natCast]
  constructor
  · rintro ⟨⟨a, b, c1, c2, c3, c4⟩, c5⟩
    exact ⟨⟨a, b, by omega, by omega, fun e => c3 ((e2 d hd).2 e), rfl⟩, fun i hi => ⟨fun e => (c5 i hi).1 ((e1 i (by omega) d hd).2 e), fun e => (c5 i hi).2 ((e2 i (by omega)).2 e)⟩⟩
  · rintro ⟨⟨a, b, c1, c2, c3, c4⟩, c5⟩
    exact ⟨⟨a, b, by omega, by omega, fun e => c3 ((e2 d hd).1 e), rfl⟩, fun i hi => ⟨fun e => (c5 i hi).1 ((e1 i (by omega) d hd).1 e), fun e => (c5 i hi).2 ((e2 i (by omega)).1 e)⟩⟩
theorem ren_moves {p : Nat} {L P : List Int} (h : stateB p L = true) (hP : permB p P = true) : ∀ d, d ≤ L.length → (movesTo p (rnL L P) d).length = (movesTo p L d).length
  | 0, _ => rfl
  | d + 1, hd => by
    have hp := fitsB_bd (st_facts h).1
    show (movesTo p (rnL L P) d ++ rowM p (rnL L P) d _).length = (movesTo p L d ++ rowM p L d _).length
    rw [List.length_append, List.length_append, ren_moves h hP d (by omega), row_cnt, row_cnt, Int.toNat_natCast, ← cnt_perm (by omega) hP (fun x => legalB p (rnL L P) d ((rnL L P)[d]?.getD 0) x)]
    congr 1
    exact cnt_congr p (fun t ht => ren_legal h hP (by omega) ht)
theorem ren_state {p : Nat} {L P : List Int} (h : stateB p L = true) (hP : permB p P = true) : stateB p (rnL L P) = true := by
  have hl : P.length = p := by have := perm_len hP; omega
  have hok : okTo p P p = true := by
    unfold permB at hP
    rw [Bool.and_eq_true, hl] at hP
    exact hP.2
  have hr := okTo_at p hok
  obtain ⟨hf, hx⟩ := st_facts h
  have hlen : (rnL L P).length = L.length := by unfold rnL; simp
  unfold stateB
  rw [hlen, hf, Bool.true_and, List.all_eq_true]
  intro y hy
  unfold rnL at hy
  obtain ⟨x, hxm, rfl⟩ := List.mem_map.1 hy
  have h1 := hx x hxm
  have h2 := hr x.toNat (by omega)
  unfold inB
  simp
  omega
theorem ss_ren {p : Int} {L P : List Int} (hE : rpE p L P = 0) : stateB p L = true ∧ rpP p L P = p ∧ stateB p (rpV p L P) = true ∧ (lmL p L).length = (lmL p (rpV p L P)).length := by
  have h : stateB p L = true := by
    cases e : stateB p L
    · unfold rpE at hE; rw [e] at hE; simp at hE
    · rfl
  have hP : permB p P = true := by
    cases e : permB p P
    · unfold rpE at hE; rw [h, e] at hE; simp at hE
    · rfl
  have hp := fitsB_bd (st_facts h).1
  obtain ⟨q, rfl⟩ := Int.eq_ofNat_of_zero_le (show 0 ≤ p by omega)
  obtain ⟨r1, r2, _⟩ := rp_yes h hP
  have h2 := ren_state h hP
  refine ⟨h, r1, by rw [r2]; exact h2, ?_⟩
  rw [r2, lmL_yes h, lmL_yes h2]
  unfold movesL
  have hlen : (rnL L P).length = L.length := by unfold rnL; simp
  rw [hlen]
  exact (ren_moves h hP _ (Nat.le_refl _)).symm
theorem ss_perf {k n a : Int} (hE : perfE k n a = 0) : perfP k n a = k ∧ ipV k (perfL k n a) = true ∧ codeS k (perfL k n a) = 0 := by
  have hB : perfB k n a = true := by
    cases e : perfB k n a
    · unfold perfE at hE; rw [e] at hE; simp at hE
    · rfl
  have e1 : perfP k n a = k := by unfold perfP; rw [if_pos hB]
  have e2 : perfL k n a = List.replicate n.toNat a := by unfold perfL; rw [if_pos hB]
  unfold perfB at hB
  rw [Bool.and_eq_true] at hB
  have hf := fitsB_bd hB.1
  have hs : stateB k (List.replicate n.toNat a) = true := by
    unfold stateB
    rw [List.length_replicate, show ((n.toNat : Nat) : Int) = n by omega, hB.1, Bool.true_and, List.all_eq_true]
    intro x hx
    rw [(List.mem_replicate.1 hx).2]
    exact hB.2
  refine ⟨e1, ?_, by rw [e2]; exact codeS_yes hs⟩
  rw [e2]
  unfold ipV allEq
  rw [hs, Bool.true_and, List.all_eq_true]
  intro x hx
  have h1 := List.mem_replicate.1 hx
  rw [h1.2, List.getD_eq_getElem?_getD, List.getElem?_replicate]
  rw [if_pos (by omega)]
  simp

end Go.Proofs.Ytfdjlgpdbgmdkaa
