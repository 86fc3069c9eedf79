/- Contracts: two lists of lists that are alike; two states that are alike. -/
import Derived.Test.YtfdjlgpdbgmdkaaSSc
import Derived.Test.YtfdjlgpdbgmdkaaGreat
import Derived.Test.YtfdjlgpdbgmdkaaSS2
namespace Go.Proofs.Ytfdjlgpdbgmdkaa
open Go.RowKit
set_option linter.unusedVariables false
set_option maxRecDepth 100000

set_option maxHeartbeats 1000000 in
theorem rows5_calls (A A' : Option Addr) (n c n' c' : Nat) (rs rs' : List Rw) (w : World) (hL : rs.length = n) (hL' : rs'.length = n') (hn : n ≤ 1048576) (hn' : n' ≤ 1048576) (hb : ∀ r ∈ rs, r.n ≤ 1048576) (hb' : ∀ r ∈ rs', r.n ≤ 1048576) (hI : IntsSS w A rs) (hI' : IntsSS w A' rs') :
    Calls Try.prog 36 #[.slice A n c, .slice A' n' c'] w fun e w' => e = .returned (.bool (decide (LLof rs = LLof rs'))) ∧ ∃ m, w' = w.drewN m := by
  have HL := Lib.hid hL
  have HL' := Lib.hid hL'
  have HB := Lib.hid hb
  have HB' := Lib.hid hb'
  clear hL hL' hb hb'
  by_cases hne : n = n'
  · subst hne
    go_enter Try.func36, Try.ntmps36
    go_wp2
    go_loopw [5] (fun i wr => ∃ k : Nat, k ≤ n ∧ i = .int .i64 k ∧ Hid (∀ j, j < k → (LLof rs)[j]? = (LLof rs')[j]?) ∧ Hid (∃ m, wr = w.drewN m)) (fun i _ => n - (intOf i).toNat)
    case atStart => exact ⟨0, Nat.zero_le _, rfl, fun j hj => absurd hj (by omega), 0, rfl⟩
    case round =>
      obtain ⟨k, hk, rfl, hsame, hw⟩ := hrel
      have HIr : Hid (IntsSS wr A rs) := by obtain ⟨m, hm⟩ := hw.out; rw [hm]; exact hI
      have HIr' : Hid (IntsSS wr A' rs') := by obtain ⟨m, hm⟩ := hw.out; rw [hm]; exact hI'
      by_cases hlt : k < n
      · obtain ⟨r, hr⟩ := get_of_lt (rs := rs) (k := k) (by rw [HL.out]; exact hlt)
        obtain ⟨r', hr'⟩ := get_of_lt (rs := rs') (k := k) (by rw [HL'.out]; exact hlt)
        obtain ⟨ad, rfl, had, hc, hl, hi⟩ := HIr.out k r hr
        obtain ⟨ad', rfl, had', hc', hl', hi'⟩ := HIr'.out k r' hr'
        have hnr := HB.out r (List.mem_of_getElem? hr)
        have hnr' := HB'.out r' (List.mem_of_getElem? hr')
        have HG := Lib.hid (LL_at hr)
        have HG' := Lib.hid (LL_at hr')
        obtain ⟨rA, rn, rc, rd, rL⟩ := r
        obtain ⟨sA, sn, sc, sd, sL⟩ := r'
        change _ = some (Value.slice rA rn rc) at hc
        change _ = some (Value.slice sA sn sc) at hc'
        change rL.length = rn at hl
        change sL.length = sn at hl'
        have HLr := Lib.hid hl
        have HLs := Lib.hid hl'
        have HIa : Hid (Ints wr rA rL) := hi
        have HIb : Hid (Ints wr sA sL) := hi'
        have hnr2 : rn ≤ 1048576 := hnr
        have hnr3 : sn ≤ 1048576 := hnr'
        have hlt2 : (k : Int) < (n : Int) := by omega
        clear hl hl' hi hi' hr hr' hnr hnr'
        go_wp2_with fail
        go_quiet ((go_at_call 47; exact Calls.quiet_of (likeInts_calls rA sA rn rc sn sc rL sL _ HLr.out HLs.out hnr2 hnr3 HIa.out HIb.out)))
        by_cases he : rL = sL
        · have hd : Hid (decide (rL = sL) = true) := by unfold Hid; simpa using he
          have HE := Lib.hid he
          clear he
          rw [hd.out]
          go_wp2
          go_roundw
          case rel =>
            refine ⟨k + 1, by omega, by go_num, fun j hj => ?_, ?_⟩
            · by_cases hjk : j = k
              · subst hjk
                rw [HG.out, HG'.out]
                show some rL = some sL
                rw [HE.out]
              · exact hsame.out j (by omega)
            · obtain ⟨m, hm⟩ := hw.out
              exact ⟨m + nq, by rw [hm, World.drewN_drewN]⟩
          case measure => simp [intOf]; omega
        · have hd : Hid (decide (rL = sL) = false) := by unfold Hid; simpa using he
          have HE := Lib.hid he
          have H : Hid (false = decide (LLof rs = LLof rs')) := by
            unfold Hid
            symm
            rw [decide_eq_false_iff_not]
            intro e
            have h1 := HG.out
            rw [e, HG'.out] at h1
            injection h1 with h1
            exact HE.out h1.symm
          clear he
          rw [hd.out]
          go_wp2
          go_ret
          refine ⟨ret_bool H.out, ?_⟩
          obtain ⟨m, hm⟩ := hw.out
          exact ⟨m + nq, by rw [hm, World.drewN_drewN]⟩
      · obtain rfl : k = n := by omega
        have H : Hid (true = decide (LLof rs = LLof rs')) := by
          unfold Hid
          symm
          rw [decide_eq_true_iff]
          apply List.ext_getElem?
          intro j
          by_cases hj : j < k
          · exact hsame.out j hj
          · rw [List.getElem?_eq_none (by rw [LL_len, HL.out]; omega), List.getElem?_eq_none (by rw [LL_len, HL'.out]; omega)]
        go_wp2
        go_ret
        exact ⟨ret_bool H.out, hw.out⟩
  · have hd : ((n : Int) != (n' : Int)) = true := by simp; omega
    have H : Hid (false = decide (LLof rs = LLof rs')) := by
      unfold Hid
      symm
      rw [decide_eq_false_iff_not]
      intro e
      have := congrArg List.length e
      rw [LL_len, LL_len, HL.out, HL'.out] at this
      exact hne this
    clear hne
    go_enter Try.func36, Try.ntmps36
    go_wp2
    go_ret
    exact ⟨ret_bool H.out, 0, rfl⟩

theorem rows5_same (A A' : Option Addr) (n c n' c' : Nat) (rs rs' : List Rw) (w : World) (hL : rs.length = n) (hL' : rs'.length = n') (h1 : n ≤ 1048576 ∧ ∀ r ∈ rs, r.n ≤ 1048576) (h2 : n' ≤ 1048576 ∧ ∀ r ∈ rs', r.n ≤ 1048576) (hI : IntsSS w A rs) (hI' : IntsSS w A' rs') (hs : LLof rs = LLof rs') :
    Calls Try.prog 36 #[.slice A n c, .slice A' n' c'] w fun e w' => e = .returned (.bool true) ∧ Below w.heap.size w w' :=
  (rows5_calls A A' n c n' c' rs rs' w hL hL' h1.1 h2.1 h1.2 h2.2 hI hI').mono fun e w' h => by
    obtain ⟨he, m, rfl⟩ := h
    rw [show decide (LLof rs = LLof rs') = true by simpa using hs] at he
    exact ⟨he, belowDraws (Below.refl _ _) m⟩
/-- A list of lists and a code are the answer: what is read of it. -/
def RetT (w : World) (LL : List (List Int)) (E : Int) (e : Ending) (w' : World) : Prop :=
  ∃ A n c rs, e = .returned (.tuple #[.slice A n c, .int .i64 E]) ∧ IntsSS w' A rs ∧ rs.length = n ∧ LLof rs = LL ∧ (n ≤ 1048576 ∧ ∀ r ∈ rs, r.n ≤ 1048576) ∧ Below w.heap.size w w'
theorem retT_own {w w' : World} {LL : List (List Int)} {E : Int} {e : Ending} (hs : (LL.map List.length).sum + LL.length ≤ 1048576) (h : RetSS w LL E e w') : RetT w LL E e w' := by
  obtain ⟨A, n, c, rs, he, hO, hL, hb⟩ := h
  have h1 := totN_LL hO
  have h2 := hO.len
  rw [hL] at h1
  have h3 : n ≤ 1048576 := by rw [← h2, ← LL_len rs, hL]; omega
  exact ⟨A, n, c, rs, he, hO.ints, h2, hL, ⟨h3, rows_small (by omega)⟩, hb⟩
theorem states5_same (A A' : Option Addr) (n c c' : Nat) (p : Int) (L : List Int) (w : World) (hL : L.length = n) (hn : n ≤ 1048576) (hI : Ints w A L) (hJ : Ints w A' L) :
    Calls Try.prog 14 #[.agg #[.int .i64 p, .slice A n c], .agg #[.int .i64 p, .slice A' n c']] w fun e w' => e = .returned (.bool true) ∧ Below w.heap.size w w' := by
  have HB0 := Lib.hid (((Below.refl w.heap.size w).alloc (Nat.le_refl _) (.cells #[.int .i64 p, .slice A n c] 26)).alloc (by simp) (.cells #[.int .i64 p, .slice A' n c'] 26))
  have HI := Lib.hid (hI.below HB0.out)
  have HJ := Lib.hid (hJ.below HB0.out)
  go_enter Try.func14, Try.ntmps14
  go_wp2_with fail
  refine (likeInts_calls A A' n c n c' L L _ hL hL hn hn HI.out HJ.out).mono ?_
  rintro e w1 ⟨rfl, d, rfl⟩
  rw [show decide (L = L) = true by simp]
  go_wp2
  go_ret
  exact ⟨rfl, belowDraws HB0.out _⟩

end Go.Proofs.Ytfdjlgpdbgmdkaa
