/- Contracts of the laws' functions over lists of lists: they compare, mark, look for marks. -/
import Derived.Test.YtepjdoonopbijaaDoorSS
namespace Go.Proofs.YtepjdoonopbijaaDoor
open Go.RowKit
set_option linter.unusedVariables false

theorem LL_at {rs : List Rw} {k : Nat} {r : Rw} (h : rs[k]? = some r) : (LLof rs)[k]? = some r.L := by unfold LLof; rw [List.getElem?_map, h]; rfl
theorem LL_len (rs : List Rw) : (LLof rs).length = rs.length := by simp [LLof]
theorem get_of_lt {rs : List Rw} {k : Nat} (h : k < rs.length) : ∃ r, rs[k]? = some r := ⟨_, List.getElem?_eq_getElem h⟩

set_option maxHeartbeats 1000000 in
theorem eqInt64SS_calls (A A' : Option Addr) (n c n' c' : Nat) (rs rs' : List Rw) (w : World) (hL : rs.length = n) (hL' : rs'.length = n') (hn : n ≤ 1048576) (hn' : n' ≤ 1048576) (hb : ∀ r ∈ rs, r.n ≤ 1048576) (hb' : ∀ r ∈ rs', r.n ≤ 1048576) (hI : IntsSS w A rs) (hI' : IntsSS w A' rs') :
    Calls Tryd.prog 30 #[.slice A n c, .slice A' n' c'] w fun e w' => e = .returned (.bool (decide (LLof rs = LLof rs'))) ∧ ∃ m, w' = w.drewN m := by
  have HL := Lib.hid hL
  have HL' := Lib.hid hL'
  have HB := Lib.hid hb
  have HB' := Lib.hid hb'
  clear hL hL' hb hb'
  by_cases hne : n = n'
  · subst hne
    go_enter Tryd.func30, Tryd.ntmps30
    go_wp2
    go_loopw [5] (fun i wr => ∃ k : Nat, k ≤ n ∧ i = .int .i64 k ∧ Hid (∀ j, j < k → (LLof rs)[j]? = (LLof rs')[j]?) ∧ Hid (∃ m, wr = w.drewN m)) (fun i _ => n - (intOf i).toNat)
    case atStart => exact ⟨0, Nat.zero_le _, rfl, fun j hj => absurd hj (by omega), 0, rfl⟩
    case round =>
      obtain ⟨k, hk, rfl, hsame, hw⟩ := hrel
      have HIr : Hid (IntsSS wr A rs) := by obtain ⟨m, hm⟩ := hw.out; rw [hm]; exact hI
      have HIr' : Hid (IntsSS wr A' rs') := by obtain ⟨m, hm⟩ := hw.out; rw [hm]; exact hI'
      by_cases hlt : k < n
      · obtain ⟨r, hr⟩ := get_of_lt (rs := rs) (k := k) (by rw [HL.out]; exact hlt)
        obtain ⟨r', hr'⟩ := get_of_lt (rs := rs') (k := k) (by rw [HL'.out]; exact hlt)
        obtain ⟨ad, rfl, had, hc, hl, hi⟩ := HIr.out k r hr
        obtain ⟨ad', rfl, had', hc', hl', hi'⟩ := HIr'.out k r' hr'
        have hnr := HB.out r (List.mem_of_getElem? hr)
        have hnr' := HB'.out r' (List.mem_of_getElem? hr')
        have HG := Lib.hid (LL_at hr)
        have HG' := Lib.hid (LL_at hr')
        obtain ⟨rA, rn, rc, rd, rL⟩ := r
        obtain ⟨sA, sn, sc, sd, sL⟩ := r'
        change _ = some (Value.slice rA rn rc) at hc
        change _ = some (Value.slice sA sn sc) at hc'
        change rL.length = rn at hl
        change sL.length = sn at hl'
        have HLr := Lib.hid hl
        have HLs := Lib.hid hl'
        have HIa : Hid (Ints wr rA rL) := hi
        have HIb : Hid (Ints wr sA sL) := hi'
        have hnr2 : rn ≤ 1048576 := hnr
        have hnr3 : sn ≤ 1048576 := hnr'
        have hlt2 : (k : Int) < (n : Int) := by omega
        clear hl hl' hi hi' hr hr' hnr hnr'
        go_wp2_with fail
        go_quiet ((go_at_call 29; exact Calls.quiet_of (eqInt64S_calls rA sA rn rc sn sc rL sL _ HLr.out HLs.out hnr2 hnr3 HIa.out HIb.out)))
        by_cases he : rL = sL
        · have hd : Hid (decide (rL = sL) = true) := by unfold Hid; simpa using he
          have HE := Lib.hid he
          clear he
          rw [hd.out]
          go_wp2
          go_roundw
          case rel =>
            refine ⟨k + 1, by omega, by go_num, fun j hj => ?_, ?_⟩
            · by_cases hjk : j = k
              · subst hjk
                rw [HG.out, HG'.out]
                show some rL = some sL
                rw [HE.out]
              · exact hsame.out j (by omega)
            · obtain ⟨m, hm⟩ := hw.out
              exact ⟨m + nq, by rw [hm, World.drewN_drewN]⟩
          case measure => simp [intOf]; omega
        · have hd : Hid (decide (rL = sL) = false) := by unfold Hid; simpa using he
          have HE := Lib.hid he
          have H : Hid (false = decide (LLof rs = LLof rs')) := by
            unfold Hid
            symm
            rw [decide_eq_false_iff_not]
            intro e
            have h1 := HG.out
            rw [e, HG'.out] at h1
            injection h1 with h1
            exact HE.out h1.symm
          clear he
          rw [hd.out]
          go_wp2
          go_ret
          refine ⟨ret_bool H.out, ?_⟩
          obtain ⟨m, hm⟩ := hw.out
          exact ⟨m + nq, by rw [hm, World.drewN_drewN]⟩
      · obtain rfl : k = n := by omega
        have H : Hid (true = decide (LLof rs = LLof rs')) := by
          unfold Hid
          symm
          rw [decide_eq_true_iff]
          apply List.ext_getElem?
          intro j
          by_cases hj : j < k
          · exact hsame.out j hj
          · rw [List.getElem?_eq_none (by rw [LL_len, HL.out]; omega), List.getElem?_eq_none (by rw [LL_len, HL'.out]; omega)]
        go_wp2
        go_ret
        exact ⟨ret_bool H.out, hw.out⟩
  · have hd : ((n : Int) != (n' : Int)) = true := by simp; omega
    have H : Hid (false = decide (LLof rs = LLof rs')) := by
      unfold Hid
      symm
      rw [decide_eq_false_iff_not]
      intro e
      have := congrArg List.length e
      rw [LL_len, LL_len, HL.out, HL'.out] at this
      exact hne this
    clear hne
    go_enter Tryd.func30, Tryd.ntmps30
    go_wp2
    go_ret
    exact ⟨ret_bool H.out, 0, rfl⟩

end Go.Proofs.YtepjdoonopbijaaDoor
