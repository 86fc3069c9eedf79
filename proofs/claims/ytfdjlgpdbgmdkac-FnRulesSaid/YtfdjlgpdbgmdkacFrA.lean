/- Rules: contracts, with what their answers have to do with each other. -/
import Derived.Test.YtfdjlgpdbgmdkacSSc
import Derived.Test.YtfdjlgpdbgmdkacGreat
import Derived.Test.YtfdjlgpdbgmdkacSS2
import Derived.Test.YtfdjlgpdbgmdkacRuTb
import Derived.Test.YtfdjlgpdbgmdkacRuTurn
import Derived.Test.YtfdjlgpdbgmdkacRuRen
import Derived.Test.YtfdjlgpdbgmdkacRuNumI
import Derived.Test.YtfdjlgpdbgmdkacRuName
import Derived.Test.YtfdjlgpdbgmdkacRuCode
import Derived.Test.YtfdjlgpdbgmdkacRuNumS
import Derived.Test.YtfdjlgpdbgmdkacRuStrong
import Derived.Test.YtfdjlgpdbgmdkacRuIs
import Derived.Test.YtfdjlgpdbgmdkacDrawRu
namespace Go.Proofs.Ytfdjlgpdbgmdkac
open Go.RowKit
set_option linter.unusedVariables false

set_option maxHeartbeats 1000000 in
theorem rows5_calls (A A' : Option Addr) (n c n' c' : Nat) (rs rs' : List Rw) (w : World) (hL : rs.length = n) (hL' : rs'.length = n') (hn : n ≤ 1048576) (hn' : n' ≤ 1048576) (hb : ∀ r ∈ rs, r.n ≤ 1048576) (hb' : ∀ r ∈ rs', r.n ≤ 1048576) (hI : IntsSS w A rs) (hI' : IntsSS w A' rs') :
    Calls Try.prog 8 #[.slice A n c, .slice A' n' c'] w fun e w' => e = .returned (.bool (decide (LLof rs = LLof rs'))) ∧ ∃ m, w' = w.drewN m := by
  have HL := Lib.hid hL
  have HL' := Lib.hid hL'
  have HB := Lib.hid hb
  have HB' := Lib.hid hb'
  clear hL hL' hb hb'
  by_cases hne : n = n'
  · subst hne
    go_enter Try.func8, Try.ntmps8
    go_wp2
    go_loopw [5] (fun i wr => ∃ k : Nat, k ≤ n ∧ i = .int .i64 k ∧ Hid (∀ j, j < k → (LLof rs)[j]? = (LLof rs')[j]?) ∧ Hid (∃ m, wr = w.drewN m)) (fun i _ => n - (intOf i).toNat)
    case atStart => exact ⟨0, Nat.zero_le _, rfl, fun j hj => absurd hj (by omega), 0, rfl⟩
    case round =>
      obtain ⟨k, hk, rfl, hsame, hw⟩ := hrel
      have HIr : Hid (IntsSS wr A rs) := by obtain ⟨m, hm⟩ := hw.out; rw [hm]; exact hI
      have HIr' : Hid (IntsSS wr A' rs') := by obtain ⟨m, hm⟩ := hw.out; rw [hm]; exact hI'
      by_cases hlt : k < n
      · obtain ⟨r, hr⟩ := get_of_lt (rs := rs) (k := k) (by rw [HL.out]; exact hlt)
        obtain ⟨r', hr'⟩ := get_of_lt (rs := rs') (k := k) (by rw [HL'.out]; exact hlt)
        obtain ⟨ad, rfl, had, hc, hl, hi⟩ := HIr.out k r hr
        obtain ⟨ad', rfl, had', hc', hl', hi'⟩ := HIr'.out k r' hr'
        have hnr := HB.out r (List.mem_of_getElem? hr)
        have hnr' := HB'.out r' (List.mem_of_getElem? hr')
        have HG := Lib.hid (LL_at hr)
        have HG' := Lib.hid (LL_at hr')
        obtain ⟨rA, rn, rc, rd, rL⟩ := r
        obtain ⟨sA, sn, sc, sd, sL⟩ := r'
        change _ = some (Value.slice rA rn rc) at hc
        change _ = some (Value.slice sA sn sc) at hc'
        change rL.length = rn at hl
        change sL.length = sn at hl'
        have HLr := Lib.hid hl
        have HLs := Lib.hid hl'
        have HIa : Hid (Ints wr rA rL) := hi
        have HIb : Hid (Ints wr sA sL) := hi'
        have hnr2 : rn ≤ 1048576 := hnr
        have hnr3 : sn ≤ 1048576 := hnr'
        have hlt2 : (k : Int) < (n : Int) := by omega
        clear hl hl' hi hi' hr hr' hnr hnr'
        go_wp2_with fail
        go_quiet ((go_at_call 34; exact Calls.quiet_of (likeInts_calls rA sA rn rc sn sc rL sL _ HLr.out HLs.out hnr2 hnr3 HIa.out HIb.out)))
        by_cases he : rL = sL
        · have hd : Hid (decide (rL = sL) = true) := by unfold Hid; simpa using he
          have HE := Lib.hid he
          clear he
          rw [hd.out]
          go_wp2
          go_roundw
          case rel =>
            refine ⟨k + 1, by omega, by go_num, fun j hj => ?_, ?_⟩
            · by_cases hjk : j = k
              · subst hjk
                rw [HG.out, HG'.out]
                show some rL = some sL
                rw [HE.out]
              · exact hsame.out j (by omega)
            · obtain ⟨m, hm⟩ := hw.out
              exact ⟨m + nq, by rw [hm, World.drewN_drewN]⟩
          case measure => simp [intOf]; omega
        · have hd : Hid (decide (rL = sL) = false) := by unfold Hid; simpa using he
          have HE := Lib.hid he
          have H : Hid (false = decide (LLof rs = LLof rs')) := by
            unfold Hid
            symm
            rw [decide_eq_false_iff_not]
            intro e
            have h1 := HG.out
            rw [e, HG'.out] at h1
            injection h1 with h1
            exact HE.out h1.symm
          clear he
          rw [hd.out]
          go_wp2
          go_ret
          refine ⟨ret_bool H.out, ?_⟩
          obtain ⟨m, hm⟩ := hw.out
          exact ⟨m + nq, by rw [hm, World.drewN_drewN]⟩
      · obtain rfl : k = n := by omega
        have H : Hid (true = decide (LLof rs = LLof rs')) := by
          unfold Hid
          symm
          rw [decide_eq_true_iff]
          apply List.ext_getElem?
          intro j
          by_cases hj : j < k
          · exact hsame.out j hj
          · rw [List.getElem?_eq_none (by rw [LL_len, HL.out]; omega), List.getElem?_eq_none (by rw [LL_len, HL'.out]; omega)]
        go_wp2
        go_ret
        exact ⟨ret_bool H.out, hw.out⟩
  · have hd : ((n : Int) != (n' : Int)) = true := by simp; omega
    have H : Hid (false = decide (LLof rs = LLof rs')) := by
      unfold Hid
      symm
      rw [decide_eq_false_iff_not]
      intro e
      have := congrArg List.length e
      rw [LL_len, LL_len, HL.out, HL'.out] at this
      exact hne this
    clear hne
    go_enter Try.func8, Try.ntmps8
    go_wp2
    go_ret
    exact ⟨ret_bool H.out, 0, rfl⟩

theorem rows5_same (A A' : Option Addr) (n c n' c' : Nat) (rs rs' : List Rw) (w : World) (hL : rs.length = n) (hL' : rs'.length = n') (h1 : n ≤ 1048576 ∧ ∀ r ∈ rs, r.n ≤ 1048576) (h2 : n' ≤ 1048576 ∧ ∀ r ∈ rs', r.n ≤ 1048576) (hI : IntsSS w A rs) (hI' : IntsSS w A' rs') (hs : LLof rs = LLof rs') :
    Calls Try.prog 8 #[.slice A n c, .slice A' n' c'] w fun e w' => e = .returned (.bool true) ∧ Below w.heap.size w w' :=
  (rows5_calls A A' n c n' c' rs rs' w hL hL' h1.1 h2.1 h1.2 h2.2 hI hI').mono fun e w' h => by
    obtain ⟨he, m, rfl⟩ := h
    rw [show decide (LLof rs = LLof rs') = true by simpa using hs] at he
    exact ⟨he, belowDraws (Below.refl _ _) m⟩
/-- A list of lists and a code are the answer: what is read of it. -/
def RetT (w : World) (LL : List (List Int)) (E : Int) (e : Ending) (w' : World) : Prop :=
  ∃ A n c rs, e = .returned (.tuple #[.slice A n c, .int .i64 E]) ∧ IntsSS w' A rs ∧ rs.length = n ∧ LLof rs = LL ∧ (n ≤ 1048576 ∧ ∀ r ∈ rs, r.n ≤ 1048576) ∧ Below w.heap.size w w'
theorem retT_own {w w' : World} {LL : List (List Int)} {E : Int} {e : Ending} (hs : (LL.map List.length).sum + LL.length ≤ 1048576) (h : RetSS w LL E e w') : RetT w LL E e w' := by
  obtain ⟨A, n, c, rs, he, hO, hL, hb⟩ := h
  have h1 := totN_LL hO
  have h2 := hO.len
  rw [hL] at h1
  have h3 : n ≤ 1048576 := by rw [← h2, ← LL_len rs, hL]; omega
  exact ⟨A, n, c, rs, he, hO.ints, h2, hL, ⟨h3, rows_small (by omega)⟩, hb⟩
theorem retT_read {w w' : World} {LL : List (List Int)} {E : Int} {e : Ending} (hs : (LL.map List.length).sum + LL.length ≤ 1048576) (h : RetSSr w LL E e w') : RetT w LL E e w' := by
  obtain ⟨A, n, c, rs, he, hI, h2, hL, h1, hb⟩ := h
  rw [hL] at h1
  have h3 : n ≤ 1048576 := by rw [← h2, ← LL_len rs, hL]; omega
  exact ⟨A, n, c, rs, he, hI, h2, hL, ⟨h3, rows_small (by omega)⟩, hb⟩
/-- A table of three rows of three numbers, cell by cell. -/
def Tb (w : World) (ad : Addr) (ra : Nat → Addr) (rc : Nat → Nat) (t : Nat → Int) : Prop :=
  ad.block < w.heap.size ∧ ∀ i, i < 3 → w.cell? (ad.add i) = some (.slice (some (ra i)) 3 (rc i)) ∧ (ra i).block < w.heap.size ∧ ∀ j, j < 3 → w.cell? ((ra i).add j) = some (.int .i64 (t (i * 3 + j)))
theorem Tb.below {w w' : World} {ad : Addr} {ra : Nat → Addr} {rc : Nat → Nat} {t : Nat → Int} (h : Tb w ad ra rc t) (hb : Below w.heap.size w w') : Tb w' ad ra rc t :=
  ⟨Nat.lt_of_lt_of_le h.1 hb.size, fun i hi => ⟨(hb.cell (p := ad.add i) (by rw [add_block]; exact h.1)).trans (h.2 i hi).1, Nat.lt_of_lt_of_le (h.2 i hi).2.1 hb.size, fun j hj => (hb.cell (p := (ra i).add j) (by rw [add_block]; exact (h.2 i hi).2.1)).trans ((h.2 i hi).2.2 j hj)⟩⟩
theorem tb_of {w : World} {A : Option Addr} {rs : List Rw} {n : Nat} {t : Nat → Int} (hI : IntsSS w A rs) (hl : rs.length = n) (hL : LLof rs = rowsL t 3) : n = 3 ∧ ∃ ad ra rc, A = some ad ∧ Tb w ad ra rc t := by
  have h3 : rs.length = 3 := by rw [← LL_len rs, hL]; rfl
  refine ⟨by omega, ?_⟩
  have hrow : ∀ i, i < 3 → ∃ r, rs[i]? = some r ∧ r.L = [t (i * 3), t (i * 3 + 1), t (i * 3 + 2)] := by
    intro i hi
    obtain ⟨r, hr⟩ := get_of_lt (rs := rs) (k := i) (by omega)
    refine ⟨r, hr, ?_⟩
    have h := LL_at hr
    rw [hL] at h
    match i, hi with
    | 0, _ => exact (Option.some.inj h).symm
    | 1, _ => exact (Option.some.inj h).symm
    | 2, _ => exact (Option.some.inj h).symm
  obtain ⟨r0, hr0, _⟩ := hrow 0 (by omega)
  obtain ⟨ad, hA, hlt, _⟩ := hI 0 r0 hr0
  refine ⟨ad, fun i => ((rs[i]?.getD ⟨none, 0, 0, 0, []⟩).A).getD ⟨0, 0, none⟩, fun i => (rs[i]?.getD ⟨none, 0, 0, 0, []⟩).c, hA, hlt, fun i hi => ?_⟩
  obtain ⟨r, hr, hrL⟩ := hrow i hi
  obtain ⟨ad', hA', _, hc, hn, hi'⟩ := hI i r hr
  obtain rfl : ad = ad' := by rw [hA] at hA'; exact Option.some.inj hA'
  obtain ⟨a0, h0, hb0, _⟩ := hi' 0 (by rw [hrL]; exact Nat.zero_lt_succ _)
  have hn3 : r.n = 3 := by rw [← hn, hrL]; rfl
  have e1 : (fun i => ((rs[i]?.getD ⟨none, 0, 0, 0, []⟩).A).getD ⟨0, 0, none⟩) i = a0 := by
    show ((rs[i]?.getD ⟨none, 0, 0, 0, []⟩).A).getD ⟨0, 0, none⟩ = a0
    rw [hr, Option.getD_some, h0]; rfl
  rw [e1]
  refine ⟨?_, hb0, fun j hj => ?_⟩
  · rw [hc]
    show some (Value.slice r.A r.n r.c) = some (.slice (some a0) 3 (rs[i]?.getD ⟨none, 0, 0, 0, []⟩).c)
    rw [h0, hn3, hr, Option.getD_some]
  · obtain ⟨a1, h1, _, hcj⟩ := hi' j (by rw [hrL]; exact hj)
    obtain rfl : a0 = a1 := by rw [h0] at h1; exact Option.some.inj h1
    rw [hcj, hrL]
    match j, hj with
    | 0, _ => rfl
    | 1, _ => rfl
    | 2, _ => rfl

/-- One cell of the next table. -/
def stp (p q s : Bool) (x y u v : Int) : Int := min (if p = true then x + 1 + y else 9223372036854775807) (if (q && s) = true then 2 * u + v + 2 else 9223372036854775807)
theorem stp_swap (p q s : Bool) (x y u v : Int) : stp p q s x y u v = stp p s q y x u v := by
  unfold stp
  rw [Bool.and_comm, show x + 1 + y = y + 1 + x by omega]
theorem stp_le {p q s : Bool} {x y u v x' y' u' v' : Int} (hx : x ≤ x') (hy : y ≤ y') (hu : u ≤ u') (hv : v ≤ v') (bx : x' ≤ 1000000) (by' : y' ≤ 1000000) (bu : u' ≤ 1000000) (bv : v' ≤ 1000000) : stp true true true x y u v ≤ stp p q s x' y' u' v' := by
  unfold stp
  simp only [Bool.and_self, if_true]
  split <;> split <;> omega
theorem tbl_at1 (r : Nat → Int) (n : Nat) : tbl (alR r) (n + 1) 1 = stp (r 1 == 1) (r 2 == 1) (r 7 == 1) (tbl (alR r) n 2) (tbl (alR r) n 7) (tbl (alR r) n 1) (tbl (alR r) n 3) := rfl
theorem tbl_at2 (r : Nat → Int) (n : Nat) : tbl (alR r) (n + 1) 2 = stp (r 2 == 1) (r 1 == 1) (r 5 == 1) (tbl (alR r) n 1) (tbl (alR r) n 5) (tbl (alR r) n 2) (tbl (alR r) n 6) := rfl
theorem tbl_at3 (r : Nat → Int) (n : Nat) : tbl (alR r) (n + 1) 3 = stp (r 3 == 1) (r 5 == 1) (r 6 == 1) (tbl (alR r) n 5) (tbl (alR r) n 6) (tbl (alR r) n 3) (tbl (alR r) n 1) := rfl
theorem tbl_at5 (r : Nat → Int) (n : Nat) : tbl (alR r) (n + 1) 5 = stp (r 5 == 1) (r 3 == 1) (r 2 == 1) (tbl (alR r) n 3) (tbl (alR r) n 2) (tbl (alR r) n 5) (tbl (alR r) n 7) := rfl
theorem tbl_at6 (r : Nat → Int) (n : Nat) : tbl (alR r) (n + 1) 6 = stp (r 6 == 1) (r 7 == 1) (r 3 == 1) (tbl (alR r) n 7) (tbl (alR r) n 3) (tbl (alR r) n 6) (tbl (alR r) n 2) := rfl
theorem tbl_at7 (r : Nat → Int) (n : Nat) : tbl (alR r) (n + 1) 7 = stp (r 7 == 1) (r 6 == 1) (r 1 == 1) (tbl (alR r) n 6) (tbl (alR r) n 1) (tbl (alR r) n 7) (tbl (alR r) n 5) := rfl
theorem tbl_turn (r : Nat → Int) : ∀ n, tbl (alR (tu0 r)) n 1 = tbl (alR r) n 3 ∧ tbl (alR (tu0 r)) n 2 = tbl (alR r) n 6 ∧ tbl (alR (tu0 r)) n 3 = tbl (alR r) n 1 ∧ tbl (alR (tu0 r)) n 5 = tbl (alR r) n 7 ∧ tbl (alR (tu0 r)) n 6 = tbl (alR r) n 2 ∧ tbl (alR (tu0 r)) n 7 = tbl (alR r) n 5
  | 0 => ⟨rfl, rfl, rfl, rfl, rfl, rfl⟩
  | n + 1 => by
    obtain ⟨h1, h2, h3, h5, h6, h7⟩ := tbl_turn r n
    refine ⟨?_, ?_, ?_, ?_, ?_, ?_⟩
    · rw [tbl_at1, tbl_at3, h2, h7, h1, h3, stp_swap]; rfl
    · rw [tbl_at2, tbl_at6, h1, h5, h2, h6, stp_swap]; rfl
    · rw [tbl_at3, tbl_at1, h5, h6, h3, h1, stp_swap]; rfl
    · rw [tbl_at5, tbl_at7, h3, h2, h5, h7, stp_swap]; rfl
    · rw [tbl_at6, tbl_at2, h7, h3, h6, h2, stp_swap]; rfl
    · rw [tbl_at7, tbl_at5, h6, h1, h7, h5, stp_swap]; rfl
theorem rn120 (r : Nat → Int) : rnK r [1, 2, 0] 9 0 = r 8 ∧ rnK r [1, 2, 0] 9 1 = r 6 ∧ rnK r [1, 2, 0] 9 2 = r 7 ∧ rnK r [1, 2, 0] 9 3 = r 2 ∧ rnK r [1, 2, 0] 9 4 = r 0 ∧ rnK r [1, 2, 0] 9 5 = r 1 ∧ rnK r [1, 2, 0] 9 6 = r 5 ∧ rnK r [1, 2, 0] 9 7 = r 3 ∧ rnK r [1, 2, 0] 9 8 = r 4 := ⟨rfl, rfl, rfl, rfl, rfl, rfl, rfl, rfl, rfl⟩
theorem tbl_ren (r : Nat → Int) : ∀ n, tbl (alR (rnK r [1, 2, 0] 9)) n 5 = tbl (alR r) n 1 ∧ tbl (alR (rnK r [1, 2, 0] 9)) n 3 = tbl (alR r) n 2 ∧ tbl (alR (rnK r [1, 2, 0] 9)) n 7 = tbl (alR r) n 3 ∧ tbl (alR (rnK r [1, 2, 0] 9)) n 6 = tbl (alR r) n 5 ∧ tbl (alR (rnK r [1, 2, 0] 9)) n 1 = tbl (alR r) n 6 ∧ tbl (alR (rnK r [1, 2, 0] 9)) n 2 = tbl (alR r) n 7
  | 0 => ⟨rfl, rfl, rfl, rfl, rfl, rfl⟩
  | n + 1 => by
    obtain ⟨h5, h3, h7, h6, h1, h2⟩ := tbl_ren r n
    obtain ⟨g0, g1, g2, g3, g4, g5, g6, g7, g8⟩ := rn120 r
    refine ⟨?_, ?_, ?_, ?_, ?_, ?_⟩
    · rw [tbl_at5, tbl_at1, h3, h2, h5, h7, g5, g3, g2]
    · rw [tbl_at3, tbl_at2, h5, h6, h3, h1, g3, g5, g6]
    · rw [tbl_at7, tbl_at3, h6, h1, h7, h5, g7, g6, g1]
    · rw [tbl_at6, tbl_at5, h7, h3, h6, h2, g6, g7, g3]
    · rw [tbl_at1, tbl_at6, h2, h7, h1, h3, g1, g2, g7]
    · rw [tbl_at2, tbl_at7, h1, h5, h2, h6, g2, g1, g5]
/-- The rules with all directions. -/
def allR : Nat → Int := fun k => ([0, 1, 1, 1, 0, 1, 1, 1, 0] : List Int)[k]?.getD 0
theorem allR_ok : ruB allR = true ∧ strB allR = true := ⟨by decide, by decide⟩
theorem tbl_best {r : Nat → Int} (hr : ruB r = true) (hs : strB r = true) : ∀ n, n ≤ 8 → tbl (alR allR) n 1 ≤ tbl (alR r) n 1 ∧ tbl (alR allR) n 2 ≤ tbl (alR r) n 2 ∧ tbl (alR allR) n 3 ≤ tbl (alR r) n 3 ∧ tbl (alR allR) n 5 ≤ tbl (alR r) n 5 ∧ tbl (alR allR) n 6 ≤ tbl (alR r) n 6 ∧ tbl (alR allR) n 7 ≤ tbl (alR r) n 7
  | 0, _ => ⟨Int.le_refl _, Int.le_refl _, Int.le_refl _, Int.le_refl _, Int.le_refl _, Int.le_refl _⟩
  | n + 1, hn => by
    obtain ⟨h1, h2, h3, h5, h6, h7⟩ := tbl_best hr hs n (by omega)
    have hb := fun k => (tbl_bound hr hs n (by omega) k).2
    refine ⟨?_, ?_, ?_, ?_, ?_, ?_⟩
    · rw [tbl_at1, tbl_at1]; exact stp_le h2 h7 h1 h3 (hb _) (hb _) (hb _) (hb _)
    · rw [tbl_at2, tbl_at2]; exact stp_le h1 h5 h2 h6 (hb _) (hb _) (hb _) (hb _)
    · rw [tbl_at3, tbl_at3]; exact stp_le h5 h6 h3 h1 (hb _) (hb _) (hb _) (hb _)
    · rw [tbl_at5, tbl_at5]; exact stp_le h3 h2 h5 h7 (hb _) (hb _) (hb _) (hb _)
    · rw [tbl_at6, tbl_at6]; exact stp_le h7 h3 h6 h2 (hb _) (hb _) (hb _) (hb _)
    · rw [tbl_at7, tbl_at7]; exact stp_le h6 h1 h7 h5 (hb _) (hb _) (hb _) (hb _)
theorem ruB_facts {r : Nat → Int} (h : ruB r = true) : inB (r 0) 0 1 = true ∧ (!(r 0 != 0)) = true ∧ inB (r 1) 0 1 = true ∧ inB (r 2) 0 1 = true ∧ inB (r 3) 0 1 = true ∧ inB (r 4) 0 1 = true ∧ (!(r 4 != 0)) = true ∧ inB (r 5) 0 1 = true ∧ inB (r 6) 0 1 = true ∧ inB (r 7) 0 1 = true ∧ inB (r 8) 0 1 = true ∧ (!(r 8 != 0)) = true := by
  unfold ruB at h
  simp only [Bool.and_eq_true] at h
  obtain ⟨⟨a0, b0⟩, a1, a2, a3, ⟨a4, b4⟩, a5, a6, a7, a8, b8⟩ := h
  exact ⟨a0, b0, a1, a2, a3, a4, b4, a5, a6, a7, a8, b8⟩
theorem ruB_of {r : Nat → Int} (h : inB (r 0) 0 1 = true ∧ (!(r 0 != 0)) = true ∧ inB (r 1) 0 1 = true ∧ inB (r 2) 0 1 = true ∧ inB (r 3) 0 1 = true ∧ inB (r 4) 0 1 = true ∧ (!(r 4 != 0)) = true ∧ inB (r 5) 0 1 = true ∧ inB (r 6) 0 1 = true ∧ inB (r 7) 0 1 = true ∧ inB (r 8) 0 1 = true ∧ (!(r 8 != 0)) = true) : ruB r = true := by
  obtain ⟨a0, b0, a1, a2, a3, a4, b4, a5, a6, a7, a8, b8⟩ := h
  unfold ruB
  simp only [Bool.and_eq_true]
  exact ⟨⟨a0, b0⟩, a1, a2, a3, ⟨a4, b4⟩, a5, a6, a7, a8, b8⟩
/-- Strong rules, by what is not there. -/
def sB (b0 b1 b2 b3 b4 b5 b6 b7 b8 : Bool) : Bool :=
  !(b1 && (b2 || b7)) && (!(b2 && (b1 || b5)) && (!(b3 && (b5 || b6)) && (!(b5 && (b3 || b2)) && (!(b6 && (b7 || b3)) && !(b7 && (b6 || b1))))))
theorem strB_is (r : Nat → Int) : strB r = sB (r 0 == 0) (r 1 == 0) (r 2 == 0) (r 3 == 0) (r 4 == 0) (r 5 == 0) (r 6 == 0) (r 7 == 0) (r 8 == 0) := by
  have e : strB r = (tF r 0 0 && (tF r 0 1 && (tF r 0 2 && (tF r 1 0 && (tF r 1 1 && (tF r 1 2 && (tF r 2 0 && (tF r 2 1 && (tF r 2 2 && true))))))))) := rfl
  rw [e]
  unfold tF sB
  simp
theorem sB_turn (b0 b1 b2 b3 b4 b5 b6 b7 b8 : Bool) : sB b0 b3 b6 b1 b4 b7 b2 b5 b8 = sB b0 b1 b2 b3 b4 b5 b6 b7 b8 := by
  revert b0 b1 b2 b3 b4 b5 b6 b7 b8; decide
theorem sB_ren (b0 b1 b2 b3 b4 b5 b6 b7 b8 : Bool) : sB b8 b6 b7 b2 b0 b1 b5 b3 b4 = sB b0 b1 b2 b3 b4 b5 b6 b7 b8 := by
  revert b0 b1 b2 b3 b4 b5 b6 b7 b8; decide
theorem turn_ok {r : Nat → Int} (h : ruB r = true) (hs : strB r = true) : ruB (tu0 r) = true ∧ strB (tu0 r) = true := by
  obtain ⟨a0, b0, a1, a2, a3, a4, b4, a5, a6, a7, a8, b8⟩ := ruB_facts h
  refine ⟨ruB_of ⟨a0, b0, a3, a6, a1, a4, b4, a7, a2, a5, a8, b8⟩, ?_⟩
  rw [strB_is] at hs ⊢
  rw [← hs]
  exact sB_turn _ _ _ _ _ _ _ _ _
theorem ren_ok {r : Nat → Int} (h : ruB r = true) (hs : strB r = true) : ruB (rnK r [1, 2, 0] 9) = true ∧ strB (rnK r [1, 2, 0] 9) = true := by
  obtain ⟨a0, b0, a1, a2, a3, a4, b4, a5, a6, a7, a8, b8⟩ := ruB_facts h
  obtain ⟨g0, g1, g2, g3, g4, g5, g6, g7, g8⟩ := rn120 r
  refine ⟨ruB_of ?_, ?_⟩
  · rw [g0, g1, g2, g3, g4, g5, g6, g7, g8]
    exact ⟨a8, b8, a6, a7, a2, a0, b0, a1, a5, a3, a4, b4⟩
  · rw [strB_is] at hs ⊢
    rw [← hs, g0, g1, g2, g3, g4, g5, g6, g7, g8]
    exact sB_ren _ _ _ _ _ _ _ _ _
/-- What the law asks of rules and a number of discs whose table is there. -/
theorem fr_facts {r : Nat → Int} {n : Int} (h : tw0 r n = 0) : cR r = 0 ∧ tw0 (tuR r) n = 0 ∧ tw0 allR n = 0 ∧ rnC r [1, 2, 0] = 0 ∧ tw0 (rnR r [1, 2, 0]) n = 0 ∧
    ∀ i j : Nat, i < 3 → j < 3 → i ≠ j → twE r n i j = 0 ∧ nuV r n i j = tbl (alR r) n.toNat (i * 3 + j) ∧ tbl (alR (tuR r)) n.toNat (j * 3 + i) = tbl (alR r) n.toNat (i * 3 + j) ∧ tbl (alR allR) n.toNat (i * 3 + j) ≤ tbl (alR r) n.toNat (i * 3 + j) ∧ tbl (alR (rnR r [1, 2, 0])) n.toNat ((i + 1) % 3 * 3 + (j + 1) % 3) = tbl (alR r) n.toNat (i * 3 + j) := by
  have hr : ruB r = true := by
    cases e : ruB r
    · rw [tw0_rules e] at h; omega
    · rfl
  have hn : 0 ≤ n ∧ n ≤ 8 := by
    by_cases e : 0 ≤ n ∧ n ≤ 8
    · exact e
    · rw [tw0_discs hr e] at h; omega
  have hs : strB r = true := by
    cases e : strB r
    · rw [tw0_weak hr hn e] at h; omega
    · rfl
  have two : ∀ {q : Nat → Int}, ruB q = true → strB q = true → tw0 q n = 0 := fun h1 h2 => by unfold tw0; rw [if_pos h1, if_pos hn, if_pos h2]
  have t1 := turn_ok hr hs
  have t2 := ren_ok hr hs
  have et : tuR r = tu0 r := by unfold tuR; rw [if_pos hr]
  have er := rn_yes hr (show permB 3 [1, 2, 0] = true by decide)
  rw [et, er.1]
  refine ⟨cR_yes hr, two t1.1 t1.2, two allR_ok.1 allR_ok.2, er.2, two t2.1 t2.2, fun i j hi hj hij => ?_⟩
  have hp : ∀ k : Nat, k < 3 → pegB 3 (k : Int) = true := by
    intro k hk
    match k, hk with
    | 0, _ => decide
    | 1, _ => decide
    | 2, _ => decide
  have e0 : twE r n i j = 0 := by unfold twE; rw [if_pos hr, if_pos hn, if_pos ⟨hp i hi, hp j hj, by omega⟩, if_pos hs]
  have hn8 : n.toNat ≤ 8 := by omega
  obtain ⟨x1, x2, x3, x5, x6, x7⟩ := tbl_turn r n.toNat
  obtain ⟨y1, y2, y3, y5, y6, y7⟩ := tbl_best hr hs n.toNat hn8
  obtain ⟨z1, z2, z3, z5, z6, z7⟩ := tbl_ren r n.toNat
  refine ⟨e0, by unfold nuV; rw [if_pos e0]; rfl, ?_⟩
  have hc : (i = 0 ∧ j = 1) ∨ (i = 0 ∧ j = 2) ∨ (i = 1 ∧ j = 0) ∨ (i = 1 ∧ j = 2) ∨ (i = 2 ∧ j = 0) ∨ (i = 2 ∧ j = 1) := by omega
  rcases hc with ⟨rfl, rfl⟩ | ⟨rfl, rfl⟩ | ⟨rfl, rfl⟩ | ⟨rfl, rfl⟩ | ⟨rfl, rfl⟩ | ⟨rfl, rfl⟩
  · exact ⟨x3, y1, z1⟩
  · exact ⟨x6, y2, z2⟩
  · exact ⟨x1, y3, z3⟩
  · exact ⟨x7, y5, z5⟩
  · exact ⟨x2, y6, z6⟩
  · exact ⟨x5, y7, z7⟩

theorem rn_RB {r : Nat → Int} (h : RB r) (L : List Int) : RB (rnR r L) := by
  have key : ∀ m, m ≤ 9 → ∀ k, -1 ≤ rnK r L m k ∧ rnK r L m k ≤ 2 := by
    intro m
    induction m with
    | zero => intro _ k; exact (show -1 ≤ (0 : Int) ∧ (0 : Int) ≤ 2 by decide)
    | succ m ih =>
      intro hm k
      show -1 ≤ (if _ then r m else rnK r L m k) ∧ (if _ then r m else rnK r L m k) ≤ 2
      split
      · exact h m (by omega)
      · exact ih (by omega) k
  intro k hk
  unfold rnR
  split
  · exact key 9 (Nat.le_refl _) k
  · exact (show -1 ≤ (0 : Int) ∧ (0 : Int) ≤ 2 by decide)
theorem eqR {R : Nat → Int} (h : RB R) : (∀ W, (Op.equalIn 10000 26 (.agg (z9 R)) (.agg (z9 R))).run Try.prog W = .ok true W) := fun W => (eq9U R R h.wf h.wf W).trans (by simp)
/-- All that the law asks of rules whose table is there. -/
def FrGood (r : Nat → Int) (n : Int) (LT : List (List Int)) : Prop :=
  ∃ (t s m d R1 R3 : Nat → Int), LT = rowsL t 3 ∧ (∀ W, Calls Try.prog 11 #[.agg (z9 r)] W fun e w' => e = .returned (.tuple #[.agg (z9 R1), .int .i64 0]) ∧ Below W.heap.size W w') ∧ (∀ W, Calls Try.prog 6 #[.agg (z9 R1), .int .i64 n] W (RetT W (rowsL s 3) 0)) ∧ (∀ W, Calls Try.prog 12 #[.string ⟨#[97, 108, 108]⟩] W fun e w' => e = .returned (.tuple #[.agg (z9 allR), .int .i64 0]) ∧ Below W.heap.size W w') ∧ (∀ W, Calls Try.prog 6 #[.agg (z9 allR), .int .i64 n] W (RetT W (rowsL m 3) 0)) ∧
    (∀ (A : Option Addr) (c : Nat) (W : World), Ints W A [1, 2, 0] → Calls Try.prog 13 #[.agg (z9 r), .slice A 3 c] W fun e w' => e = .returned (.tuple #[.agg (z9 R3), .int .i64 0]) ∧ Below W.heap.size W w') ∧ (∀ W, Calls Try.prog 6 #[.agg (z9 R3), .int .i64 n] W (RetT W (rowsL d 3) 0)) ∧
    ((∀ W, Calls Try.prog 14 #[.agg (z9 r), .int .i64 n, .int .i64 0, .int .i64 1] W fun e w' => e = .returned (.tuple #[.int .i64 (t 1), .int .i64 0]) ∧ Below W.heap.size W w') ∧ s 3 = t 1 ∧ ¬ t 1 < m 1 ∧ d 5 = t 1) ∧ ((∀ W, Calls Try.prog 14 #[.agg (z9 r), .int .i64 n, .int .i64 0, .int .i64 2] W fun e w' => e = .returned (.tuple #[.int .i64 (t 2), .int .i64 0]) ∧ Below W.heap.size W w') ∧ s 6 = t 2 ∧ ¬ t 2 < m 2 ∧ d 3 = t 2) ∧ ((∀ W, Calls Try.prog 14 #[.agg (z9 r), .int .i64 n, .int .i64 1, .int .i64 0] W fun e w' => e = .returned (.tuple #[.int .i64 (t 3), .int .i64 0]) ∧ Below W.heap.size W w') ∧ s 1 = t 3 ∧ ¬ t 3 < m 3 ∧ d 7 = t 3) ∧ ((∀ W, Calls Try.prog 14 #[.agg (z9 r), .int .i64 n, .int .i64 1, .int .i64 2] W fun e w' => e = .returned (.tuple #[.int .i64 (t 5), .int .i64 0]) ∧ Below W.heap.size W w') ∧ s 7 = t 5 ∧ ¬ t 5 < m 5 ∧ d 6 = t 5) ∧ ((∀ W, Calls Try.prog 14 #[.agg (z9 r), .int .i64 n, .int .i64 2, .int .i64 0] W fun e w' => e = .returned (.tuple #[.int .i64 (t 6), .int .i64 0]) ∧ Below W.heap.size W w') ∧ s 2 = t 6 ∧ ¬ t 6 < m 6 ∧ d 1 = t 6) ∧ ((∀ W, Calls Try.prog 14 #[.agg (z9 r), .int .i64 n, .int .i64 2, .int .i64 1] W fun e w' => e = .returned (.tuple #[.int .i64 (t 7), .int .i64 0]) ∧ Below W.heap.size W w') ∧ s 5 = t 7 ∧ ¬ t 7 < m 7 ∧ d 2 = t 7)
theorem ta_yes {r : Nat → Int} {n : Int} (h : tw0 r n = 0) : taL r n = rowsL (tbl (alR r) n.toNat) 3 := by unfold taL; rw [if_pos h]
theorem fr_all (r : Nat → Int) (n : Int) (hr : RB r) : ∃ (LT : List (List Int)) (E : Int) (b : Bool), (∀ W, Calls Try.prog 6 #[.agg (z9 r), .int .i64 n] W (RetT W LT E)) ∧ (∀ W, Calls Try.prog 7 #[.agg (z9 r), .int .i64 n] W (RetT W LT E)) ∧ (∀ W, Calls Try.prog 9 #[.agg (z9 r)] W fun e w' => e = .returned (.bool b) ∧ Below W.heap.size W w') ∧ (∀ W, Calls Try.prog 10 #[.agg (z9 r)] W fun e w' => e = .returned (.bool b) ∧ Below W.heap.size W w') ∧ (E ≠ 0 ∨ (E = 0 ∧ FrGood r n LT)) := by
  refine ⟨taL r n, tw0 r n, ruB r, fun W => (implTableByRules_ret r hr.wf n W).mono fun e w' h => retT_own (taL_small r n) h, fun W => (specTableByRules_ret r n W).mono fun e w' h => retT_read (taL_small r n) h, fun W => implIsRules_calls r hr.wf W, fun W => specIsRules_calls r W, ?_⟩
  by_cases h : tw0 r n = 0
  · right
    refine ⟨h, ?_⟩
    obtain ⟨c1, c2, c3, c4, c5, hp⟩ := fr_facts h
    have k1 := fun W => implTurnRules_calls r hr.wf W
    have k2 := fun W => (implTableByRules_ret (tuR r) (tu_RB hr).wf n W).mono fun e w' h => retT_own (taL_small (tuR r) n) h
    have k3 := fun W => implNamedRules_calls ⟨#[97, 108, 108]⟩ W
    have k4 := fun W => (implTableByRules_ret allR (show RB allR from lst_RB _ (by decide)).wf n W).mono fun e w' h => retT_own (taL_small allR n) h
    have k5 := fun (A : Option Addr) (c : Nat) (W : World) (hI : Ints W A [1, 2, 0]) => implRenameRules_calls r hr.wf A 3 c [1, 2, 0] W rfl (by omega) hI
    have k6 := fun W => (implTableByRules_ret (rnR r [1, 2, 0]) (rn_RB hr _).wf n W).mono fun e w' h => retT_own (taL_small (rnR r [1, 2, 0]) n) h
    rw [show nmR ⟨#[97, 108, 108]⟩ = (allR, 0) by unfold nmR; rw [if_pos (by decide +kernel)]; rfl] at k3
    rw [c1] at k1
    rw [ta_yes c2, c2] at k2
    rw [ta_yes c3, c3] at k4
    rw [c4] at k5
    rw [ta_yes c5, c5] at k6
    refine ⟨_, _, _, _, _, _, ta_yes h, k1, k2, k3, k4, k5, k6, ?_⟩
    have num : ∀ i j : Nat, i < 3 → j < 3 → i ≠ j → (∀ W, Calls Try.prog 14 #[.agg (z9 r), .int .i64 n, .int .i64 (i : Int), .int .i64 (j : Int)] W fun e w' => e = .returned (.tuple #[.int .i64 (tbl (alR r) n.toNat (i * 3 + j)), .int .i64 0]) ∧ Below W.heap.size W w') := by
      intro i j hi hj hij W
      obtain ⟨e1, e2, _⟩ := hp i j hi hj hij
      have k := implNumberByRules_calls r hr.wf n i j W
      rw [e1, e2] at k
      exact k
    refine ⟨⟨fun W => num 0 1 (by omega) (by omega) (by omega) W, (hp 0 1 (by omega) (by omega) (by omega)).2.2.1, Int.not_lt.2 (hp 0 1 (by omega) (by omega) (by omega)).2.2.2.1, (hp 0 1 (by omega) (by omega) (by omega)).2.2.2.2⟩, ⟨fun W => num 0 2 (by omega) (by omega) (by omega) W, (hp 0 2 (by omega) (by omega) (by omega)).2.2.1, Int.not_lt.2 (hp 0 2 (by omega) (by omega) (by omega)).2.2.2.1, (hp 0 2 (by omega) (by omega) (by omega)).2.2.2.2⟩, ⟨fun W => num 1 0 (by omega) (by omega) (by omega) W, (hp 1 0 (by omega) (by omega) (by omega)).2.2.1, Int.not_lt.2 (hp 1 0 (by omega) (by omega) (by omega)).2.2.2.1, (hp 1 0 (by omega) (by omega) (by omega)).2.2.2.2⟩, ⟨fun W => num 1 2 (by omega) (by omega) (by omega) W, (hp 1 2 (by omega) (by omega) (by omega)).2.2.1, Int.not_lt.2 (hp 1 2 (by omega) (by omega) (by omega)).2.2.2.1, (hp 1 2 (by omega) (by omega) (by omega)).2.2.2.2⟩, ⟨fun W => num 2 0 (by omega) (by omega) (by omega) W, (hp 2 0 (by omega) (by omega) (by omega)).2.2.1, Int.not_lt.2 (hp 2 0 (by omega) (by omega) (by omega)).2.2.2.1, (hp 2 0 (by omega) (by omega) (by omega)).2.2.2.2⟩, ⟨fun W => num 2 1 (by omega) (by omega) (by omega) W, (hp 2 1 (by omega) (by omega) (by omega)).2.2.1, Int.not_lt.2 (hp 2 1 (by omega) (by omega) (by omega)).2.2.2.1, (hp 2 1 (by omega) (by omega) (by omega)).2.2.2.2⟩⟩
  · exact .inl h
theorem nu_all (r : Nat → Int) (n i j : Int) (hr : RB r) : ∃ (v E : Int), (∀ W, Calls Try.prog 14 #[.agg (z9 r), .int .i64 n, .int .i64 i, .int .i64 j] W fun e w' => e = .returned (.tuple #[.int .i64 v, .int .i64 E]) ∧ Below W.heap.size W w') ∧ (∀ W, Calls Try.prog 16 #[.agg (z9 r), .int .i64 n, .int .i64 i, .int .i64 j] W fun e w' => e = .returned (.tuple #[.int .i64 v, .int .i64 E]) ∧ Below W.heap.size W w') :=
  ⟨nuV r n i j, twE r n i j, fun W => implNumberByRules_calls r hr.wf n i j W, fun W => specNumberByRules_calls r n i j W⟩
theorem nm_all (s : ByteArray) : ∃ (R : Nat → Int) (E : Int), (∀ W, (Op.equalIn 10000 26 (.agg (z9 R)) (.agg (z9 R))).run Try.prog W = .ok true W) ∧ (∀ W, Calls Try.prog 12 #[.string s] W fun e w' => e = .returned (.tuple #[.agg (z9 R), .int .i64 E]) ∧ Below W.heap.size W w') ∧ (∀ W, Calls Try.prog 18 #[.string s] W fun e w' => e = .returned (.tuple #[.agg (z9 R), .int .i64 E]) ∧ Below W.heap.size W w') :=
  ⟨(nmR s).1, (nmR s).2, eqR (nm_RB s), fun W => implNamedRules_calls s W, fun W => specNamedRules_calls s W⟩
theorem st_all (r : Nat → Int) (hr : RB r) : ∃ (v : Bool) (E : Int), (∀ W, Calls Try.prog 20 #[.agg (z9 r)] W fun e w' => e = .returned (.tuple #[.bool v, .int .i64 E]) ∧ Below W.heap.size W w') ∧ (∀ W, Calls Try.prog 21 #[.agg (z9 r)] W fun e w' => e = .returned (.tuple #[.bool v, .int .i64 E]) ∧ Below W.heap.size W w') :=
  ⟨asV r, cR r, fun W => implAreStrong_calls r hr.wf W, fun W => specAreStrong_calls r W⟩
theorem tu_all (r : Nat → Int) (hr : RB r) : ∃ (R : Nat → Int) (E : Int), (∀ W, (Op.equalIn 10000 26 (.agg (z9 R)) (.agg (z9 R))).run Try.prog W = .ok true W) ∧ (∀ W, Calls Try.prog 11 #[.agg (z9 r)] W fun e w' => e = .returned (.tuple #[.agg (z9 R), .int .i64 E]) ∧ Below W.heap.size W w') ∧ (∀ W, Calls Try.prog 23 #[.agg (z9 r)] W fun e w' => e = .returned (.tuple #[.agg (z9 R), .int .i64 E]) ∧ Below W.heap.size W w') :=
  ⟨tuR r, cR r, eqR (tu_RB hr), fun W => implTurnRules_calls r hr.wf W, fun W => specTurnRules_calls r W⟩
theorem rn_all (r : Nat → Int) (m : Nat) (L : List Int) (hr : RB r) (hL : L.length = m) (hm : m ≤ 7) : ∃ (R : Nat → Int) (E : Int), (∀ W, (Op.equalIn 10000 26 (.agg (z9 R)) (.agg (z9 R))).run Try.prog W = .ok true W) ∧ (∀ (A : Option Addr) (c : Nat) (W : World), Ints W A L → Calls Try.prog 13 #[.agg (z9 r), .slice A m c] W fun e w' => e = .returned (.tuple #[.agg (z9 R), .int .i64 E]) ∧ Below W.heap.size W w') ∧ (∀ (A : Option Addr) (c : Nat) (W : World), Ints W A L → Calls Try.prog 25 #[.agg (z9 r), .slice A m c] W fun e w' => e = .returned (.tuple #[.agg (z9 R), .int .i64 E]) ∧ Below W.heap.size W w') :=
  ⟨rnR r L, rnC r L, eqR (rn_RB hr L), fun A c W hI => implRenameRules_calls r hr.wf A m c L W hL (by omega) hI, fun A c W hI => specRenameRules_calls r A m c L W hL (by omega) hI⟩

end Go.Proofs.Ytfdjlgpdbgmdkac
