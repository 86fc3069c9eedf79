/- Contracts: slices.Concat over words of integers, slices.Grow of nothing. -/
import Derived.Test.YtfdjlgpdbgmdkabMark
import Derived.Test.YtfdjlgpdbgmdkabNews
import Derived.Test.YtfdjlgpdbgmdkabOwnI
import Derived.Lib.AppendZeros
namespace Go.Proofs.Ytfdjlgpdbgmdkab
open Go.RowKit
set_option linter.unusedVariables false

/-- A word that lies in memory. -/
structure Wd where
  ad : Addr
  n : Nat
  c : Nat
  L : List Int
def Wd.v (x : Wd) : Value := .slice (some x.ad) x.n x.c
def Wd.at (w : World) (x : Wd) : Prop := x.L.length = x.n ∧ x.n ≤ 16 ∧ Ints w (some x.ad) x.L
def WdsAt (w : World) (g : Nat) (ws : List Wd) : Prop := Box w g 24 (ws.map Wd.v).toArray ∧ ∀ x ∈ ws, x.at w
def catL (ws : List Wd) : List Int := (ws.map Wd.L).flatten
theorem WdsAt.below {w w' : World} {g : Nat} {ws : List Wd} (h : WdsAt w g ws) (hb : Below w.heap.size w w') : WdsAt w' g ws :=
  ⟨h.1.below hb h.1.lt, fun x hx => ⟨(h.2 x hx).1, (h.2 x hx).2.1, (h.2 x hx).2.2.below hb⟩⟩
theorem catL_succ {ws : List Wd} {j : Nat} {x : Wd} (h : ws[j]? = some x) : catL (ws.take (j + 1)) = catL (ws.take j) ++ x.L := by
  obtain ⟨hj, he⟩ := List.getElem?_eq_some_iff.1 h
  unfold catL
  rw [List.take_succ_eq_append_getElem hj, he]
  simp
theorem catL_len {ws : List Wd} {w : World} (h : ∀ x ∈ ws, x.at w) : (catL ws).length ≤ 16 * ws.length := by
  induction ws with
  | nil => simp [catL]
  | cons x t ih =>
    have h1 := h x List.mem_cons_self
    have h2 := ih (fun y hy => h y (List.mem_cons_of_mem _ hy))
    have e : catL (x :: t) = x.L ++ catL t := by simp [catL]
    rw [e, List.length_append, h1.1, List.length_cons]
    have := h1.2.1
    omega
theorem WdsAt.get {w : World} {g j : Nat} {ws : List Wd} (h : WdsAt w g ws) (hj : j < ws.length) : ∃ (ad : Addr) (n c : Nat) (L : List Int), ws[j]? = some ⟨ad, n, c, L⟩ ∧ L.length = n ∧ n ≤ 16 ∧ Ints w (some ad) L ∧ w.cell? ⟨g, j, none⟩ = some (.slice (some ad) n c) := by
  have hx := List.getElem?_eq_getElem hj
  have ha := h.2 _ (List.getElem_mem hj)
  refine ⟨ws[j].ad, ws[j].n, ws[j].c, ws[j].L, hx, ha.1, ha.2.1, ha.2.2, ?_⟩
  rw [h.1.cell j]
  simp [hj, Wd.v]

theorem OwnG.grown_belowB {e size B : Nat} {w w1 : World} {A : Option Addr} {n c : Nat} {xs : List Value} {B0 : Nat} (h : OwnG e size B w A n c xs) (hg : w.grownBy w1 (Value.slice A n c).ownBlock) (h1 : B0 ≤ B) (h2 : B0 ≤ w.heap.size) : Below B0 w w1 := by
  refine (Below.refl B0 w).grown hg h2 (fun k hk => ?_)
  rcases h.form with ⟨rfl, rfl, rfl⟩ | ⟨g, rfl, hB, _⟩
  · simp [Value.ownBlock] at hk
  · simp only [Value.ownBlock, Option.some.injEq] at hk
    omega

theorem growNil_calls (k : Nat) (w : World) (hk : k ≤ 1000) :
    Calls Try.prog 64 #[.slice none 0 0, .int .i64 k] w fun e w' => ∃ A c, e = .returned (.slice A 0 c) ∧ OwnG 2 1 w.heap.size w' A 0 c [] ∧ Below w.heap.size w w' := by
  by_cases h0 : k = 0
  · subst h0
    go_enter Try.func64, Try.ntmps64
    go_wp2
    go_ret
    exact ⟨none, 0, rfl, OwnG.nilS _ _ _ _, Below.refl _ _⟩
  · obtain ⟨i0, hi, hz0, hz1, hz2⟩ := info_parts Try.infoI
    have hr := Lib.run_append_nil_zeros (P := Try.prog) w 24 3 24 2 i0 (.int .i64 0) .i64 .i64 Try.underlying24 Try.underlying3 hi hz0 k (by omega) (by omega) (by omega) (by rw [hz2]; omega)
    have hG1 := grownCap_ge w k 0 2
    have hG2 := grownCap_le_maxLen w k 0 2 (by unfold maxLen; omega)
    unfold maxLen at hG2
    have hpos : 0 < k := by omega
    clear h0
    obtain ⟨G, hG⟩ : ∃ G, G = grownCap w k 0 2 := ⟨_, rfl⟩
    rw [← hG] at hr hG1 hG2
    obtain ⟨CS, hCS⟩ : ∃ CS, CS = Builtin.zeroCells (Value.int .i64 0).cells k ++ Builtin.zeroCells (Value.int .i64 0).cells (G - k) := ⟨_, rfl⟩
    have hsz : CS.size = G := by rw [hCS]; simp [Builtin.zeroCells, Value.cells]; omega
    rw [← hCS] at hr
    have HS := Lib.hid hsz
    clear hG hCS hsz
    have HR := Lib.hid hr
    clear hr
    go_enter Try.func64, Try.ntmps64
    go_wp2_with (at_builtin; refine Lib.wpList_append_run _ rfl (.tmp 20) (.tmp 21) 24 3 rfl (.slice none 0 0) (.int .i64 k) rfl rfl _ _ HR.out ?_)
    go_ret
    have hb : Below w.heap.size w (w.drew.alloc (.cells CS 2)) := (Below.refl w.heap.size w).drew.alloc (Nat.le_refl _) _
    have hbx : Box (w.drew.alloc (.cells CS 2)) w.heap.size 2 CS := Box.new w.drew _ _
    exact ⟨_, G, rfl, ⟨by simp, .inr ⟨_, G, CS, rfl, Nat.le_refl _, hbx, Nat.zero_le _, by unfold maxLen; omega, by rw [HS.out]; omega, by simp⟩⟩, hb⟩

set_option maxHeartbeats 2000000 in
theorem concat_calls (g c0 : Nat) (ws : List Wd) (q : Nat) (w : World) (hq : ws.length = q) (hq4 : q ≤ 4) (hx : WdsAt w g ws) :
    Calls Try.prog 62 #[.slice (some ⟨g, 0, none⟩) q c0] w fun e w' => ∃ A c, e = .returned (.slice A (catL ws).length c) ∧ OwnG 2 1 w.heap.size w' A (catL ws).length c ((catL ws).map (Value.int .i64)) ∧ Below w.heap.size w w' := by
  obtain ⟨i0, hi, hz0, hz1, hz2⟩ := info_parts Try.infoI
  have HQ := Lib.hid hq
  have HX := Lib.hid hx
  have hlen := catL_len hx.2
  rw [hq] at hlen
  have hg := hx.1.lt
  clear hq hx
  go_enter Try.func62, Try.ntmps62
  go_wp2
  go_loop [3, 5, 11] (fun s _ i => ∃ j k : Nat, j ≤ q ∧ i = .int .i64 j ∧ s = .int .i64 k ∧ Hid (k = (catL (ws.take j)).length) ∧ k ≤ 16 * j) (fun _ _ i => q - (intOf i).toNat)
  case atStart => exact ⟨0, 0, Nat.zero_le _, rfl, rfl, by unfold Hid catL; simp, by omega⟩
  case round =>
    obtain ⟨j, k, hj, rfl, rfl, hk, hkb⟩ := hrel
    by_cases hlt : j < q
    · obtain ⟨ad, n, c, L, hw, hL, hn, hI, hc⟩ := HX.out.get (j := j) (by rw [HQ.out]; exact hlt)
      have hS := Lib.hid (catL_succ hw)
      have hHL := Lib.hid hL
      clear hw hI hL
      go_wp2
      go_round
      case rel => exact ⟨j + 1, k + n, by omega, by go_num, by go_num, by unfold Hid; rw [hS.out, List.length_append, ← hk.out, hHL.out], by omega⟩
      case measure => simp [intOf]; omega
    · obtain rfl : j = q := by omega
      go_wp2_with fail
      refine (growNil_calls k _ (by omega)).mono ?_
      rintro e w1 ⟨A1, c1, rfl, hO1, hb1⟩
      have HO1 := Lib.hid hO1
      have HB1 := Lib.hid hb1
      clear hO1 hb1
      go_wp2
      go_loopw [6, 8, 27] (fun v _ i wr => ∃ m : Nat, m ≤ j ∧ i = .int .i64 m ∧ (∃ A c, v = .slice A (catL (ws.take m)).length c ∧ OwnG 2 1 w.heap.size wr A (catL (ws.take m)).length c ((catL (ws.take m)).map (Value.int .i64))) ∧ (catL (ws.take m)).length ≤ 16 * m ∧ Below w.heap.size w wr) (fun _ _ i _ => j - (intOf i).toNat)
      case atStart => exact ⟨0, Nat.zero_le _, rfl, ⟨A1, c1, rfl, HO1.out⟩, by simp [catL], HB1.out⟩
      case round =>
        obtain ⟨m, hm, rfl, ⟨A, c, rfl, hO⟩, hml, hb⟩ := hrel
        have HO := Lib.hid hO
        have HB := Lib.hid hb
        have hsz := hb.size
        clear hO hb
        by_cases hlt2 : m < j
        · obtain ⟨ad, n, c2, L, hw, hL, hn, hI, hc⟩ := (HX.out.below HB.out).get (j := m) (by rw [HQ.out]; exact hlt2)
          have hS := Lib.hid (catL_succ hw)
          have hHL := Lib.hid hL
          have HI := Lib.hid hI
          have hgx : g < wr.heap.size := Nat.lt_of_lt_of_le hg hsz
          clear hw hI hL hk
          generalize catL (ws.take m) = D at *
          go_wp2_with (at_builtin; refine wpList_append_own _ rfl _ _ 24 rfl w.heap.size 2 i0 (.int .i64 0) 1 8 Try.underlying24 hi hz0 hz1 hz2 rfl (by decide) _ _ _ rfl HO.out ad n c2 (L.map (Value.int .i64)) rfl (by simp [hHL.out]) (HI.out.news) (ints_oneCell _ _) (by unfold maxLen; omega) (by omega) hsz ?_; intro v' w4 hown' hgrow _; obtain ⟨A4, c4, rfl⟩ := ownG_shape hown'; have HO4 := Lib.hid hown'; have HB4 := Lib.hid (HB.out.trans (OwnG.grown_belowB HO.out hgrow (Nat.le_refl _) hsz)); clear hown' hgrow)
          go_roundw
          case rel =>
            refine ⟨m + 1, by omega, by go_num, ⟨A4, c4, by rw [hS.out, List.length_append, hHL.out], ?_⟩, by rw [hS.out, List.length_append, hHL.out]; omega, HB4.out⟩
            rw [hS.out, List.length_append, hHL.out, List.map_append]
            exact HO4.out
          case measure => simp [intOf]; omega
        · obtain rfl : m = j := by omega
          have ht : Hid (ws.take m = ws) := by unfold Hid; rw [List.take_of_length_le (by rw [HQ.out]; exact Nat.le_refl _)]
          go_wp2
          go_ret
          rw [ht.out] at HO ⊢
          exact ⟨A, c, rfl, HO.out, HB.out⟩

end Go.Proofs.Ytfdjlgpdbgmdkab
