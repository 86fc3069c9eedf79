/- Contracts: a word of rings and a ring that a law draws from its code. -/
import Derived.Test.YtfdjlgpdbgmdkabDrawRg
import Derived.Test.YtfdjlgpdbgmdkabRings
namespace Go.Proofs.Ytfdjlgpdbgmdkab
open Go.RowKit
set_option linter.unusedVariables false

def RetDc (w : World) (e : Ending) (w' : World) : Prop :=
  ∃ (A' : Option Addr) (m c' : Nat) (L : List Int) (i : Int), e = .returned (.tuple #[.slice A' m c', .int .i64 i]) ∧ Own w.heap.size w' A' m c' L ∧ m ≤ 18 ∧ Below w.heap.size w w'

set_option maxHeartbeats 1000000 in
theorem DrawChangeRing_ret (A : Option Addr) (n c : Nat) (w : World) (hn : n ≤ 4096) (hA : By w A n) (hl : ∀ ad, A = some ad → 0 < n → ad.block < w.heap.size) :
    Calls Try.prog 17 #[.slice A n c] w (RetDc w) := by
  go_enter Try.func17, Try.ntmps17
  go_wp2_with fail
  refine (l01From_calls A n c _ hn hA hl).mono ?_
  rintro e w1 ⟨g, rfl, hgB, hS, hb⟩
  have HS1 := Lib.hid hS
  have HB1 := Lib.hid hb
  have hz1 := hb.size
  clear hS hb
  go_wp2_with fail
  refine (l05Draw_ret g A n c _ hn HS1.out).mono ?_
  rintro e w2 ⟨A', m, c', L, rfl, hO, hm, hS, hG⟩
  have D2 := Lib.hid (hO.mono hz1)
  have HS2 := Lib.hid hS
  have HB2 := Lib.hid (HB1.out.trans (grown_below hG (by omega) (by omega)))
  have hz2 := HB2.out.size
  have HLn := Lib.hid (Own.len hO)
  clear hO hS hG HS1 HB1
  have hLn := HLn.out
  by_cases hm0 : m = 0
  · have hgt : ¬ (1 : Int) < (m : Int) := by omega
    subst hm0
    go_wp2_with fail
    refine (l01Near_calls g A n c 0 _ hn (by omega) (by omega) HS2.out).mono ?_
    rintro e w3 ⟨r, rfl, _, hS, hG⟩
    have D3 := Lib.hid (D2.out.kept hG (own_src D2.out HS2.out))
    have HS3 := Lib.hid hS
    have HB3 := Lib.hid (HB2.out.trans (grown_below hG (by omega) (by omega)))
    have hz3 := HB3.out.size
    clear hS hG HS2 HB2 D2
    go_wp2_with fail
    refine (l05Is_calls A' 0 c' L _ HLn.out (by omega) D3.out.ints).mono ?_
    rintro e wq ⟨rfl, rfl⟩
    cases hr : rgB L
    · go_wp2; go_ret2; exact ⟨_, _, _, _, _, rfl, D3.out, hm, HB3.out⟩
    · go_wp2; go_ret2; exact ⟨_, _, _, _, _, rfl, D3.out, hm, HB3.out⟩
  · have hq : ¬ ((m : Int) - 1 < 0) := by omega
    go_wp2_with fail
    refine (l01Near_calls g A n c ((m : Int) - 1) _ hn (by omega) (by omega) HS2.out).mono ?_
    rintro e w3 ⟨r, rfl, _, hS, hG⟩
    have D3 := Lib.hid (D2.out.kept hG (own_src D2.out HS2.out))
    have HS3 := Lib.hid hS
    have HB3 := Lib.hid (HB2.out.trans (grown_below hG (by omega) (by omega)))
    have hz3 := HB3.out.size
    clear hS hG HS2 HB2 D2
    go_wp2_with fail
    refine (l05Is_calls A' m c' L _ HLn.out (by omega) D3.out.ints).mono ?_
    rintro e wq ⟨rfl, rfl⟩
    cases hr : rgB L
    · go_wp2; go_ret2; exact ⟨_, _, _, _, _, rfl, D3.out, hm, HB3.out⟩
    · by_cases hm1 : 1 < m
      · have hgt : (1 : Int) < (m : Int) := by omega
        go_wp2_with fail
        refine (l01Next_calls g A n c 2 _ hn HS3.out).mono ?_
        rintro e w4 ⟨x, rfl, hx, hS, hG⟩
        have D4 := Lib.hid (D3.out.kept hG (own_src D3.out HS3.out))
        have HB4 := Lib.hid (HB3.out.trans (grown_below hG (by omega) (by omega)))
        clear hS hG HS3 HB3 D3
        by_cases h0 : x = 0
        · subst h0
          go_wp2
          go_loopw [6] (fun v wr => ∃ q : Nat, v = .int .i64 ((q : Int) + 1) ∧ q + 1 ≤ m ∧ w4 = wr) (fun v _ => m - (intOf v).toNat)
          case atStart => exact ⟨0, rfl, by omega, rfl⟩
          case round =>
            obtain ⟨q, rfl, hqm, rfl⟩ := hrel
            by_cases hlt : q + 1 < m - 1
            · have hlt2 : (q : Int) + 1 < (m : Int) - 1 := by omega
              obtain ⟨ad, rfl, hbk, hcell⟩ := D4.out.ints q (by omega)
              have hq1 : (0 : Int) ≤ (q : Int) := by omega
              have hq2 : (q : Int) < (m : Int) := by omega
              by_cases hv : L.getD q 0 = 0
              · rw [hv] at hcell
                go_wp2
                go_roundw
                case rel => exact ⟨q + 1, by go_num, by omega, by trivial⟩
                case measure => simp [intOf]; omega
              · have hv2 : (L.getD q 0 == 0) = false := by simpa using hv
                generalize L.getD q 0 = lv at *
                go_wp2
                go_ret2
                exact ⟨_, _, _, _, _, rfl, D4.out, hm, HB4.out⟩
            · have hlt2 : ¬ (q : Int) + 1 < (m : Int) - 1 := by omega
              go_wp2
              go_ret2
              exact ⟨_, _, _, _, _, rfl, D4.out, hm, HB4.out⟩
        · have e0 : (x == 0) = false := by simpa using h0
          go_wp2
          go_ret2
          exact ⟨_, _, _, _, _, rfl, D4.out, hm, HB4.out⟩
      · have hgt : ¬ (1 : Int) < (m : Int) := by omega
        go_wp2; go_ret2; exact ⟨_, _, _, _, _, rfl, D3.out, hm, HB3.out⟩

end Go.Proofs.Ytfdjlgpdbgmdkab
