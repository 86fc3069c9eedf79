/- Contracts: what the laws of chapter 8 draw from a code: a number of moves. -/
import Derived.Test.YtgjglpjnfhdebaaDrawPn
import Derived.Test.YtgjglpjnfhdebaaPnW
namespace Go.Proofs.Ytgjglpjnfhdebaa
open Go.RowKit
set_option linter.unusedVariables false

theorem wrap64_le (z : Int) : wrap64 z ≤ 9223372036854775807 := by unfold wrap64; omega
theorem pick_le {x : Int} (h : x ∈ [(0 : Int), 100, -1, 9223372036854775807]) : x ≤ 9223372036854775807 := by
  simp only [List.mem_cons, List.not_mem_nil, or_false] at h
  omega

theorem DrawTowerWithin_calls (A : Option Addr) (n c : Nat) (w : World)
    (hn : n ≤ 4096) (hA : By w A n) (hl : ∀ ad, A = some ad → 0 < n → ad.block < w.heap.size) :
    Calls Try.prog 17 #[.slice A n c] w fun e w' => ∃ p m : Int, e = .returned (.tuple #[.int .i64 p, .int .i64 m]) ∧ m ≤ 9223372036854775807 ∧ Below w.heap.size w w' := by
  have HN := Lib.hid hn
  have HA := Lib.hid hA
  have HL := Lib.hid hl
  clear hn hA hl
  go_enter Try.func17, Try.ntmps17
  go_wp2_with fail
  refine (l01From_calls A n c _ HN.out HA.out HL.out).mono ?_
  rintro e w1 ⟨g, rfl, hgB, hS, hb⟩
  have HS1 := Lib.hid hS
  have HB1 := Lib.hid hb
  have HG := Lib.hid hgB
  clear hS hb hgB
  go_wp2_with fail
  refine (l08Draw_calls A n c _ HN.out (HA.out.below HB1.out) (fun ad e h => Nat.lt_of_lt_of_le (HL.out ad e h) HB1.out.size)).mono ?_
  rintro e w2 ⟨p, m, rfl, hb⟩
  have HB2 := Lib.hid (HB1.out.trans (hb.mono HB1.out.size))
  have HS2 := Lib.hid (HS1.out.below hb)
  clear hb HB1 HS1
  go_wp2_with fail
  refine (specPresumedNumber_calls p m _).mono ?_
  by_cases hE : prB 10 p 60 m = true
  · rw [prC_yes hE]
    clear hE
    generalize pnV p m = u
    rintro e w4 ⟨rfl, hb⟩
    have HB4 := Lib.hid (HB2.out.trans (hb.mono HB2.out.size))
    have HS4 := Lib.hid (HS2.out.below hb)
    clear hb HB2 HS2
    go_wp2_with fail
    refine (l01Next_calls g A n c 3 _ HN.out HS4.out).mono ?_
    rintro e w5 ⟨v6, rfl, hx, hS, hG⟩
    have Xv6 := Lib.hid hx
    clear hx
    have HS5 := Lib.hid hS
    have HB5 := Lib.hid ((HB4.out).trans (grown_below hG HG.out (HB4.out).size))
    clear hS hG HS4 HB4
    go_wp2
    go_ret2
    exact ⟨_, _, rfl, wrap64_le _, HB5.out⟩
  · rw [prC_no (by simpa using hE)]
    clear hE
    generalize pnV p m = u
    rintro e w4 ⟨rfl, hb⟩
    have HB4 := Lib.hid (HB2.out.trans (hb.mono HB2.out.size))
    have HS4 := Lib.hid (HS2.out.below hb)
    clear hb HB2 HS2
    go_wp2_with fail
    have hlt := HS4.out.lt
    refine (l01Pick_calls g A n c _ 4 _ [0, 100, -1, 9223372036854775807] _ HN.out (by omega) (by omega) rfl (ints_new w4 2 _) (fun ad e => by injection e with e; subst e; simp only; omega) (HS4.out.alloc _)).mono ?_
    rintro e w5 ⟨v7, rfl, hx, hS, hG⟩
    have Xv7 := Lib.hid hx
    clear hx hlt
    have HS5 := Lib.hid hS
    have HB5 := Lib.hid ((HB4.out.alloc HB4.out.size _).trans (grown_below hG HG.out (HB4.out.alloc HB4.out.size _).size))
    clear hS hG HS4 HB4
    go_wp2
    go_ret2
    exact ⟨_, _, rfl, pick_le Xv7.out, HB5.out⟩

end Go.Proofs.Ytgjglpjnfhdebaa
