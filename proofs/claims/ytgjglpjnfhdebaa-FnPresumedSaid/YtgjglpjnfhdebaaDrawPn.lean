/- Contracts: what the laws of chapter 8 draw from a code. -/
import Derived.Test.YtgjglpjnfhdebaaDraw
namespace Go.Proofs.Ytgjglpjnfhdebaa
open Go.RowKit
set_option linter.unusedVariables false

theorem l08Draw_calls (A : Option Addr) (n c : Nat) (w : World)
    (hn : n ≤ 4096) (hA : By w A n) (hl : ∀ ad, A = some ad → 0 < n → ad.block < w.heap.size) :
    Calls Try.prog 21 #[.slice A n c] w fun e w' => ∃ p m : Int, e = .returned (.tuple #[.int .i64 p, .int .i64 m]) ∧ Below w.heap.size w w' := by
  have HN := Lib.hid hn
  have HA := Lib.hid hA
  have HL := Lib.hid hl
  clear hn hA hl
  go_enter Try.func21, Try.ntmps21
  go_wp2_with fail
  refine (l01From_calls A n c _ HN.out HA.out HL.out).mono ?_
  rintro e w1 ⟨g, rfl, hgB, hS, hb⟩
  have HS1 := Lib.hid hS
  have HB1 := Lib.hid hb
  have HG := Lib.hid hgB
  clear hS hb hgB
  go_wp2_with fail
  refine (l01Next_calls g A n c 12 _ HN.out HS1.out).mono ?_
  rintro e w2 ⟨v1, rfl, hx, hS, hG⟩
  have Xv1 := Lib.hid hx
  clear hx
  have HS2 := Lib.hid hS
  have HB2 := Lib.hid ((HB1.out).trans (grown_below hG HG.out (HB1.out).size))
  clear hS hG HS1 HB1
  go_wp2_with fail
  have hlt := HS2.out.lt
  refine (l01Pick_calls g A n c _ 7 _ [3, 4, 4, 4, 5, 6, v1] _ HN.out (by omega) (by omega) rfl (ints_new w2 2 _) (fun ad e => by injection e with e; subst e; simp only; omega) (HS2.out.alloc _)).mono ?_
  rintro e w3 ⟨v2, rfl, hx, hS, hG⟩
  have Xv2 := Lib.hid hx
  clear hx hlt
  have HS3 := Lib.hid hS
  have HB3 := Lib.hid ((HB2.out.alloc HB2.out.size _).trans (grown_below hG HG.out (HB2.out.alloc HB2.out.size _).size))
  clear hS hG HS2 HB2
  go_wp2_with fail
  refine (l01Next_calls g A n c 12 _ HN.out HS3.out).mono ?_
  rintro e w4 ⟨v3, rfl, hx, hS, hG⟩
  have Xv3 := Lib.hid hx
  clear hx
  have HS4 := Lib.hid hS
  have HB4 := Lib.hid ((HB3.out).trans (grown_below hG HG.out (HB3.out).size))
  clear hS hG HS3 HB3
  go_wp2_with fail
  refine (l01Next_calls g A n c 30 _ HN.out HS4.out).mono ?_
  rintro e w5 ⟨v4, rfl, hx, hS, hG⟩
  have Xv4 := Lib.hid hx
  clear hx
  have HS5 := Lib.hid hS
  have HB5 := Lib.hid ((HB4.out).trans (grown_below hG HG.out (HB4.out).size))
  clear hS hG HS4 HB4
  go_wp2_with fail
  refine (l01Near_calls g A n c 60 _ HN.out (by omega) (by omega) HS5.out).mono ?_
  rintro e w6 ⟨v5, rfl, hx, hS, hG⟩
  have Xv5 := Lib.hid hx
  clear hx
  have HS6 := Lib.hid hS
  have HB6 := Lib.hid ((HB5.out).trans (grown_below hG HG.out (HB5.out).size))
  clear hS hG HS5 HB5
  go_wp2_with fail
  have hlt := HS6.out.lt
  refine (l01Pick_calls g A n c _ 3 _ [v3, v4, v5] _ HN.out (by omega) (by omega) rfl (ints_new w6 2 _) (fun ad e => by injection e with e; subst e; simp only; omega) (HS6.out.alloc _)).mono ?_
  rintro e w7 ⟨v6, rfl, hx, hS, hG⟩
  have Xv6 := Lib.hid hx
  clear hx hlt
  have HS7 := Lib.hid hS
  have HB7 := Lib.hid ((HB6.out.alloc HB6.out.size _).trans (grown_below hG HG.out (HB6.out.alloc HB6.out.size _).size))
  clear hS hG HS6 HB6
  go_wp2
  go_ret2
  exact ⟨_, _, rfl, HB7.out⟩

theorem DrawPresumedNumber_calls (A : Option Addr) (n c : Nat) (w : World)
    (hn : n ≤ 4096) (hA : By w A n) (hl : ∀ ad, A = some ad → 0 < n → ad.block < w.heap.size) :
    Calls Try.prog 5 #[.slice A n c] w fun e w' => ∃ p m : Int, e = .returned (.tuple #[.int .i64 p, .int .i64 m]) ∧ Below w.heap.size w w' := by
  go_enter Try.func5, Try.ntmps5
  go_wp2_with fail
  refine (l08Draw_calls A n c _ hn hA hl).mono ?_
  rintro e w1 ⟨p, m, rfl, hb⟩
  have HB := Lib.hid hb
  clear hb
  go_wp2
  go_ret2
  exact ⟨_, _, rfl, HB.out⟩

end Go.Proofs.Ytgjglpjnfhdebaa
