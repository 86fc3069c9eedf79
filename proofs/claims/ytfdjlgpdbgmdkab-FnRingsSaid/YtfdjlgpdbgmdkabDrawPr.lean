/- Contracts: a text of rings that a law draws. -/
import Derived.Test.YtfdjlgpdbgmdkabDrawTx
import Derived.Test.YtfdjlgpdbgmdkabDrawRg
import Derived.Test.YtfdjlgpdbgmdkabRgText
import Derived.Deep.LoopGhost
namespace Go.Proofs.Ytfdjlgpdbgmdkab
open Go.RowKit
set_option linter.unusedVariables false

set_option maxRecDepth 100000 in
set_option maxHeartbeats 2000000 in
theorem DrawParseRings_calls (A : Option Addr) (n c : Nat) (w : World) (hn : n ≤ 4096) (hA : By w A n) (hl : ∀ ad, A = some ad → 0 < n → ad.block < w.heap.size) :
    Calls Try.prog 25 #[.slice A n c] w fun e w' => ∃ t : ByteArray, e = .returned (.string t) ∧ t.size ≤ 1000000000000000000 ∧ Below w.heap.size w w' := by
  obtain ⟨T, hT⟩ := top_is
  have HT := Lib.hid hT
  have hT1 := hT.1
  clear hT
  go_enter Try.func25, Try.ntmps25
  go_wp2_with fail
  refine (l01From_calls A n c _ hn hA hl).mono ?_
  rintro e w1 ⟨g, rfl, hgB, hS, hb⟩
  have HS1 := Lib.hid hS
  have HB1 := Lib.hid hb
  have hz1 := hb.size
  clear hS hb
  go_wp2_with fail
  refine (l01Next_calls g A n c 9 _ hn HS1.out).mono ?_
  rintro e w2 ⟨x, rfl, hx, hS, hG⟩
  obtain ⟨j, rfl⟩ := Int.eq_ofNat_of_zero_le hx.1
  have hj : j ≤ 8 := by omega
  have HS2 := Lib.hid hS
  have HB2 := Lib.hid (HB1.out.trans (grown_below hG (by omega) (by omega)))
  have hz2 := HB2.out.size
  clear hx hS hG HS1 HB1
  go_wp2_with fail
  refine (l05DrawOf_calls g A n c j _ hn HS2.out (by omega)).mono ?_
  rintro e w3 ⟨A', c', L, rfl, hO, hbits, hS, hG⟩
  have HS3 := Lib.hid hS
  have HB3 := Lib.hid (HB2.out.trans (grown_below hG (by omega) (by omega)))
  have hz3 := HB3.out.size
  have hlen := Own.len hO
  have hrg : rgB L = true := by
    unfold rgB
    rw [Bool.and_eq_true, List.all_eq_true]
    exact ⟨fun x hx => by have := hbits x hx; unfold inB; simp; omega, by simp; omega⟩
  have HO3 := Lib.hid hO.ints
  have HLn := Lib.hid hlen
  have HRg := Lib.hid hrg
  clear hO hbits hS hG HS2 HB2 hlen hrg
  go_wp2_with fail
  refine (l05Text_calls A' j c' L _ HLn.out HO3.out HRg.out).mono ?_
  rintro e w4 ⟨rfl, hb⟩
  have HB4 := Lib.hid (HB3.out.trans (hb.mono HB3.out.size))
  obtain ⟨k0, h0, hS4⟩ := HS3.out.below hb
  have HS4 := Lib.hid hS4
  obtain ⟨m0, hm0, hL0⟩ := left_any (h := h0) HT.out hS4.1
  have HL0 := Lib.hid hL0
  have hsz : (⟨(rtB L j).toArray⟩ : ByteArray).size ≤ 8 := by show (rtB L j).toArray.size ≤ 8; simp [rtB_len]; omega
  generalize (⟨(rtB L j).toArray⟩ : ByteArray) = t0 at *
  clear hb hS4 hL0 HS3 HB3 HO3
  go_wp2
  go_loopg [4] m0 (fun m v wr => ∃ (t : ByteArray) (k h : Nat), v = .string t ∧ t.size + m ≤ 100000000000000000 ∧ Left T n k h m ∧ SrcAt wr g A n c k h ∧ Below w.heap.size w wr)
  case atStart => exact ⟨t0, k0, h0, rfl, by omega, HL0.out, HS4.out, HB4.out⟩
  case round =>
    obtain ⟨t, k, h, rfl, htm, hLf, hS, hB⟩ := hrel
    have HLf := Lib.hid hLf
    have HSr := Lib.hid hS
    have HBr := Lib.hid hB
    have hzr := hB.size
    clear hLf hS hB HS4 HB4 HL0
    go_wp2_with fail
    refine (l01Next_at g A n c k h 3 _ hn (by omega) HSr.out).mono ?_
    rintro e w5 ⟨x, k1, rfl, hx, hS, ha, hb, hG⟩
    have HS5 := Lib.hid hS
    have HB5 := Lib.hid (HBr.out.trans (grown_below hG (by omega) (by omega)))
    have hz5 := HB5.out.size
    have HA := Lib.hid ha
    have HBb := Lib.hid hb
    clear hS hG ha hb HSr HBr
    by_cases hx0 : x = 0
    · have HX := Lib.hid hx0
      have e0 : (x == 0) = true := by simpa using hx0
      clear hx0
      go_wp2_with fail
      refine (l01Damage_at g A n c k1 (nx h) t _ hn (by omega) HS5.out).mono ?_
      rintro e w6 ⟨u, k2, h2, rfl, hu, hk12, hk2n, hh, hS, hG⟩
      have HB6 := Lib.hid (HB5.out.trans (grown_below hG (by omega) (by omega)))
      have HS6 := Lib.hid hS
      obtain ⟨m', hm', hL'⟩ := left_next HT.out HLf.out HA.out HBb.out HX.out hk12 hk2n (h2 := h2) hh
      have HL' := Lib.hid hL'
      clear hS hG hL' hh
      go_wp2
      go_roundg m'
      case measure => exact hm'
      case rel => exact ⟨u, k2, h2, rfl, by omega, HL'.out, HS6.out, HB6.out⟩
    · have e0 : (x == 0) = false := by simpa using hx0
      clear hx0
      go_wp2
      go_ret
      exact ⟨t, rfl, by omega, HB5.out⟩

end Go.Proofs.Ytfdjlgpdbgmdkab
