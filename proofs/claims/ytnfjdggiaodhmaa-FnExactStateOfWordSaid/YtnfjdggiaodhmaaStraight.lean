/- Contracts: straight and detour numbers, by the program. -/
import Derived.Test.YtnfjdggiaodhmaaPlace
namespace Go.Proofs.Ytnfjdggiaodhmaa
open Go.RowKit
open Go.RowKit (wrap64)
set_option linter.unusedVariables false

theorem quietC {P : Program} {f : FuncId} {args : Array Value} {w : World} {n : Nat} {v : Value} (h : Calls P f args (w.drewN n) fun e w' => e = .returned v ∧ w.drewN n = w') :
    Calls P f args (w.drewN n) fun e w'' => e = .returned v ∧ ∃ m, w'' = w.drewN m := h.mono fun _ _ ⟨he, hm⟩ => ⟨he, n, hm.symm⟩
theorem quietCa {P : Program} {f : FuncId} {args : Array Value} {w : World} {a n : Nat} {v : Value} (h : Calls P f args (w.drewN (a + n)) fun e w' => e = .returned v ∧ w.drewN (a + n) = w') :
    Calls P f args (w.drewN (a + n)) fun e w'' => e = .returned v ∧ ∃ m, w'' = w.drewN (a + m) := h.mono fun _ _ ⟨he, hm⟩ => ⟨he, n, hm.symm⟩

theorem Ints.drawsN {w : World} {A : Option Addr} {L : List Int} (h : Ints w A L) (n : Nat) : Ints (w.drewN n) A L := h

set_option maxHeartbeats 2000000 in
theorem straightNumber_calls (A : Option Addr) (n c : Nat) (L : List Int) (B : Option Addr) (d : Nat) (M : List Int) (g : Nat) (x y : Int) (w : World) (hL : L.length = n) (hM : M.length = n) (hn : n ≤ 8) (hg : g < n) (hc : n ≤ c) (hd : n ≤ d) (hI : Ints w A L) (hJ : Ints w B M) :
    Calls Try.prog 52 #[.slice A n c, .slice B n d, .agg #[.int .i64 g, .int .i64 x, .int .i64 y]] w fun e w' => e = .returned (.int .i64 (toE L y g + toE M x g + 1)) ∧ Below w.heap.size w w' := by
  have HL := Lib.hid hL
  have HM := Lib.hid hM
  have X0 := Lib.hid (Box.new w 50 #[.int .i64 g, .int .i64 x, .int .i64 y])
  have HB0 := Lib.hid ((Below.refl w.heap.size w).alloc (Nat.le_refl _) (.cells #[.int .i64 g, .int .i64 x, .int .i64 y] 50))
  have HI := Lib.hid (hI.below HB0.out)
  have HJ := Lib.hid (hJ.below HB0.out)
  have b1 := toE_bd L y g (by omega)
  have b2 := toE_bd M x g (by omega)
  have b3 := pow2_bd (k := g) (by omega)
  clear hL hM hI hJ
  have hg0 : (0 : Int) ≤ (g : Int) := by omega
  have hg1 : (g : Int) ≤ (c : Int) := by omega
  have hg2 : (g : Int) ≤ (d : Int) := by omega
  obtain ⟨ad, rfl, had, _⟩ := HI.out 0 (by rw [HL.out]; omega)
  obtain ⟨ad', rfl, had', _⟩ := HJ.out 0 (by rw [HM.out]; omega)
  obtain ⟨x0, x1, x2⟩ := X0.out.three
  go_enter Try.func52, Try.ntmps52
  go_wp2_with fail
  go_quiet ((go_at_call 44; first | (with_reducible refine quietC (distanceToExtreme_calls (some ad) g c L y _ ?_ ?_ ?_); (rw [HL.out]; omega); omega; exact HI.out.drawsN _) | (with_reducible refine quietCa (distanceToExtreme_calls (some ad) g c L y _ ?_ ?_ ?_); (rw [HL.out]; omega); omega; exact HI.out.drawsN _) | (with_reducible refine quietC (distanceToExtreme_calls (some ad') g d M x _ ?_ ?_ ?_); (rw [HM.out]; omega); omega; exact HJ.out.drawsN _) | (with_reducible refine quietCa (distanceToExtreme_calls (some ad') g d M x _ ?_ ?_ ?_); (rw [HM.out]; omega); omega; exact HJ.out.drawsN _)))
  go_wp2
  go_ret
  exact ⟨rfl, belowDraws HB0.out _⟩

set_option maxHeartbeats 2000000 in
theorem detourNumber_calls (A : Option Addr) (n c : Nat) (L : List Int) (B : Option Addr) (d : Nat) (M : List Int) (g : Nat) (x y z : Int) (w : World) (hL : L.length = n) (hM : M.length = n) (hn : n ≤ 8) (hg : g < n) (hc : n ≤ c) (hd : n ≤ d) (hI : Ints w A L) (hJ : Ints w B M) :
    Calls Try.prog 33 #[.slice A n c, .slice B n d, .agg #[.int .i64 g, .int .i64 x, .int .i64 y], .int .i64 z] w fun e w' => e = .returned (.int .i64 (toE L z g + toE M z g + pow2 g + 1)) ∧ Below w.heap.size w w' := by
  have HL := Lib.hid hL
  have HM := Lib.hid hM
  have X0 := Lib.hid (Box.new w 50 #[.int .i64 g, .int .i64 x, .int .i64 y])
  have HB0 := Lib.hid ((Below.refl w.heap.size w).alloc (Nat.le_refl _) (.cells #[.int .i64 g, .int .i64 x, .int .i64 y] 50))
  have HI := Lib.hid (hI.below HB0.out)
  have HJ := Lib.hid (hJ.below HB0.out)
  have b1 := toE_bd L z g (by omega)
  have b2 := toE_bd M z g (by omega)
  have b3 := pow2_bd (k := g) (by omega)
  have hsh := shl_pow4 (k := g) (by omega)
  clear hL hM hI hJ
  have hg0 : (0 : Int) ≤ (g : Int) := by omega
  have hg1 : (g : Int) ≤ (c : Int) := by omega
  have hg2 : (g : Int) ≤ (d : Int) := by omega
  obtain ⟨ad, rfl, had, _⟩ := HI.out 0 (by rw [HL.out]; omega)
  obtain ⟨ad', rfl, had', _⟩ := HJ.out 0 (by rw [HM.out]; omega)
  obtain ⟨x0, x1, x2⟩ := X0.out.three
  go_enter Try.func33, Try.ntmps33
  go_wp2_with fail
  go_quiet ((go_at_call 44; first | (with_reducible refine quietC (distanceToExtreme_calls (some ad) g c L z _ ?_ ?_ ?_); (rw [HL.out]; omega); omega; exact HI.out.drawsN _) | (with_reducible refine quietCa (distanceToExtreme_calls (some ad) g c L z _ ?_ ?_ ?_); (rw [HL.out]; omega); omega; exact HI.out.drawsN _) | (with_reducible refine quietC (distanceToExtreme_calls (some ad') g d M z _ ?_ ?_ ?_); (rw [HM.out]; omega); omega; exact HJ.out.drawsN _) | (with_reducible refine quietCa (distanceToExtreme_calls (some ad') g d M z _ ?_ ?_ ?_); (rw [HM.out]; omega); omega; exact HJ.out.drawsN _)))
  go_wp2
  go_ret
  exact ⟨rfl, belowDraws HB0.out _⟩

end Go.Proofs.Ytnfjdggiaodhmaa
