/- The number of digits 1 of a number in base 2: the specification's loop, and math/bits.OnesCount64 over 32 bits. -/
import Derived.Test.YtcicjnpnhaddcaaDoorState1
import Derived.Test.YtcicjnpnhaddcaaDoorBase
import Derived.Laws.Bits64b
namespace Go.Proofs.YtcicjnpnhaddcaaDoor
open Go.RowKit
open Go.RowKit (wrap64)
set_option linter.unusedVariables false

/-- The digits 1 among the first f of x. -/
def popF : Nat → Nat → Nat
  | 0, _ => 0
  | f + 1, x => x % 2 + popF f (x / 2)
def pop (x : Nat) : Nat := popF 32 x
theorem popF_le : ∀ f x, popF f x ≤ f
  | 0, _ => Nat.le_refl _
  | f + 1, x => by unfold popF; have := popF_le f (x / 2); omega
theorem popF_fuel : ∀ (f x : Nat), x < 2 ^ f → ∀ g, f ≤ g → popF g x = popF f x
  | 0, x, hx, g, _ => by
    obtain rfl : x = 0 := by simpa using hx
    clear hx
    induction g with
    | zero => rfl
    | succ g ih => unfold popF; rw [show 0 / 2 = 0 from rfl, ih (by omega)]; rfl
  | f + 1, x, hx, g, hg => by
    obtain ⟨g', rfl⟩ : ∃ g', g = g' + 1 := ⟨g - 1, by omega⟩
    unfold popF
    rw [popF_fuel f (x / 2) (by rw [Nat.pow_succ] at hx; omega) g' (by omega)]
theorem pop_half {x : Nat} (h : x < 4294967296) : pop x = x % 2 + pop (x / 2) := by
  unfold pop
  rw [← popF_fuel 32 (x / 2) (by omega) 32 (Nat.le_refl _), show popF 32 x = x % 2 + popF 31 (x / 2) from rfl, popF_fuel 31 (x / 2) (by omega) 32 (by omega)]
theorem pop_zero : pop 0 = 0 := by decide
theorem popF_byte (k x : Nat) : popF (k + 8) x = popF 8 (x % 256) + popF k (x / 256) := by
  simp only [popF]
  rw [show x / 2 / 2 / 2 / 2 / 2 / 2 / 2 / 2 = x / 256 by omega]
  omega

/-- A mask, byte by byte. -/
theorem land_split (a m : Nat) : a &&& m = (a % 256 &&& m % 256) + 256 * (a / 256 &&& m / 256) := by
  have h1 := Nat.and_mod_two_pow (a := a) (b := m) (n := 8)
  have h2 := Nat.and_div_two_pow (a := a) (b := m) (n := 8)
  rw [show (2 : Nat) ^ 8 = 256 from rfl] at h1 h2
  rw [← h1, ← h2]
  omega
def g1 (b : Nat) : Nat := (b / 2 &&& 85) + (b &&& 85)
def g2 (b : Nat) : Nat := (b / 4 &&& 51) + (b &&& 51)
theorem b1 : ∀ b : Fin 256, ∀ c : Fin 2, (b.val / 2 + 128 * c.val) &&& 85 = b.val / 2 &&& 85 := by decide +kernel
theorem b2 : ∀ b : Fin 256, ∀ c : Fin 4, (b.val / 4 + 64 * c.val) &&& 51 = b.val / 4 &&& 51 := by decide +kernel
theorem b3 : ∀ b : Fin 256, b.val &&& 15 = b.val % 16 := by decide +kernel
theorem g1_lt : ∀ b : Fin 256, g1 b.val < 256 := by decide +kernel
theorem g2_of : ∀ b : Fin 256, g2 (g1 b.val) < 256 ∧ g2 (g1 b.val) / 16 ≤ 4 ∧ g2 (g1 b.val) % 16 ≤ 4 ∧ g2 (g1 b.val) / 16 + g2 (g1 b.val) % 16 = popF 8 b.val := by decide +kernel
def S1 (m x : Nat) : Nat := (x / 2 &&& m) + (x &&& m)
def S2 (m x : Nat) : Nat := (x / 4 &&& m) + (x &&& m)
theorem S1_byte (m b x : Nat) (hb : b < 256) (hm : m % 256 = 85) : S1 m (b + 256 * x) = g1 b + 256 * S1 (m / 256) x := by
  unfold S1 g1
  rw [land_split ((b + 256 * x) / 2) m, land_split (b + 256 * x) m, hm, show (b + 256 * x) % 256 = b by omega, show (b + 256 * x) / 256 = x by omega,
    show (b + 256 * x) / 2 % 256 = b / 2 + 128 * (x % 2) by omega, show (b + 256 * x) / 2 / 256 = x / 2 by omega, show (b / 2 + 128 * (x % 2)) &&& 85 = b / 2 &&& 85 from b1 ⟨b, hb⟩ ⟨x % 2, by omega⟩]
  omega
theorem S2_byte (m b x : Nat) (hb : b < 256) (hm : m % 256 = 51) : S2 m (b + 256 * x) = g2 b + 256 * S2 (m / 256) x := by
  unfold S2 g2
  rw [land_split ((b + 256 * x) / 4) m, land_split (b + 256 * x) m, hm, show (b + 256 * x) % 256 = b by omega, show (b + 256 * x) / 256 = x by omega,
    show (b + 256 * x) / 4 % 256 = b / 4 + 64 * (x % 4) by omega, show (b + 256 * x) / 4 / 256 = x / 4 by omega, show (b / 4 + 64 * (x % 4)) &&& 51 = b / 4 &&& 51 from b2 ⟨b, hb⟩ ⟨x % 4, by omega⟩]
  omega
theorem S1_zero (m : Nat) : S1 m 0 = 0 := by unfold S1; simp
theorem S2_zero (m : Nat) : S2 m 0 = 0 := by unfold S2; simp
theorem S1_four (b0 b1 b2 b3 : Nat) (h0 : b0 < 256) (h1 : b1 < 256) (h2 : b2 < 256) (h3 : b3 < 256) :
    S1 6148914691236517205 (b0 + 256 * (b1 + 256 * (b2 + 256 * (b3 + 256 * 0)))) = g1 b0 + 256 * (g1 b1 + 256 * (g1 b2 + 256 * (g1 b3 + 256 * 0))) := by
  rw [S1_byte _ b0 _ h0 rfl, S1_byte _ b1 _ h1 rfl, S1_byte _ b2 _ h2 rfl, S1_byte _ b3 _ h3 rfl, S1_zero]
theorem S2_four (b0 b1 b2 b3 : Nat) (h0 : b0 < 256) (h1 : b1 < 256) (h2 : b2 < 256) (h3 : b3 < 256) :
    S2 3689348814741910323 (b0 + 256 * (b1 + 256 * (b2 + 256 * (b3 + 256 * 0)))) = g2 b0 + 256 * (g2 b1 + 256 * (g2 b2 + 256 * (g2 b3 + 256 * 0))) := by
  rw [S2_byte _ b0 _ h0 rfl, S2_byte _ b1 _ h1 rfl, S2_byte _ b2 _ h2 rfl, S2_byte _ b3 _ h3 rfl, S2_zero]
theorem S3_four (z : Nat) (hz : z < 4294967296) :
    z &&& 1085102592571150095 = z % 16 + 256 * (z / 256 % 16 + 256 * (z / 65536 % 16 + 256 * (z / 16777216 % 16))) := by
  have q : ∀ y, y % 256 &&& 15 = y % 16 := fun y => by rw [b3 ⟨y % 256, by omega⟩]; show y % 256 % 16 = _; omega
  rw [land_split z, show 1085102592571150095 % 256 = 15 from rfl, q, land_split (z / 256), show 1085102592571150095 / 256 % 256 = 15 from rfl, q,
    land_split (z / 256 / 256), show 1085102592571150095 / 256 / 256 % 256 = 15 from rfl, q,
    land_split (z / 256 / 256 / 256), show 1085102592571150095 / 256 / 256 / 256 % 256 = 15 from rfl, q,
    show z / 256 / 256 / 256 / 256 = 0 by omega, Nat.zero_and]
  omega
theorem nibbles (c0 c1 c2 c3 y q0 q1 q2 q3 : Nat) (e : y = c0 + 256 * (c1 + 256 * (c2 + 256 * (c3 + 256 * 0))))
    (p0 : c0 / 16 ≤ 4 ∧ c0 % 16 ≤ 4 ∧ c0 / 16 + c0 % 16 = q0) (p1 : c1 / 16 ≤ 4 ∧ c1 % 16 ≤ 4 ∧ c1 / 16 + c1 % 16 = q1)
    (p2 : c2 / 16 ≤ 4 ∧ c2 % 16 ≤ 4 ∧ c2 / 16 + c2 % 16 = q2) (p3 : c3 / 16 ≤ 4 ∧ c3 % 16 ≤ 4 ∧ c3 / 16 + c3 % 16 = q3) :
    ∃ z1 z2 z3 n0 n1 n2 n3 n4 n5 n6 n7 : Nat, y / 16 + y = n0 + 16 * n1 + 256 * z1 ∧ z1 = n2 + 16 * n3 + 256 * z2 ∧ z2 = n4 + 16 * n5 + 256 * z3 ∧ z3 = n6 + 16 * n7 ∧
      n0 ≤ 8 ∧ n1 ≤ 8 ∧ n2 ≤ 8 ∧ n3 ≤ 8 ∧ n4 ≤ 8 ∧ n5 ≤ 8 ∧ n6 ≤ 8 ∧ n7 ≤ 8 ∧ n0 = q0 ∧ n2 = q1 ∧ n4 = q2 ∧ n6 = q3 := by
  obtain ⟨h0, i0, r0, s0, t0⟩ : ∃ h i, c0 = 16 * h + i ∧ (h ≤ 4 ∧ i ≤ 4) ∧ h + i = q0 := ⟨c0 / 16, c0 % 16, by omega, by omega, by omega⟩
  obtain ⟨h1, i1, r1, s1, t1⟩ : ∃ h i, c1 = 16 * h + i ∧ (h ≤ 4 ∧ i ≤ 4) ∧ h + i = q1 := ⟨c1 / 16, c1 % 16, by omega, by omega, by omega⟩
  obtain ⟨h2, i2, r2, s2, t2⟩ : ∃ h i, c2 = 16 * h + i ∧ (h ≤ 4 ∧ i ≤ 4) ∧ h + i = q2 := ⟨c2 / 16, c2 % 16, by omega, by omega, by omega⟩
  obtain ⟨h3, i3, r3, s3, t3⟩ : ∃ h i, c3 = 16 * h + i ∧ (h ≤ 4 ∧ i ≤ 4) ∧ h + i = q3 := ⟨c3 / 16, c3 % 16, by omega, by omega, by omega⟩
  clear p0 p1 p2 p3
  subst r0 r1 r2 r3
  have hy : y / 16 = h0 + 16 * (16 * h1 + i1 + 256 * (16 * h2 + i2 + 256 * (16 * h3 + i3))) := by omega
  rw [hy, e]
  clear hy e
  exact ⟨h1 + i1 + 16 * (h1 + i2) + 256 * (h2 + i2 + 16 * (h2 + i3) + 256 * (h3 + i3 + 16 * h3)), h2 + i2 + 16 * (h2 + i3) + 256 * (h3 + i3 + 16 * h3), h3 + i3 + 16 * h3,
    h0 + i0, h0 + i1, h1 + i1, h1 + i2, h2 + i2, h2 + i3, h3 + i3, h3, by omega, rfl, rfl, rfl, by omega, by omega, by omega, by omega, by omega, by omega, by omega, by omega, t0, t1, t2, t3⟩
/-- The sums of neighbouring digits, of fours, of eights, as the library adds them up. -/
theorem swar (x : Nat) (hx : x < 4294967296) : ∃ y1 y2 y3 : Nat,
    y1 = (x / 2 &&& 6148914691236517205) + (x &&& 6148914691236517205) ∧ y1 < 4294967296 ∧
    y2 = (y1 / 4 &&& 3689348814741910323) + (y1 &&& 3689348814741910323) ∧ y2 < 4294967296 ∧ y2 / 16 + y2 < 4294967296 ∧
    y3 = (y2 / 16 + y2 &&& 1085102592571150095) ∧ y3 < 4294967296 ∧
    (y3 + y3 / 256 + (y3 + y3 / 256) / 65536) % 128 = pop x ∧ y3 + y3 / 256 + (y3 + y3 / 256) / 65536 < 4294967296 := by
  obtain ⟨b0, hb0⟩ : ∃ b, b = x % 256 := ⟨_, rfl⟩
  obtain ⟨b1, hb1⟩ : ∃ b, b = x / 256 % 256 := ⟨_, rfl⟩
  obtain ⟨b2, hb2⟩ : ∃ b, b = x / 65536 % 256 := ⟨_, rfl⟩
  obtain ⟨b3, hb3⟩ : ∃ b, b = x / 16777216 % 256 := ⟨_, rfl⟩
  have l0 : b0 < 256 := by omega
  have l1 : b1 < 256 := by omega
  have l2 : b2 < 256 := by omega
  have l3 : b3 < 256 := by omega
  have ex : x = b0 + 256 * (b1 + 256 * (b2 + 256 * (b3 + 256 * 0))) := by omega
  have ep : pop x = popF 8 b0 + popF 8 b1 + popF 8 b2 + popF 8 b3 := by
    unfold pop
    rw [popF_byte 24, popF_byte 16, popF_byte 8, ← popF_fuel 8 _ (by omega : x / 256 / 256 / 256 < 2 ^ 8) 8 (Nat.le_refl _), hb0, hb1, hb2, hb3,
      show x / 256 / 256 % 256 = x / 65536 % 256 by omega, show x / 256 / 256 / 256 = x / 16777216 % 256 by omega]
    omega
  clear hb0 hb1 hb2 hb3
  have e1 := S1_four b0 b1 b2 b3 l0 l1 l2 l3
  rw [← ex] at e1
  have k0 := g1_lt ⟨b0, l0⟩
  have k1 := g1_lt ⟨b1, l1⟩
  have k2 := g1_lt ⟨b2, l2⟩
  have k3 := g1_lt ⟨b3, l3⟩
  have p0 := g2_of ⟨b0, l0⟩
  have p1 := g2_of ⟨b1, l1⟩
  have p2 := g2_of ⟨b2, l2⟩
  have p3 := g2_of ⟨b3, l3⟩
  simp only at k0 k1 k2 k3 p0 p1 p2 p3
  have e2 := S2_four (g1 b0) (g1 b1) (g1 b2) (g1 b3) k0 k1 k2 k3
  rw [← e1] at e2
  obtain ⟨y1, hy1⟩ : ∃ y, y = S1 6148914691236517205 x := ⟨_, rfl⟩
  rw [← hy1] at e1 e2
  obtain ⟨y2, hy2⟩ : ∃ y, y = S2 3689348814741910323 y1 := ⟨_, rfl⟩
  rw [← hy2] at e2
  generalize g2 (g1 b0) = c0 at *
  generalize g2 (g1 b1) = c1 at *
  generalize g2 (g1 b2) = c2 at *
  generalize g2 (g1 b3) = c3 at *
  generalize g1 b0 = d0 at *
  generalize g1 b1 = d1 at *
  generalize g1 b2 = d2 at *
  generalize g1 b3 = d3 at *
  have m1 : y1 < 4294967296 := by clear hy1 hy2 ep e2 ex; omega
  clear ex k0 k1 k2 k3 l0 l1 l2 l3
  have m2 : y2 < 4294967296 := by clear hy1 hy2 ep e1; omega
  obtain ⟨z1, z2, z3, n0, n1, n2, n3, n4, n5, n6, n7, hz, hz1, hz2, hz3, g0, g1, g2, g3, g4, g5, g6, g7, o0, o1, o2, o3⟩ := nibbles c0 c1 c2 c3 y2 _ _ _ _ e2 p0.2 p1.2 p2.2 p3.2
  have hz0 : y2 / 16 + y2 < 4294967296 := by clear hy1 hy2 ep e1 e2; omega
  have hs3 := S3_four _ hz0
  have a0 : (y2 / 16 + y2) % 16 = popF 8 b0 := by rw [hz, o0]; clear hs3 hz0 hz hz1 hz2 hz3 hy1 hy2 ep e1 e2; omega
  have a1 : (y2 / 16 + y2) / 256 = z1 := by rw [hz]; clear hs3 hz0 hz hz1 hz2 hz3 hy1 hy2 ep e1 e2; omega
  have a2 : (y2 / 16 + y2) / 65536 = z2 := by rw [show (65536 : Nat) = 256 * 256 from rfl, ← Nat.div_div_eq_div_mul, a1, hz1]; clear hs3 hz0 hz hz1 hz2 hz3 hy1 hy2 ep e1 e2; omega
  have a3 : (y2 / 16 + y2) / 16777216 = z3 := by rw [show (16777216 : Nat) = 65536 * 256 from rfl, ← Nat.div_div_eq_div_mul, a2, hz2]; clear hs3 hz0 hz hz1 hz2 hz3 hy1 hy2 ep e1 e2; omega
  have a4 : z1 % 16 = popF 8 b1 := by rw [hz1, o1]; clear hs3 hz0 hz hz1 hz2 hz3 hy1 hy2 ep e1 e2; omega
  have a5 : z2 % 16 = popF 8 b2 := by rw [hz2, o2]; clear hs3 hz0 hz hz1 hz2 hz3 hy1 hy2 ep e1 e2; omega
  have a6 : z3 % 16 = popF 8 b3 := by rw [hz3, o3]; clear hs3 hz0 hz hz1 hz2 hz3 hy1 hy2 ep e1 e2; omega
  obtain ⟨y3, hy3⟩ : ∃ y, y = (y2 / 16 + y2 &&& 1085102592571150095) := ⟨_, rfl⟩
  rw [a0, a1, a2, a3, a4, a5, a6, ← hy3] at hs3
  clear hz hz1 hz2 hz3 o0 o1 o2 o3 e1 e2 p0 p1 p2 p3 a0 a1 a2 a3 a4 a5 a6
  have := popF_le 8 b0
  have := popF_le 8 b1
  have := popF_le 8 b2
  have := popF_le 8 b3
  generalize popF 8 b0 = q0 at *
  generalize popF 8 b1 = q1 at *
  generalize popF 8 b2 = q2 at *
  generalize popF 8 b3 = q3 at *
  have m3 : y3 < 4294967296 := by clear hy1 hy2 ep hy3; omega
  have keep := And.intro hy1 (And.intro m1 (And.intro hy2 (And.intro m2 (And.intro hz0 hy3))))
  clear hy3 hz0 hy1 hy2 m1 m2
  have h1 : y3 / 256 = q1 + 256 * (q2 + 256 * q3) := by clear ep; omega
  have h2 : y3 + y3 / 256 = q0 + q1 + 256 * (q1 + q2) + 65536 * (q2 + q3 + 256 * q3) := by rw [h1]; clear ep; omega
  have h3 : (y3 + y3 / 256) / 65536 = q2 + q3 + 256 * q3 := by rw [h2]; clear ep h1 h2 hs3; omega
  have h4 : y3 + y3 / 256 + (y3 + y3 / 256) / 65536 = q0 + q1 + q2 + q3 + 128 * (2 * (q1 + q2 + q3) + 512 * (q2 + q3 + 256 * q3)) := by rw [h3, h2]; clear ep h1 h2 h3 hs3; omega
  have m4 : (y3 + y3 / 256 + (y3 + y3 / 256) / 65536) % 128 = q0 + q1 + q2 + q3 := by rw [h4]; clear ep h1 h2 h3 h4 hs3; omega
  have m5 : y3 + y3 / 256 + (y3 + y3 / 256) / 65536 < 4294967296 := by rw [h4]; clear ep h1 h2 h3 h4 hs3; omega
  rw [ep]
  exact ⟨y1, y2, y3, keep.1, keep.2.1, keep.2.2.1, keep.2.2.2.1, keep.2.2.2.2.1, keep.2.2.2.2.2, m3, m4, m5⟩

theorem wrapu_nat (a b : Nat) (h : a + b < 18446744073709551616) : IntKind.u64.wrap ((a : Int) + (b : Int)) = ((a + b : Nat) : Int) := by
  rw [IntKind.wrap_u64]
  omega
theorem and_i64_nat (a b : Nat) (ha : a < 9223372036854775808) (hb : b < 9223372036854775808) : bits .and .i64 (a : Int) (b : Int) = ((a &&& b : Nat) : Int) := by
  have hx : a &&& b < 2 ^ 63 := Nat.and_lt_two_pow _ (by omega)
  have h1 : (BitVec.ofInt 64 (a : Int)).toNat = a := by
    rw [BitVec.ofInt_natCast, BitVec.toNat_ofNat]; exact Nat.mod_eq_of_lt (by omega)
  have h2 : (BitVec.ofInt 64 (b : Int)).toNat = b := by
    rw [BitVec.ofInt_natCast, BitVec.toNat_ofNat]; exact Nat.mod_eq_of_lt (by omega)
  show IntKind.i64.wrap ((BitVec.ofInt 64 (a : Int) &&& BitVec.ofInt 64 (b : Int)).toNat : Int) = _
  rw [BitVec.toNat_and, h1, h2]
  exact (IntWalk.i64_left _).trans (IntWalk.wrap64_in ((a &&& b : Nat) : Int) (by omega))

end Go.Proofs.YtcicjnpnhaddcaaDoor
