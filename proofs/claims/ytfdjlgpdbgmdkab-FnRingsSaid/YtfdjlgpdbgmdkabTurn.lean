/- Contracts: a ring of a word is turned, in a copy of the word. -/
import Derived.Test.YtfdjlgpdbgmdkabCopies
import Derived.Test.YtfdjlgpdbgmdkabRk
namespace Go.Proofs.Ytfdjlgpdbgmdkab
open Go.RowKit
set_option linter.unusedVariables false

/-- A list of integers and a code are the answer; the capacity that is answered may be less than the block's. -/
def RetIntsC (w : World) (n : Nat) (L : List Int) (E : Int) (e : Ending) (w' : World) : Prop :=
  ∃ A c d, e = .returned (.tuple #[.slice A n c, .int .i64 E]) ∧ Own w.heap.size w' A n d L ∧ Below w.heap.size w w'
theorem retIntsC_zero {w w' : World} {e : Ending} {E : Int} (he : e = .returned (.tuple #[.slice none 0 0, .int .i64 E])) (hb : Below w.heap.size w w') : RetIntsC w ([] : List Int).length [] E e w' :=
  ⟨none, 0, 0, he, Own.nilS _ _, hb⟩

theorem turnRing_calls (R o n c j : Nat) (x : Int) (w : World) (hj : j < n) (hn : n ≤ 16) (hc : w.cell? ⟨R, o + j, none⟩ = some (.int .i64 x)) (hf : w.frozen? ⟨R, o + j, none⟩ = false) (hx : 0 ≤ x ∧ x ≤ 1) :
    Calls Try.prog 56 #[.slice (some ⟨R, o, none⟩) n c, .int .i64 j] w fun e w' => e = .returned (.tuple #[]) ∧ w' = w.setCell ⟨R, o + j, none⟩ (.int .i64 (1 - x)) := by
  have h1 : (j : Int) < (n : Int) := by omega
  go_enter Try.func56, Try.ntmps56
  go_wp2
  go_end0
  exact ⟨rfl, rfl⟩

def turnL (L : List Int) (i : Nat) : List Int := L.set i (1 - L[i]?.getD 0)
theorem turnL_len (L : List Int) (i : Nat) : (turnL L i).length = L.length := by simp [turnL]

set_option maxHeartbeats 1000000 in
theorem withRingTurned_calls (ad : Addr) (n c : Nat) (L : List Int) (i : Nat) (w : World) (hL : L.length = n) (hn : n ≤ 16) (hi : i < n) (hI : Ints w (some ad) L) (hb : ∀ k : Nat, 0 ≤ L[k]?.getD 0 ∧ L[k]?.getD 0 ≤ 1) :
    Calls Try.prog 38 #[.slice (some ad) n c, .int .i64 i] w fun e w' => ∃ A c' d, e = .returned (.slice A n c') ∧ Own w.heap.size w' A n d (turnL L i) ∧ Below w.heap.size w w' := by
  have HL := Lib.hid hL
  have HB0 := Lib.hid ((Below.refl w.heap.size w).alloc (Nat.le_refl _) (.cells #[.slice (some ad) n c] 24))
  have HW : Hid (WdsAt (w.alloc (.cells #[.slice (some ad) n c] 24)) w.heap.size [⟨ad, n, c, L⟩]) :=
    ⟨Box.new w _ _, fun x hx => by
      rw [List.mem_singleton] at hx
      subst hx
      exact ⟨hL, hn, hI.below HB0.out⟩⟩
  have hbi := hb i
  clear hL hI hb
  go_enter Try.func38, Try.ntmps38
  go_wp2_with fail
  refine (copiesOf_calls w.heap.size 1 [⟨ad, n, c, L⟩] 1 _ rfl (by omega) HW.out).mono ?_
  rintro e w1 ⟨C, cc, A, c1, vs, rfl, hC, hV, hO, hb⟩
  have HB1 := Lib.hid (HB0.out.trans (hb.mono (by simp)))
  obtain ⟨A', hv, hA⟩ := hV 0 ⟨ad, n, c, L⟩ rfl
  obtain ⟨R, rfl, rfl⟩ := hA (by show 0 < n; omega)
  simp only [catL, List.map_nil, List.take_zero, List.flatten_nil, List.length_nil, List.map_cons, List.flatten_cons, List.append_nil] at hv hO
  rw [HL.out] at hO
  obtain ⟨g, rfl, hg1, hg2, hcell⟩ := hC.cell 0 (by omega)
  rw [hv] at hcell
  have HO : Hid (Own (w.heap.size + 1) w1 (some ⟨R, 0, none⟩) n c1 L) := by have := hO; rw [World.size_alloc] at this; exact this
  have hci : w1.cell? ⟨R, 0 + i, none⟩ = some (.int .i64 (L[i]?.getD 0)) := by
    obtain ⟨_, h0, _, h⟩ := HO.out.ints i (by rw [HL.out]; exact hi)
    injection h0 with h0
    subst h0
    rw [List.getD_eq_getElem?_getD] at h
    rw [Nat.zero_add, ← h]
    congr 1
    unfold Addr.add
    split
    · next h0 => rw [h0]
    · simp
  have hfi : w1.frozen? ⟨R, 0 + i, none⟩ = false := World.ownsRow.frozenAt HO.out _
  clear hb hC hV hO hv
  go_wp2_with fail
  refine (turnRing_calls R 0 n n i _ _ hi hn hci hfi hbi).mono ?_
  rintro e w2 ⟨rfl, rfl⟩
  go_wp2
  go_ret
  obtain ⟨s1, s2⟩ := World.ownsRow.stored HO.out i (.int .i64 (1 - L[i]?.getD 0))
  refine ⟨_, n, c1, rfl, ?_, ?_⟩
  · have h := Own.mono (B' := w.heap.size) (show Own (w.heap.size + 1) _ _ n c1 (turnL L i) by
      unfold Own turnL
      rw [List.map_set]
      exact s1) (by omega)
    exact h
  · refine HB1.out.setCell ?_ _
    rcases HO.out.form with ⟨h0, _⟩ | ⟨g', h0, hB, _⟩
    · cases h0
    · injection h0 with h0
      injection h0 with h0
      subst h0
      show w.heap.size ≤ R
      omega

end Go.Proofs.Ytfdjlgpdbgmdkab
