/- Contracts: all pairs of different pegs, as a function that is ranged over. -/
import Derived.Test.YtglilhnmgfkfhaaIterW
import Derived.Test.YtglilhnmgfkfhaaRu
namespace Go.Proofs.Ytglilhnmgfkfhaa
open Go.RowKit Go.Shelf
set_option linter.unusedVariables false
set_option linter.unusedSimpArgs false
attribute [local go_sem] Oper.semAt_some

/-- A pair of different pegs. -/
structure PP where
  i : Int
  j : Int
  hi : 0 ≤ i ∧ i < 3
  hj : 0 ≤ j ∧ j < 3
  hne : i ≠ j
def ppV (x : PP) : Array Value := #[.int .i64 x.i, .int .i64 x.j]

def pp01 : PP := ⟨0, 1, by decide, by decide, by decide⟩
def pp02 : PP := ⟨0, 2, by decide, by decide, by decide⟩
def pp10 : PP := ⟨1, 0, by decide, by decide, by decide⟩
def pp12 : PP := ⟨1, 2, by decide, by decide, by decide⟩
def pp20 : PP := ⟨2, 0, by decide, by decide, by decide⟩
def pp21 : PP := ⟨2, 1, by decide, by decide, by decide⟩
def ppAll : List PP := [pp01, pp02, pp10, pp12, pp20, pp21]

theorem pegPairs_calls (n : Nat) (w : World) :
    CallsIn Fence.wide n Try.prog 57 #[] w fun e w' => e = .returned (.func (.func 60) #[] #[]) ∧ w' = w := by
  refine callsIn_of_wp Try.func57 rfl trivial ?_ rfl
  simp only [Try.ntmps57, List.size_toArray, List.length_cons, List.length_nil, Nat.reduceAdd, Nat.reduceSub, Array.replicate_succ, Array.replicate_zero, List.push_toArray, List.append_toArray, List.nil_append, List.cons_append]
  gi_wp2
  go_ret
  exact ⟨rfl, rfl⟩

set_option maxRecDepth 100000 in
set_option maxHeartbeats 4000000 in
theorem pegPairs1_in (n l : Nat) (hn : 1 ≤ n) (J Jx : List PP → World → Prop)
    (hY : ∀ pre (x : PP) W, J pre W → pre.length < 40 → YieldAt Fence.wide (n - 1) Try.prog l (ppV x) W fun e W' =>
      (e = .returned (.bool true) ∧ J (pre ++ [x]) W' ∧ True) ∨ (e = .returned (.bool false) ∧ Jx (pre ++ [x]) W'))
    (W : World) (h0 : J [] W) :
    CallsIn Fence.wide n Try.prog 60 #[.func (.yield l) #[] #[]] W fun e W' => (∃ v, e = .returned v) ∧
      ((∃ ys, ys = ppAll ∧ J ys W') ∨ (∃ pre, pre <+: ppAll ∧ Jx pre W')) := by
  refine callsIn_of_wp Try.func60 rfl trivial ?_ rfl
  simp only [Try.ntmps60, List.size_toArray, List.length_cons, List.length_nil, Nat.reduceAdd, Nat.reduceSub, Array.replicate_succ, Array.replicate_zero, List.push_toArray, List.append_toArray, List.nil_append, List.cons_append]
  gi_wp2
  refine wpIn_loop_rounds 4 ?_
  rw [roundsIn_succ]
  gi_wp2
  refine wpIn_loop_rounds 4 ?_
  rw [roundsIn_succ]
  gi_wp2
  refine ⟨fun _ h => (by cases h), ?_⟩
  gi_wp2
  rw [roundsIn_succ]
  obtain ⟨fn1, tmps1, assign1, body1, hy1, hR1⟩ := hY [] pp01 W h0 (by simp)
  dsimp only [ppV, pp01] at hy1
  gi_wp2
  refine hR1.mono ?_
  rintro e W1 hw
  rcases hw with ⟨rfl, h1, _⟩ | ⟨rfl, hx⟩
  rotate_left
  · gi_wp2
    refine bodyPost_ret (results_none rfl _ _ _) rfl ?_
    exact ⟨⟨_, rfl⟩, .inr ⟨[pp01], ⟨[pp02, pp10, pp12, pp20, pp21], rfl⟩, hx⟩⟩
  clear hy1 hR1
  gi_wp2
  rw [roundsIn_succ]
  obtain ⟨fn2, tmps2, assign2, body2, hy2, hR2⟩ := hY [pp01] pp02 W1 h1 (by simp)
  dsimp only [ppV, pp02] at hy2
  gi_wp2
  refine hR2.mono ?_
  rintro e W2 hw
  rcases hw with ⟨rfl, h2, _⟩ | ⟨rfl, hx⟩
  rotate_left
  · gi_wp2
    refine bodyPost_ret (results_none rfl _ _ _) rfl ?_
    exact ⟨⟨_, rfl⟩, .inr ⟨[pp01, pp02], ⟨[pp10, pp12, pp20, pp21], rfl⟩, hx⟩⟩
  clear hy2 hR2
  gi_wp2
  rw [roundsIn_succ]
  gi_wp2
  rw [roundsIn_succ]
  gi_wp2
  refine wpIn_loop_rounds 4 ?_
  rw [roundsIn_succ]
  obtain ⟨fn3, tmps3, assign3, body3, hy3, hR3⟩ := hY [pp01, pp02] pp10 W2 h2 (by simp)
  dsimp only [ppV, pp10] at hy3
  gi_wp2
  refine hR3.mono ?_
  rintro e W3 hw
  rcases hw with ⟨rfl, h3, _⟩ | ⟨rfl, hx⟩
  rotate_left
  · gi_wp2
    refine bodyPost_ret (results_none rfl _ _ _) rfl ?_
    exact ⟨⟨_, rfl⟩, .inr ⟨[pp01, pp02, pp10], ⟨[pp12, pp20, pp21], rfl⟩, hx⟩⟩
  clear hy3 hR3
  gi_wp2
  rw [roundsIn_succ]
  gi_wp2
  refine ⟨fun _ h => (by cases h), ?_⟩
  gi_wp2
  rw [roundsIn_succ]
  obtain ⟨fn4, tmps4, assign4, body4, hy4, hR4⟩ := hY [pp01, pp02, pp10] pp12 W3 h3 (by simp)
  dsimp only [ppV, pp12] at hy4
  gi_wp2
  refine hR4.mono ?_
  rintro e W4 hw
  rcases hw with ⟨rfl, h4, _⟩ | ⟨rfl, hx⟩
  rotate_left
  · gi_wp2
    refine bodyPost_ret (results_none rfl _ _ _) rfl ?_
    exact ⟨⟨_, rfl⟩, .inr ⟨[pp01, pp02, pp10, pp12], ⟨[pp20, pp21], rfl⟩, hx⟩⟩
  clear hy4 hR4
  gi_wp2
  rw [roundsIn_succ]
  gi_wp2
  rw [roundsIn_succ]
  gi_wp2
  refine wpIn_loop_rounds 4 ?_
  rw [roundsIn_succ]
  obtain ⟨fn5, tmps5, assign5, body5, hy5, hR5⟩ := hY [pp01, pp02, pp10, pp12] pp20 W4 h4 (by simp)
  dsimp only [ppV, pp20] at hy5
  gi_wp2
  refine hR5.mono ?_
  rintro e W5 hw
  rcases hw with ⟨rfl, h5, _⟩ | ⟨rfl, hx⟩
  rotate_left
  · gi_wp2
    refine bodyPost_ret (results_none rfl _ _ _) rfl ?_
    exact ⟨⟨_, rfl⟩, .inr ⟨[pp01, pp02, pp10, pp12, pp20], ⟨[pp21], rfl⟩, hx⟩⟩
  clear hy5 hR5
  gi_wp2
  rw [roundsIn_succ]
  obtain ⟨fn6, tmps6, assign6, body6, hy6, hR6⟩ := hY [pp01, pp02, pp10, pp12, pp20] pp21 W5 h5 (by simp)
  dsimp only [ppV, pp21] at hy6
  gi_wp2
  refine hR6.mono ?_
  rintro e W6 hw
  rcases hw with ⟨rfl, h6, _⟩ | ⟨rfl, hx⟩
  rotate_left
  · gi_wp2
    refine bodyPost_ret (results_none rfl _ _ _) rfl ?_
    exact ⟨⟨_, rfl⟩, .inr ⟨[pp01, pp02, pp10, pp12, pp20, pp21], ⟨[], rfl⟩, hx⟩⟩
  clear hy6 hR6
  gi_wp2
  rw [roundsIn_succ]
  gi_wp2
  refine ⟨fun _ h => (by cases h), ?_⟩
  gi_wp2
  rw [roundsIn_succ]
  gi_wp2
  rw [roundsIn_succ]
  gi_wp2
  go_end0
  exact ⟨⟨_, rfl⟩, .inl ⟨_, rfl, h6⟩⟩

/-- All pairs of different pegs, as a function that is ranged over: all of them, in their order, or a first part. -/
theorem pegPairs_stops (n : Nat) (hn : 1 ≤ n) (w : World) :
    SeqStopsK Fence.wide n Try.prog 60 #[] ppV (fun _ _ => True) (fun ys => ys = ppAll) (fun pre => pre <+: ppAll) 40 w := fun l J Jx W hW hJ hJx hY h0 =>
  pegPairs1_in n l hn J Jx hY W h0

end Go.Proofs.Ytglilhnmgfkfhaa
