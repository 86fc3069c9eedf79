/- A scope with one label, inside a fence: the run may jump back to the label. No program. -/
import Derived.ScopeJumps
import Derived.ControlIn
import Derived.WalkMore
namespace Go.Proofs.Ytglilhnmgfkfhaa

section
variable {P : Program} {b : Frame} {a : Act} {k : List Item} {cs : List Frame} {w : World} {Q : Exit → Act → World → Prop} {F : Fence} {n : Nat}
theorem stepR_scopeS {c : Code} : step P (lone (b.atR a (.code (.scope c) :: k)) cs w) = .next (lone (b.atR a (.code c :: .inScope c :: k)) cs w) :=
  step_lone_go (by simp [stepG, stepG.exec, Frame.atR])
theorem stepR_inScopeS {c : Code} : step P (lone (b.atR a (.inScope c :: k)) cs w) = .next (lone (b.atR a k) cs w) :=
  step_lone_go (by simp [stepG, stepG.exec, Frame.atR])

/-- The fenced twin of the base's law: what holds at every jump, with a number that every pass lowers. -/
theorem wpIn_scope_ghost {c rest : Code} (l : Nat) (J : Nat → Act → World → Prop) (hf : findLabel c l = some rest)
    (first : c.wpIn F n P (Exit.jump l (fun a' w' => ∃ j, J j a' w') Q) a w)
    (pass : ∀ j a w, J j a w → rest.wpIn F n P (Exit.jump l (fun a' w' => ∃ j', J j' a' w' ∧ j' < j) Q) a w) : (Code.scope c).wpIn F n P Q a w := by
  intro b k cs hro hb hr
  have hg : gotoIn l (.inScope c :: k) = some (.code rest :: .inScope c :: k) := by simp [gotoIn, hf]
  have hx : ∀ id, exitTo id (.inScope c :: k) = exitTo id k := fun id => by simp [exitTo]
  have key : ∀ j a w, J j a w → ∃ e a' w', Q e a' w' ∧ ArrivesIn (Machine.fenced P F) P (lone (b.atR a (.code rest :: .inScope c :: k)) cs w) b k cs e a' w' := by
    intro j
    induction j using Nat.strongRecOn with
    | _ j ih =>
      intro a w hJ
      obtain ⟨e, a₁, w₁, hq, harr⟩ := pass j a w hJ b (.inScope c :: k) cs hro hb hr
      cases e with
      | normal => exact ⟨.normal, a₁, w₁, hq, StepsIn.trans harr (.one (fenced_calm hb hr rfl) stepR_inScopeS)⟩
      | exit id => exact ⟨.exit id, a₁, w₁, hq, fun k' hk => harr.1 k' (by rw [hx]; exact hk), fun hr' hk => harr.2 hr' (by rw [hx]; exact hk)⟩
      | goto l' =>
        obtain ⟨rfl, j', hJ', hlt⟩ := hq
        obtain ⟨e₂, a₂, w₂, hq₂, harr₂⟩ := ih j' hlt a₁ w₁ hJ'
        exact ⟨e₂, a₂, w₂, hq₂, .of_steps (harr.1 _ hg) harr₂⟩
      | ret => exact ⟨_, a₁, w₁, hq, harr⟩
      | panic ch => exact ⟨_, a₁, w₁, hq, harr⟩
      | outgrown => exact ⟨_, a₁, w₁, hq, harr⟩
  have h0 : (lone (b.atR a (.code (.scope c) :: k)) cs w).fenced P F := fenced_calm hb hr rfl
  obtain ⟨e, a₁, w₁, hq, harr⟩ := first b (.inScope c :: k) cs hro hb hr
  cases e with
  | normal => exact ⟨.normal, a₁, w₁, hq, .head h0 stepR_scopeS (StepsIn.trans harr (.one (fenced_calm hb hr rfl) stepR_inScopeS))⟩
  | exit id => exact ⟨.exit id, a₁, w₁, hq, fun k' hk => .head h0 stepR_scopeS (harr.1 k' (by rw [hx]; exact hk)), fun hr' hk => let ⟨k₁, h1, h2⟩ := harr.2 hr' (by rw [hx]; exact hk); ⟨k₁, h1, .head h0 stepR_scopeS h2⟩⟩
  | goto l' =>
    obtain ⟨rfl, j', hJ'⟩ := hq
    obtain ⟨e₂, a₂, w₂, hq₂, harr₂⟩ := key j' a₁ w₁ hJ'
    exact ⟨e₂, a₂, w₂, hq₂, .of_steps (.head h0 stepR_scopeS (harr.1 _ hg)) harr₂⟩
  | ret => exact ⟨_, a₁, w₁, hq, .of_steps (.one h0 stepR_scopeS) harr⟩
  | panic ch => exact ⟨_, a₁, w₁, hq, .of_steps (.one h0 stepR_scopeS) harr⟩
  | outgrown => exact ⟨_, a₁, w₁, hq, .of_steps (.one h0 stepR_scopeS) harr⟩

/-- A scope that begins with A and has its label behind it: the rest is walked once. -/
theorem wpIn_scope_once {A R : Code} (l : Nat) (J : Nat → Act → World → Prop) (hf : findLabel (A.seq ((Code.label l).seq R)) l = some (Code.skip.seq R))
    (first : A.wpIn F n P (Exit.then (fun a' w' => ∃ j, J j a' w') (fun _ _ _ => False)) a w)
    (pass : ∀ j a w, J j a w → R.wpIn F n P (Exit.jump l (fun a' w' => ∃ j', J j' a' w' ∧ j' < j) Q) a w) : (Code.scope (A.seq ((Code.label l).seq R))).wpIn F n P Q a w := by
  refine wpIn_scope_ghost l J hf (wpIn_seq (wpIn_mono first ?_)) (fun j a w h => wpIn_seq (wpIn_skip (pass j a w h)))
  rintro (_ | _ | _ | _ | _ | _) a w h <;> first | exact h.elim | skip
  obtain ⟨j, h⟩ := h
  refine wpIn_seq (wpIn_label (wpIn_mono (pass j a w h) ?_))
  rintro (_ | _ | _ | _ | _ | _) a w h <;> first | exact h | skip
  obtain ⟨h1, j', h2, _⟩ := h
  exact ⟨h1, j', h2⟩
end

end Go.Proofs.Ytglilhnmgfkfhaa
