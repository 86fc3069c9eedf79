/- Contracts: slices.Collect over an iterator that keeps a private list: the list of moves. -/
import Derived.Test.YtglilhnmgfkfhaaPriv
import Derived.Test.YtglilhnmgfkfhaaIterW
namespace Go.Proofs.Ytglilhnmgfkfhaa
open Go.RowKit Go.Shelf
set_option linter.unusedVariables false
attribute [local go_sem] Oper.semAt_some

theorem SeqPriv.later {α : Type} {n : Nat} {P : Program} {g : Nat} {lb : Array Value} {encs : α → Array Value} {et : Nat} {bs : Nat → Prop} {xs : List α} {w w' : World} (h : SeqPriv n P g lb encs et bs xs w) (hb : Below w.heap.size w w') : SeqPriv n P g lb encs et bs xs w' :=
  fun l J W hW => h l J W (hb.trans (hW.mono hb.size))
theorem ne_cells {e size B n c g R : Nat} {w : World} {xs : List Value} {et : Nat} {cs : Array Value} (h : OwnG e size B w (some ⟨g, 0, none⟩) n c xs) (hR : w.heap[R]? = some (.cells cs et (0, 0))) (ht : e ≠ et) : g ≠ R := by
  rintro rfl
  rcases h.2 with ⟨hv, _⟩ | ⟨g1, cap, cur, hv, _, hh, _⟩
  · simp at hv
  · injection hv with h1
    injection h1 with h1
    injection h1 with h1
    subst h1
    rw [hh] at hR
    injection hR with hR
    injection hR with _ h3
    exact ht h3

set_option maxRecDepth 100000 in
set_option maxHeartbeats 4000000 in
theorem appendSeq_priv (gf : Nat) (lb : Array Value) (bs : Nat → Prop) (M : List Mv) (w : World) (eg : ∀ args w, (callFunc gf args).run Try.prog w = .ok (.enter gf args) w) (hM : M.length ≤ 255) (hbs : ∀ b, bs b → b < w.heap.size) (hseq : SeqPriv 5 Try.prog gf lb mvEnc 2 bs M w) :
    Calls Try.prog 41 #[.slice none 0 0, .func (.func gf) #[] lb] w fun e w' => ∃ A' c', e = .returned (.slice A' M.length c') ∧ OwnM w.heap.size w' A' M.length c' M ∧ Below w.heap.size w w' := by
  obtain ⟨i0, hi, hz0, hz1, hz2⟩ := info_parts Try.infoM
  refine (callsIn_wide (n := 6)).1 ?_
  refine callsIn_of_wp_marks Try.func41 rfl trivial ?_ rfl
  simp only [Try.ntmps41, List.size_toArray, List.length_cons, List.length_nil, Nat.reduceAdd, Nat.reduceSub, Array.replicate_succ, Array.replicate_zero, List.push_toArray, List.append_toArray, List.nil_append, List.cons_append]
  gi_wp2_with fail
  have bM := Boxed.new w 28 (.slice none 0 0)
  have hB0 : Below w.heap.size w (w.alloc (.cells #[.slice none 0 0] 28)) := (Below.refl _ _).alloc (Nat.le_refl _) _
  have hsz : (w.alloc (.cells #[.slice none 0 0] 28)).heap.size = w.heap.size + 1 := by simp
  have hseq0 := hseq.later hB0
  generalize w.alloc (.cells #[.slice none 0 0] 28) = W0 at *
  refine rangeFunc_priv (by omega) (gf := gf) (lb := lb) rfl eg hseq0 (fun _ => rfl) (fun b hb => by have := hbs b hb; omega)
    (fun R pre W => (∃ v, Boxed W w.heap.size 28 v ∧ W.ownsRow w.heap.size 53 3 v pre.length (mvCells pre) ∧ v.ownBlock ≠ some R) ∧ Below w.heap.size w W ∧ w.heap.size + 1 ≤ W.heap.size ∧ w.heap.size + 3 ≤ R)
    (fun R => OwnFrom.and (Own.from (holdsRow_own w.heap.size w.heap.size 28 53 3 (fun pre : List Mv => pre.length) (fun pre => mvCells pre) (fun _ v => v.ownBlock ≠ some R)) _) (OwnFrom.and (ownFrom_below (Nat.le_refl _) (by omega)) (OwnFrom.and (ownFrom_size _ _) (fun _ _ _ _ hs _ _ => hs))))
    ?grow
    (fun R hR => ⟨⟨_, bM, World.ownsRow_nil _ _ _ _, by simp [Value.ownBlock]⟩, hB0, by omega, by omega⟩)
    (fun R pre x a' W => ∃ Bx, w.heap.size < Bx ∧ Box W Bx 53 #[.int .i64 x.1, .int .i64 x.2.1, .int .i64 x.2.2] ∧ a' = { tmps := #[.slice none 0 0, .func (.func gf) #[] lb, .pointer (some ⟨w.heap.size, 0, none⟩), undef, .slice none 0 0, .pointer (some ⟨Bx, 0, none⟩), .func (.func gf) #[] lb, mvV x, undef, undef, undef, undef, undef], defers := [] })
    (fun R pre x a' _ X Y row hs hg hr => by obtain ⟨Bx, h1, h2, h3⟩ := hs; exact ⟨Bx, h1, box_own Bx 53 _ () X Y row h2 hg (fun r e => (hr r e).2), h3⟩)
    ?assign ?body ?done
  case grow =>
    rintro R pre A B ⟨⟨v, hv, hrow, hne⟩, hB, hW, hR⟩ hg
    refine ⟨⟨v, hv.kept hg (by simp; omega), hrow.kept hg (.inr hne), hne⟩, hB.grown hg hB.size (fun k hk => by injection hk with hk; omega), Nat.le_trans hW hg.size, hR⟩
  case assign =>
    rintro l R pre x W K hR ⟨cs, hcs⟩ hpx ⟨⟨v, hv, hrow, hne⟩, hB, hW, hR3⟩ hK
    have hlt := hv.lt
    have hle := hB.size
    have hRl : R < W.heap.size := (Array.getElem?_eq_some_iff.1 hcs).1
    obtain ⟨x1, x2, x3⟩ := x
    dsimp only [mvEnc, mvV] at hK ⊢
    gi_wp2
    exact hK _ _ ((KeepsOthers.alloc _ _).from _) (keepB_below ((Below.refl W.heap.size W).alloc (Nat.le_refl _) _) (fun b hb => by
      rcases hb with hb | rfl
      · have := hbs b hb; omega
      · exact hRl)) ⟨⟨v, hv.alloc _, hrow.alloc _, hne⟩, hB.alloc hle _, by simp; omega, hR3⟩ ⟨W.heap.size, by omega, Box.new W 53 _, rfl⟩
  case body =>
    rintro l R pre x a' W hR ⟨cs, hcs⟩ hpx ⟨⟨v, hv, hrow, hne⟩, hB, hW, hR3⟩ ⟨Bx, hBx, bX, rfl⟩
    obtain ⟨A', c', rfl⟩ := ownG_shape hrow
    have hRl : R < W.heap.size := (Array.getElem?_eq_some_iff.1 hcs).1
    have hle := hB.size
    have HN := Lib.hid (show ∀ b, (bs b ∨ b = R) → b < W.heap.size ∧ some b ≠ (Value.slice A' pre.length c').ownBlock ∧ b ≠ w.heap.size from fun b hb => by
      rcases hb with hb | rfl
      · have h1 := hbs b hb
        exact ⟨by omega, fun e => by have := ows_bk hrow b e.symm; omega, by omega⟩
      · exact ⟨hRl, fun e => hne e.symm, by omega⟩)
    have hlen : pre.length < 256 := by
      have := hpx.length_le
      simp at this
      omega
    obtain ⟨x1, x2, x3⟩ := x
    dsimp only [mvV] at bX ⊢
    have hc := hv.cell
    obtain ⟨m0, m1, m2⟩ := bX.three
    clear hpx
    gi_wp2_with (gi_at_builtin; refine wpListIn_append_own _ rfl _ _ 28 rfl w.heap.size 53 i0 (.agg #[.int .i64 0, .int .i64 0, .int .i64 0]) 3 24 Try.underlying28 hi hz0 hz1 hz2 rfl (by decide) _ _ _ rfl (hrow.alloc _) ⟨W.heap.size, 0, none⟩ 1 1 [.int .i64 x1, .int .i64 x2, .int .i64 x3] rfl rfl (World.news_of_block (cs := #[.int .i64 x1, .int .i64 x2, .int .i64 x3]) (t := 53) (fr := (0, 0)) (heap_alloc_new W _)) (by simp [Value.oneCell']) (by unfold maxLen; omega) (by omega) (by simp; omega) ?_; intro v' w2 hown' hgrow _; obtain ⟨g', cap', rfl⟩ := ownsRow_succ hown'; obtain ⟨hv1, hv2, hr2, hk2, hb2⟩ := hv.appended (by decide) hrow hle (by omega) hown' hgrow; have hc1 := hv1.cell; have hf1 := hv1.frozen; have hK2 := Lib.hid (keepB_appended (u := .slice (some ⟨g', 0, none⟩) (pre.length + 1) cap') (B := w.heap.size) hgrow HN.out); have hgs := hgrow.size)
    refine ⟨hk2.from _, hK2.out, ⟨⟨_, hv2, ?_, ?_⟩, hB.trans hb2, ?_, hR3⟩⟩
    · rw [List.length_append, mvCells_snoc]
      exact hr2
    · have h1 := ne_cells hr2 ((hK2.out R (.inr rfl)).trans hcs) (by decide)
      simpa [Value.ownBlock] using h1
    · simp at hgs ⊢
      omega
  case done =>
    rintro D R W hD hR ⟨⟨v, hv, hrow, _⟩, hB, hW, hR3⟩ hK
    have hc := hv.cell
    obtain ⟨A', c', rfl⟩ := ownG_shape hrow
    gi_wp2
    refine ⟨by simp, .inl ⟨_, _, rfl, run_takeDeferred hK, ?_⟩⟩
    refine ⟨_, results_tmp rfl _ _ _, A', c', rfl, ownsRow_putObj hrow _ hK rfl, hB.trans (belowK_b (w := w) (Nat.le_refl _) W D _ _ (by omega) hK rfl rfl)⟩

theorem collect_priv (gf : Nat) (lb : Array Value) (bs : Nat → Prop) (M : List Mv) (w : World) (eg : ∀ args w, (callFunc gf args).run Try.prog w = .ok (.enter gf args) w) (hM : M.length ≤ 255) (hbs : ∀ b, bs b → b < w.heap.size) (hseq : SeqPriv 5 Try.prog gf lb mvEnc 2 bs M w) :
    Calls Try.prog 27 #[.func (.func gf) #[] lb] w fun e w' => ∃ A' c', e = .returned (.slice A' M.length c') ∧ OwnM w.heap.size w' A' M.length c' M ∧ Below w.heap.size w w' := by
  go_enter Try.func27, Try.ntmps27
  go_wp2_with fail
  refine (appendSeq_priv gf lb bs M _ eg hM hbs hseq).mono ?_
  rintro e w1 ⟨A', c', rfl, hO, hb⟩
  go_wp2
  go_ret
  exact ⟨A', c', rfl, hO, hb⟩

end Go.Proofs.Ytglilhnmgfkfhaa
