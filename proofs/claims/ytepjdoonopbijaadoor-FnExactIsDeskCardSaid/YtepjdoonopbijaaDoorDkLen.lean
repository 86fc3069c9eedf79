/- Words: the sizes of a desk that is the answer. No program. -/
import Derived.Test.YtepjdoonopbijaaDoorDk
namespace Go.Proofs.YtepjdoonopbijaaDoor
open Go.RowKit
theorem dk_len {B n c m d : Nat} {w : World} {A H : Option Addr} {L : List Int} {rs : List Rw} {LL : List (List Int)} (h : OwnDk B w A n c L H m d rs) (hLL : LLof rs = LL) (hn : L.length ≤ 1048576) (hs : (LL.map List.length).sum + LL.length ≤ 1048576) :
    Hid (L.length = n) ∧ Hid (rs.length = m) ∧ n ≤ 1048576 ∧ m ≤ 1048576 ∧ Hid (totN rs ≤ 1048576) ∧ Hid (∀ r ∈ rs, r.n ≤ 1048576) := by
  have h1 := h.1.len
  have h2 := h.2.1.len
  have h3 := totN_LL h.2.1
  rw [hLL] at h3
  have h4 : LL.length = m := by rw [← hLL, LL_len, h2]
  have h5 : totN rs ≤ 1048576 := by omega
  exact ⟨h1, h2, by omega, by omega, h5, rows_small h5⟩
end Go.Proofs.YtepjdoonopbijaaDoor
