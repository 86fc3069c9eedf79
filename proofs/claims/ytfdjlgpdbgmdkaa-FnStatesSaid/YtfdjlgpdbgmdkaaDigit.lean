/- Contracts: digits as bytes and as strings. -/
import Derived.Test.YtfdjlgpdbgmdkaaEq
import Derived.WalkLawsBesides
import Derived.Laws.IdiomStrings
namespace Go.Proofs.Ytfdjlgpdbgmdkaa
open Go.RowKit
set_option linter.unusedVariables false
set_option maxRecDepth 100000

/-- The byte of a digit. -/
def dg (n : Int) : UInt8 := UInt8.ofNat (48 + n).toNat
theorem dg_val {n : Int} (h0 : 0 ≤ n) (h9 : n ≤ 9) : ((dg n).toNat : Int) = 48 + n := by
  unfold dg
  rw [UInt8.toNat_ofNat_of_lt' (by show (48 + n).toNat < 256; omega)]
  omega

theorem digit_calls (n : Int) (w : World) (h0 : 0 ≤ n) (h9 : n ≤ 9) :
    Calls Try.prog 45 #[.int .i64 n] w fun e w' => e = .returned (.int .u8 (48 + n)) ∧ w = w' := by
  go_enter Try.func45, Try.ntmps45
  go_wp2
  go_ret
  exact ⟨rfl, rfl⟩

/-- string([]byte{..}) in the world that the bytes have just been laid in. -/
theorem conv_new (W : World) (l : List UInt8) (cs : Array Value) (hcs : cs = (l.map (fun b => Value.int .u8 (b.toNat : Int))).toArray) :
    (convert 22 9 (.slice (some ⟨W.heap.size, 0, none⟩) l.length l.length)).run Try.prog (W.alloc (.cells cs 5)) = .ok (.string ⟨l.toArray⟩) (W.alloc (.cells cs 5)) := by
  refine run_convert_bytes_back _ 22 9 5 ⟨W.heap.size, 0, none⟩ l.length l Try.underlying22 Try.underlying5 Try.underlying9 (fun j hj => ?_)
  have e : (⟨W.heap.size, 0, none⟩ : Addr).add j = ⟨W.heap.size, j, none⟩ := by
    unfold Addr.add
    split
    · next h0 => rw [h0]
    · simp
  rw [e, (Box.new W 5 cs).cell j, hcs]
  simp [hj]

theorem l01Dec_calls (n : Int) (w : World) (h0 : 0 ≤ n) (h9 : n ≤ 9) :
    Calls Try.prog 74 #[.int .i64 n] w fun e w' => e = .returned (.string ⟨#[dg n]⟩) ∧ Below w.heap.size w w' := by
  have hc := conv_new w [dg n] #[.int .u8 (48 + n)] (by simp [dg_val h0 h9])
  simp only [List.length_cons, List.length_nil, Nat.zero_add] at hc
  go_enter Try.func74, Try.ntmps74
  go_wp2_with fail
  go_wp2
  go_ret
  exact ⟨rfl, (Below.refl _ _).alloc (Nat.le_refl _) _⟩

theorem ret_str {a b : ByteArray} (h : a = b) : Ending.returned (.string b) = .returned (.string a) := by rw [h]
theorem ret_se {a b : ByteArray} {x y : Int} (h : a = b) (h' : x = y) : Ending.returned (.tuple #[.string b, .int .i64 y]) = .returned (.tuple #[.string a, .int .i64 x]) := by rw [h, h']

end Go.Proofs.Ytfdjlgpdbgmdkaa
