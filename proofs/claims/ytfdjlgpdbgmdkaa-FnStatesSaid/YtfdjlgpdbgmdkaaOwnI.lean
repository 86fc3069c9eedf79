/- Words for memory: an own slice of integers is read. -/
import Derived.Test.YtfdjlgpdbgmdkaaMark
import Derived.Test.YtfdjlgpdbgmdkaaOwnG
namespace Go.Proofs.Ytfdjlgpdbgmdkaa
open Go.RowKit

theorem OwnG.intsG0 {B : Nat} {w : World} {A : Option Addr} {n c : Nat} {L : List Int} (h : OwnG 2 1 B w A n c (L.map (Value.int .i64))) : Ints w A L := Own.ints (B := B) (n := n) (c := c) h
/-- The length of a slice that stands in a slot. -/
def lenV : Value → Nat
  | .slice _ n _ => n
  | _ => 0

end Go.Proofs.Ytfdjlgpdbgmdkaa
