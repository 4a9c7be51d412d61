/- A value: its five cells. -/
import Derived.Test.YteoopoabemeanaaGreatDoorBase
import Derived.Test.YteoopoabemeanaaGreatDoorFlt
import Derived.Laws.Cover3
import Derived.Handy
namespace Go.Proofs.YteoopoabemeanaaGreatDoor
set_option maxRecDepth 100000
open Go.RowKit

/-- A value in memory: its five cells. -/
structure Val where
  kind : Int
  whole : Int
  words : ByteArray
  truth : Bool
  re : Nat
  im : Nat
def Val.cells (v : Val) : Array Value := #[.int .i64 v.kind, .int .i64 v.whole, .string v.words, .bool v.truth, .complex .f64 v.re v.im]
def Val.zero : Val := ⟨0, 0, ⟨#[]⟩, false, 0, 0⟩
end Go.Proofs.YteoopoabemeanaaGreatDoor
