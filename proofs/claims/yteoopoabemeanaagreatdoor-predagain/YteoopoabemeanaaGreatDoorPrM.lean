/- What stands at a place for a predicate: plain mathematics. -/
import Derived.Test.YteoopoabemeanaaGreatDoorTm
import Derived.Test.YteoopoabemeanaaGreatDoorValPut
import Derived.Test.YteoopoabemeanaaGreatDoorEvName
namespace Go.Proofs.YteoopoabemeanaaGreatDoor

/-- May a value of that kind stand with that comparison? -/
def mayB (c : Nat) (k : Int) : Bool := if 5 ≤ c ∧ c ≤ 8 then decide (k = 1) || decide (k = 2) else if c = 9 then decide (k = 2) else if c = 10 then decide (k = 4) else true
/-- What is wrong with right terms, where so many truths stand. -/
def checkGo : Nat → List Tm → Nat
  | st, [] => if st = 1 then 0 else 4
  | st, q :: r => if q.op = 4 then (if st < 1 then 4 else checkGo st r) else if q.op = 5 ∨ q.op = 6 then (if st < 2 then 4 else checkGo (st - 1) r) else if 16 < st + 1 then 6 else checkGo (st + 1) r
def checkT (l : List Tm) : Nat := if 48 < l.length then 6 else checkGo 0 l
def TmRight (q : Tm) : Prop := (1 ≤ q.op ∧ q.op ≤ 6) ∧ (q.op = 3 → nameOk q.name ∧ (1 ≤ q.cmp ∧ q.cmp ≤ 10) ∧ (3 ≤ q.cmp → q.val.Right ∧ mayB q.cmp q.val.kind = true ∧ (q.cmp = 10 → q.radius ≤ 1048576)))
end Go.Proofs.YteoopoabemeanaaGreatDoor
