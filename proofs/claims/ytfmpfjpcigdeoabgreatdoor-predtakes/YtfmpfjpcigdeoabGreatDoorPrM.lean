/- What stands at a place for a predicate: plain mathematics. -/
import Derived.Test.YtfmpfjpcigdeoabGreatDoorTm
import Derived.Test.YtfmpfjpcigdeoabGreatDoorValWhole
import Derived.Test.YtfmpfjpcigdeoabGreatDoorValPut
import Derived.Test.YtfmpfjpcigdeoabGreatDoorEvName
namespace Go.Proofs.YtfmpfjpcigdeoabGreatDoor

def radAt (bs : List Nat) (p : Nat) : Nat × Nat × Nat := match Leb.take bs (p : Int) with
  | (n, k, 0) => if 1048576 < n then (0, 0, 2) else (n, k, 0)
  | (_, _, f) => (0, 0, f)
/-- May a value of that kind stand with that comparison? -/
def mayB (c : Nat) (k : Int) : Bool := if 5 ≤ c ∧ c ≤ 8 then decide (k = 1) || decide (k = 2) else if c = 9 then decide (k = 2) else if c = 10 then decide (k = 4) else true
def valFor (bs : List Nat) (p c : Nat) : Val × Nat × Nat := match valAt bs (p : Int) with
  | (v, k, 0) => if mayB c v.kind = true then (v, k, 0) else (Val.zero, 0, 12)
  | (_, _, f) => (Val.zero, 0, f)
/-- Behind a name and its comparison. -/
def restAt (bs : List Nat) (nm : ByteArray) (c p : Nat) : Tm × Nat × Nat := match valFor bs p c with
  | (v, j, 0) => if c = 10 then (match radAt bs j with
    | (r, i, 0) => (⟨3, nm, c, v, r⟩, i, 0)
    | (_, _, f) => (Tm.zero, 0, f)) else (⟨3, nm, c, v, 0⟩, j, 0)
  | (_, _, f) => (Tm.zero, 0, f)
def atomAt (bs : List Nat) (p : Nat) : Tm × Nat × Nat := match textAt bs (p : Int) with
  | (l, k, 0) => if nameB (str l) = true then (if k = bs.length then (Tm.zero, 0, 3) else if bs.getD k 0 < 1 ∨ 10 < bs.getD k 0 then (Tm.zero, 0, 2) else if bs.getD k 0 ≤ 2 then (⟨3, str l, bs.getD k 0, Val.zero, 0⟩, k + 1, 0) else restAt bs (str l) (bs.getD k 0) (k + 1)) else (Tm.zero, 0, 11)
  | (_, _, f) => (Tm.zero, 0, f)
def termAt (bs : List Nat) (p : Nat) : Tm × Nat × Nat := if p = bs.length then (Tm.zero, 0, 3) else if bs.getD p 0 < 1 ∨ 6 < bs.getD p 0 then (Tm.zero, 0, 2) else if bs.getD p 0 = 3 then atomAt bs (p + 1) else (Tm.plain (bs.getD p 0), p + 1, 0)
def goT (bs : List Nat) : Nat → Nat → List Tm → List Tm × Nat × Nat
  | 0, p, acc => (acc, p, 0)
  | n + 1, p, acc => match termAt bs p with
    | (q, k, 0) => goT bs n k (acc ++ [q])
    | (_, _, f) => ([], 0, f)
/-- What is wrong with right terms, where so many truths stand. -/
def checkGo : Nat → List Tm → Nat
  | st, [] => if st = 1 then 0 else 4
  | st, q :: r => if q.op = 4 then (if st < 1 then 4 else checkGo st r) else if q.op = 5 ∨ q.op = 6 then (if st < 2 then 4 else checkGo (st - 1) r) else if 16 < st + 1 then 6 else checkGo (st + 1) r
def checkT (l : List Tm) : Nat := if 48 < l.length then 6 else checkGo 0 l
def predAt (bs : List Nat) (x : Int) : List Tm × Nat × Nat := match Leb.take bs x with
  | (n, k, 0) => if 48 < n then ([], 0, 6) else (match goT bs n k [] with
    | (l, j, 0) => if checkT l = 0 then (l, j, 0) else ([], 0, checkT l)
    | (_, _, f) => ([], 0, f))
  | (_, _, f) => ([], 0, f)
def TmRight (q : Tm) : Prop := (1 ≤ q.op ∧ q.op ≤ 6) ∧ (q.op = 3 → nameOk q.name ∧ (1 ≤ q.cmp ∧ q.cmp ≤ 10) ∧ (3 ≤ q.cmp → q.val.Right ∧ mayB q.cmp q.val.kind = true ∧ (q.cmp = 10 → q.radius ≤ 1048576)))
theorem goT_err {bs : List Nat} {n p : Nat} {acc : List Tm} {q : Tm} {k f : Nat} (h : termAt bs p = (q, k, f)) (hf : f ≠ 0) : goT bs (n + 1) p acc = ([], 0, f) := by
  rw [goT, h]
  cases f with
  | zero => exact absurd rfl hf
  | succ f => rfl
theorem goT_ok {bs : List Nat} {n p : Nat} {acc : List Tm} {q : Tm} {k : Nat} (h : termAt bs p = (q, k, 0)) : goT bs (n + 1) p acc = goT bs n k (acc ++ [q]) := by
  rw [goT, h]
  rfl
end Go.Proofs.YtfmpfjpcigdeoabGreatDoor
