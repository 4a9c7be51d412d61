/- The reader of texts: plain mathematics. F tells the word at a place, and the place behind it, or the fault. -/
import Derived.Test.YteoopoabemeanaaGreatDoorTm
namespace Go.Proofs.YteoopoabemeanaaGreatDoor

structure Wd where
  kind : Nat
  place : Nat
  text : ByteArray
  n : Int
  late : Nat
structure St where
  here : Nat
  next : Wd
  terms : List Tm

abbrev Lex : Type := Nat → Except (Nat × Nat) (Wd × Nat)
abbrev Res : Type := Except (Nat × Nat) St

/-- How much is left to be read. -/
def left (N : Nat) (s : St) : Nat := (N - s.here) + (if s.next.kind = 0 then 0 else 1)
/-- Words are read onward. -/
structure LexOk (F : Lex) (N : Nat) : Prop where
  on : ∀ p w k, p ≤ N → F p = .ok (w, k) → p ≤ k ∧ k ≤ N ∧ (w.kind ≠ 0 → p < k)

def adv (F : Lex) (s : St) : Res := match F s.here with
  | .ok (w, k) => .ok ⟨k, w, s.terms⟩
  | .error m => .error m
def passM (F : Lex) (s : St) : Res := if s.next.late = 0 then adv F s else .error (s.next.place, s.next.late)
def needM (F : Lex) (k : Nat) (s : St) : Res := if s.next.kind = k then passM F s else .error (s.next.place, 4)
def isS (t : ByteArray) (s : St) : Bool := decide (s.next.kind = 1) && decide (s.next.text = t)
def needS (F : Lex) (t : ByteArray) (s : St) : Res := if isS t s = true then passM F s else .error (s.next.place, 4)
def addM (q : Tm) (s : St) : St := ⟨s.here, s.next, s.terms ++ [q]⟩
def numM (F : Lex) (lo hi : Int) (s : St) : Res := if s.next.kind = 3 ∧ (s.next.n < lo ∨ hi < s.next.n) then .error (s.next.place, 6) else needM F 3 s

/-- What a call tells and leaves behind: a value and a state, or a fault. -/
abbrev ResV (α : Type) : Type := Except (Nat × Nat) (α × St)
def withV {α : Type} (v : α) : Res → ResV α
  | .ok s => .ok (v, s)
  | .error m => .error m
def thenV {α β : Type} (r : ResV α) (f : α → St → ResV β) : ResV β := match r with
  | .ok (v, s) => f v s
  | .error m => .error m
def andThen (r : Res) (f : St → Res) : Res := match r with
  | .ok s => f s
  | .error m => .error m
def thenS {α : Type} (r : Res) (f : St → ResV α) : ResV α := match r with
  | .ok s => f s
  | .error m => .error m

/-! The signs. -/
def sgn (l : List UInt8) : ByteArray := ⟨l.toArray⟩
def cmpText (c : Nat) : ByteArray := match c with
  | 3 => ⟨#[61]⟩
  | 4 => ⟨#[33, 61]⟩
  | 5 => ⟨#[60]⟩
  | 6 => ⟨#[60, 61]⟩
  | 7 => ⟨#[62]⟩
  | 8 => ⟨#[62, 61]⟩
  | 9 => ⟨#[94]⟩
  | _ => ⟨#[126]⟩
/-- The comparison that the next word is, from the k-th last on; 2: none. -/
def cmpFrom (F : Lex) (s : St) : Nat → ResV Nat
  | 0 => .ok (2, s)
  | k + 1 => if isS (cmpText (10 - k)) s = true then withV (10 - k) (passM F s) else cmpFrom F s k
def cmpM (F : Lex) (s : St) : ResV Nat := cmpFrom F s 8
def wordsV (t : ByteArray) : Val := ⟨2, 0, t, false, 0, 0⟩
def wholeV (n : Int) : Val := ⟨1, n, ⟨#[]⟩, false, 0, 0⟩
def truthV (b : Bool) : Val := ⟨3, 0, ⟨#[]⟩, b, 0, 0⟩
def pointV (x y : Int) : Val := ⟨4, 0, ⟨#[]⟩, false, floatOfInt .f64 x, floatOfInt .f64 y⟩
def orderedM (F : Lex) (s : St) : ResV Val := if s.next.kind = 4 then withV (wordsV s.next.text) (passM F s) else withV (wholeV s.next.n) (numM F (-9223372036854775808) 9223372036854775807 s)
def partM (F : Lex) (s : St) : Res := numM F (-1048576) 1048576 s
def pointM (F : Lex) (s : St) : ResV Val := thenS (needS F ⟨#[40]⟩ s) fun s1 => thenS (partM F s1) fun s2 => thenS (needS F ⟨#[44]⟩ s2) fun s3 => thenS (partM F s3) fun s4 => thenS (needS F ⟨#[41]⟩ s4) fun s5 => .ok (pointV s1.next.n s3.next.n, s5)
def yesT : ByteArray := ⟨#[121, 101, 115]⟩
def noT : ByteArray := ⟨#[110, 111]⟩
def valueM (F : Lex) (s : St) : ResV Val := if isS ⟨#[40]⟩ s = true then pointM F s else if s.next.kind = 2 ∧ (s.next.text = yesT ∨ s.next.text = noT) then withV (truthV (decide (s.next.text = yesT))) (passM F s) else orderedM F s
def beginsM (F : Lex) (s : St) : ResV Val := withV (wordsV s.next.text) (needM F 4 s)
/-- Behind a name and a comparison. -/
def restM (F : Lex) (name : ByteArray) (c : Nat) (s : St) : Res :=
  if c = 2 then .ok (addM ⟨3, name, 2, Val.zero, 0⟩ s)
  else if c = 3 ∨ c = 4 then (match valueM F s with
    | .ok (v, s1) => .ok (addM ⟨3, name, c, v, 0⟩ s1)
    | .error m => .error m)
  else if c = 9 then (match beginsM F s with
    | .ok (v, s1) => .ok (addM ⟨3, name, c, v, 0⟩ s1)
    | .error m => .error m)
  else if c = 10 then (match pointM F s with
    | .ok (v, s1) => andThen (needS F ⟨#[47]⟩ s1) fun s2 => andThen (numM F 0 1048576 s2) fun s3 => .ok (addM ⟨3, name, c, v, s2.next.n.toNat⟩ s3)
    | .error m => .error m)
  else (match orderedM F s with
    | .ok (v, s1) => .ok (addM ⟨3, name, c, v, 0⟩ s1)
    | .error m => .error m)
def atomM (F : Lex) (s : St) : Res := andThen (needM F 2 s) fun s1 => match cmpM F s1 with
  | .ok (c, s2) => restM F s.next.text c s2
  | .error m => .error m
/-- 0: an ANY; 1: what may go on behind it; 2: an ALL; 3: what may go on behind it; else a UNIT. -/
def runM (F : Lex) : Nat → Nat → St → Res
  | 0, _, _ => .error (0, 0)
  | n + 1, 0, s => andThen (runM F n 2 s) (runM F n 1)
  | n + 1, 1, s => if isS ⟨#[124]⟩ s = true then andThen (passM F s) (fun s1 => andThen (runM F n 2 s1) fun s2 => runM F n 1 (addM (Tm.plain 6) s2)) else .ok s
  | n + 1, 2, s => andThen (runM F n 4 s) (runM F n 3)
  | n + 1, 3, s => if isS ⟨#[38]⟩ s = true then andThen (passM F s) (fun s1 => andThen (runM F n 4 s1) fun s2 => runM F n 3 (addM (Tm.plain 5) s2)) else .ok s
  | n + 1, _ + 4, s =>
    if isS ⟨#[33]⟩ s = true then andThen (passM F s) fun s1 => andThen (runM F n 4 s1) fun s2 => .ok (addM (Tm.plain 4) s2)
    else if isS ⟨#[40]⟩ s = true then andThen (passM F s) fun s1 => andThen (runM F n 0 s1) fun s2 => needS F ⟨#[41]⟩ s2
    else if isS ⟨#[42]⟩ s = true then andThen (passM F s) fun s1 => .ok (addM (Tm.plain 1) s1)
    else if isS ⟨#[35]⟩ s = true then andThen (passM F s) fun s1 => .ok (addM (Tm.plain 2) s1)
    else if isS ⟨#[63]⟩ s = true then andThen (passM F s) fun s1 => andThen (needM F 2 s1) fun s2 => .ok (addM ⟨3, s1.next.text, 1, Val.zero, 0⟩ s2)
    else atomM F s
def start : St := ⟨0, ⟨0, 0, ⟨#[]⟩, 0, 0⟩, []⟩
def parseM (F : Lex) (n : Nat) : Res := andThen (adv F start) fun s => andThen (runM F n 0 s) fun s1 => needM F 0 s1
end Go.Proofs.YteoopoabemeanaaGreatDoor
