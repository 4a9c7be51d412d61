/-
  No cell of these rows narrows 'for every input' (looked for: loops, veiled, ifaces, maps, wideKeys, modest, calm, conditions, laid).
  DERIVED. THE GIVEN ROWS OF THIS SEAT. 6 by the template 'for every input the law returns true; each argument reads behind the call as it read before'; 0 by the template 'total and deterministic' (their statements: YtpkhkhoajaobkacTotals.lean).
  GIVEN WITH THE SEED: the statements are not yours to turn. If you find one false, say at which input.
  Laid BY PROGRAM, IN A SANDBOX (cutbox-rows.mjs): the forced cells as the released guide's own fill.sh prints them over the translation 018a0042e46afa9d… (all of the seat's roots in one cut). By AI agents, Wed Nov 11 2026. No macro, syntax, notation, axiom, sorry.
-/
import Derived.Test.YtpkhkhoajaobkacChecked
import GoSem.Claim
import GoSem.ClaimJoined
import GoSem.ClaimMapViews
import Derived.JoinedTies
import Derived.KernelRfl
namespace Go.Proofs.Ytpkhkhoajaobkac
/- THE CELL 'sum', in the pinned program and in every row, IS THE sha256 OF THE DUMP (.gsa) THAT YtpkhkhoajaobkacProg.lean LOADS. Nothing in Lean hashes anything: it is a label: what it is worth is what the hold of that sum in a sandbox is worth. -/
noncomputable def Try.pinned : Pinned := { name := "ytpkhkhoajaobkac", sum := "018a0042e46afa9df0e02aa80014eb670e8325545780be8cf0563d82beb261b8", checked := Try.checked }
namespace Rows
def none {H : Type} : Left H := { results := [], args := [] }

/-- 'grapevinelaw02.OctetUints': WHATEVER THE INPUT: true; the input reads as it did. -/
def octetUintsSpec : ChangeSpec := { name := "octetUints", fn := fun _ => fun
  | [d] => { results := [.lit (.bool true)], args := [d] }
  | _ => none }
def octetUintsRow : OpenClaim := { program := "ytpkhkhoajaobkac", sum := "018a0042e46afa9df0e02aa80014eb670e8325545780be8cf0563d82beb261b8", func := "grapevine/grapevinelaw02.OctetUints", spec := "octetUints", apart := false }
def OctetUintsSaid : Prop := octetUintsRow.holds Try.pinned (OpenSpec.ofChange octetUintsSpec)

/-- ITS FALSE NEIGHBOUR: 'it returns false'. Refute it at one input. -/
def octetUintsWrong : ChangeSpec := { name := "octetUints", fn := fun _ => fun
  | [d] => { results := [.lit (.bool false)], args := [d] }
  | _ => none }
def OctetUintsWrongFalsely : Prop := octetUintsRow.holds Try.pinned (OpenSpec.ofChange octetUintsWrong)

/-- 'grapevinelaw02.OctetTakesUint': WHATEVER THE INPUT: true; the input reads as it did. -/
def octetTakesUintSpec : ChangeSpec := { name := "octetTakesUint", fn := fun _ => fun
  | [d1, d2] => { results := [.lit (.bool true)], args := [d1, d2] }
  | _ => none }
def octetTakesUintRow : OpenClaim := { program := "ytpkhkhoajaobkac", sum := "018a0042e46afa9df0e02aa80014eb670e8325545780be8cf0563d82beb261b8", func := "grapevine/grapevinelaw02.OctetTakesUint", spec := "octetTakesUint", apart := false }
def OctetTakesUintSaid : Prop := octetTakesUintRow.holds Try.pinned (OpenSpec.ofChange octetTakesUintSpec)

/-- ITS FALSE NEIGHBOUR: 'it returns false'. Refute it at one input. -/
def octetTakesUintWrong : ChangeSpec := { name := "octetTakesUint", fn := fun _ => fun
  | [d1, d2] => { results := [.lit (.bool false)], args := [d1, d2] }
  | _ => none }
def OctetTakesUintWrongFalsely : Prop := octetTakesUintRow.holds Try.pinned (OpenSpec.ofChange octetTakesUintWrong)

/-- 'grapevinelaw02.OctetUintBack': WHATEVER THE INPUT: true; the input reads as it did. -/
def octetUintBackSpec : ChangeSpec := { name := "octetUintBack", fn := fun _ => fun
  | [d1, d2] => { results := [.lit (.bool true)], args := [d1, d2] }
  | _ => none }
def octetUintBackRow : OpenClaim := { program := "ytpkhkhoajaobkac", sum := "018a0042e46afa9df0e02aa80014eb670e8325545780be8cf0563d82beb261b8", func := "grapevine/grapevinelaw02.OctetUintBack", spec := "octetUintBack", apart := false }
def OctetUintBackSaid : Prop := octetUintBackRow.holds Try.pinned (OpenSpec.ofChange octetUintBackSpec)

/-- ITS FALSE NEIGHBOUR: 'it returns false'. Refute it at one input. -/
def octetUintBackWrong : ChangeSpec := { name := "octetUintBack", fn := fun _ => fun
  | [d1, d2] => { results := [.lit (.bool false)], args := [d1, d2] }
  | _ => none }
def OctetUintBackWrongFalsely : Prop := octetUintBackRow.holds Try.pinned (OpenSpec.ofChange octetUintBackWrong)

/-- 'grapevinelaw02.OctetOnce': WHATEVER THE INPUT: true; the input reads as it did. -/
def octetOnceSpec : ChangeSpec := { name := "octetOnce", fn := fun _ => fun
  | [d1, d2] => { results := [.lit (.bool true)], args := [d1, d2] }
  | _ => none }
def octetOnceRow : OpenClaim := { program := "ytpkhkhoajaobkac", sum := "018a0042e46afa9df0e02aa80014eb670e8325545780be8cf0563d82beb261b8", func := "grapevine/grapevinelaw02.OctetOnce", spec := "octetOnce", apart := false }
def OctetOnceSaid : Prop := octetOnceRow.holds Try.pinned (OpenSpec.ofChange octetOnceSpec)

/-- ITS FALSE NEIGHBOUR: 'it returns false'. Refute it at one input. -/
def octetOnceWrong : ChangeSpec := { name := "octetOnce", fn := fun _ => fun
  | [d1, d2] => { results := [.lit (.bool false)], args := [d1, d2] }
  | _ => none }
def OctetOnceWrongFalsely : Prop := octetOnceRow.holds Try.pinned (OpenSpec.ofChange octetOnceWrong)

/-- 'grapevinelaw02.OctetInts': WHATEVER THE INPUT: true; the input reads as it did. -/
def octetIntsSpec : ChangeSpec := { name := "octetInts", fn := fun _ => fun
  | [d1, d2, d3] => { results := [.lit (.bool true)], args := [d1, d2, d3] }
  | _ => none }
def octetIntsRow : OpenClaim := { program := "ytpkhkhoajaobkac", sum := "018a0042e46afa9df0e02aa80014eb670e8325545780be8cf0563d82beb261b8", func := "grapevine/grapevinelaw02.OctetInts", spec := "octetInts", apart := false }
def OctetIntsSaid : Prop := octetIntsRow.holds Try.pinned (OpenSpec.ofChange octetIntsSpec)

/-- ITS FALSE NEIGHBOUR: 'it returns false'. Refute it at one input. -/
def octetIntsWrong : ChangeSpec := { name := "octetInts", fn := fun _ => fun
  | [d1, d2, d3] => { results := [.lit (.bool false)], args := [d1, d2, d3] }
  | _ => none }
def OctetIntsWrongFalsely : Prop := octetIntsRow.holds Try.pinned (OpenSpec.ofChange octetIntsWrong)

/-- 'grapevinelaw02.OctetIntBack': WHATEVER THE INPUT: true; the input reads as it did. -/
def octetIntBackSpec : ChangeSpec := { name := "octetIntBack", fn := fun _ => fun
  | [d1, d2] => { results := [.lit (.bool true)], args := [d1, d2] }
  | _ => none }
def octetIntBackRow : OpenClaim := { program := "ytpkhkhoajaobkac", sum := "018a0042e46afa9df0e02aa80014eb670e8325545780be8cf0563d82beb261b8", func := "grapevine/grapevinelaw02.OctetIntBack", spec := "octetIntBack", apart := false }
def OctetIntBackSaid : Prop := octetIntBackRow.holds Try.pinned (OpenSpec.ofChange octetIntBackSpec)

/-- ITS FALSE NEIGHBOUR: 'it returns false'. Refute it at one input. -/
def octetIntBackWrong : ChangeSpec := { name := "octetIntBack", fn := fun _ => fun
  | [d1, d2] => { results := [.lit (.bool false)], args := [d1, d2] }
  | _ => none }
def OctetIntBackWrongFalsely : Prop := octetIntBackRow.holds Try.pinned (OpenSpec.ofChange octetIntBackWrong)

/- THE SECOND FORM. 'bulk': how many values and letters a reading holds, each counted each time it is reached (what is shared counts as often as it is met; a slice's spare places count too). A statement '..UptoSaid' is the law's where the arguments, and the package variables that the reading takes, are together of bulk at most 1048576: NARROWER than '..Said'. Prove '..Said' where nothing that the law and all that it calls make is longer than what came in: it says more and counts as full. Else prove '..UptoSaid'. A law counts once. -/
mutual
def uptoBulk {H : Type} : DataW H → Nat
  | .lit (.string bytes) => bytes.length + 1
  | .lit _ => 1
  | .nil => 1
  | .ptr d => uptoBulk d + 1
  | .slice elems spare => uptoBulkAll elems + uptoBulkAll spare + 1
  | .agg parts => uptoBulkAll parts + 1
  | .iface _ d => uptoBulk d + 1
  | .map entries => uptoBulkEntries entries + 1
  | .held _ => 1
def uptoBulkAll {H : Type} : List (DataW H) → Nat
  | [] => 0
  | d :: r => uptoBulk d + uptoBulkAll r
def uptoBulkEntries {H : Type} : List (Lit × DataW H) → Nat
  | [] => 0
  | x :: r => uptoBulkEntry x + uptoBulkEntries r
def uptoBulkEntry {H : Type} : Lit × DataW H → Nat
  | (.string bytes, d) => bytes.length + uptoBulk d + 1
  | (_, d) => uptoBulk d + 1
 end
def uptoSmall : (H : Type) → List (DataW H) → Bool := fun _ ds => decide (uptoBulkAll ds ≤ 1048576)
def OpenSpec.upto (s : _root_.Go.ChangeSpec) : _root_.Go.OpenSpec := { _root_.Go.OpenSpec.ofChange s with cond := some uptoSmall }

/-- 'grapevinelaw02.OctetUints', WHERE WHAT IT READS IS OF BULK AT MOST 1048576: true; the input reads as it did. -/
def octetUintsUptoRow : OpenClaim := { program := "ytpkhkhoajaobkac", sum := "018a0042e46afa9df0e02aa80014eb670e8325545780be8cf0563d82beb261b8", func := "grapevine/grapevinelaw02.OctetUints", spec := "octetUints", apart := false, narrowed := true }
def OctetUintsUptoSaid : Prop := octetUintsUptoRow.holds Try.pinned (OpenSpec.upto octetUintsSpec)

/-- 'grapevinelaw02.OctetTakesUint', WHERE WHAT IT READS IS OF BULK AT MOST 1048576: true; the input reads as it did. -/
def octetTakesUintUptoRow : OpenClaim := { program := "ytpkhkhoajaobkac", sum := "018a0042e46afa9df0e02aa80014eb670e8325545780be8cf0563d82beb261b8", func := "grapevine/grapevinelaw02.OctetTakesUint", spec := "octetTakesUint", apart := false, narrowed := true }
def OctetTakesUintUptoSaid : Prop := octetTakesUintUptoRow.holds Try.pinned (OpenSpec.upto octetTakesUintSpec)

/-- 'grapevinelaw02.OctetUintBack', WHERE WHAT IT READS IS OF BULK AT MOST 1048576: true; the input reads as it did. -/
def octetUintBackUptoRow : OpenClaim := { program := "ytpkhkhoajaobkac", sum := "018a0042e46afa9df0e02aa80014eb670e8325545780be8cf0563d82beb261b8", func := "grapevine/grapevinelaw02.OctetUintBack", spec := "octetUintBack", apart := false, narrowed := true }
def OctetUintBackUptoSaid : Prop := octetUintBackUptoRow.holds Try.pinned (OpenSpec.upto octetUintBackSpec)

/-- 'grapevinelaw02.OctetOnce', WHERE WHAT IT READS IS OF BULK AT MOST 1048576: true; the input reads as it did. -/
def octetOnceUptoRow : OpenClaim := { program := "ytpkhkhoajaobkac", sum := "018a0042e46afa9df0e02aa80014eb670e8325545780be8cf0563d82beb261b8", func := "grapevine/grapevinelaw02.OctetOnce", spec := "octetOnce", apart := false, narrowed := true }
def OctetOnceUptoSaid : Prop := octetOnceUptoRow.holds Try.pinned (OpenSpec.upto octetOnceSpec)

/-- 'grapevinelaw02.OctetInts', WHERE WHAT IT READS IS OF BULK AT MOST 1048576: true; the input reads as it did. -/
def octetIntsUptoRow : OpenClaim := { program := "ytpkhkhoajaobkac", sum := "018a0042e46afa9df0e02aa80014eb670e8325545780be8cf0563d82beb261b8", func := "grapevine/grapevinelaw02.OctetInts", spec := "octetInts", apart := false, narrowed := true }
def OctetIntsUptoSaid : Prop := octetIntsUptoRow.holds Try.pinned (OpenSpec.upto octetIntsSpec)

/-- 'grapevinelaw02.OctetIntBack', WHERE WHAT IT READS IS OF BULK AT MOST 1048576: true; the input reads as it did. -/
def octetIntBackUptoRow : OpenClaim := { program := "ytpkhkhoajaobkac", sum := "018a0042e46afa9df0e02aa80014eb670e8325545780be8cf0563d82beb261b8", func := "grapevine/grapevinelaw02.OctetIntBack", spec := "octetIntBack", apart := false, narrowed := true }
def OctetIntBackUptoSaid : Prop := octetIntBackUptoRow.holds Try.pinned (OpenSpec.upto octetIntBackSpec)

end Rows
end Go.Proofs.Ytpkhkhoajaobkac
