/-
  No cell of these rows narrows 'for every input' (looked for: loops, veiled, ifaces, maps, wideKeys, modest, calm, conditions, laid).
  DERIVED. THE GIVEN ROWS OF THIS SEAT. 6 by the template 'for every input the law returns true; each argument reads behind the call as it read before'; 0 by the template 'total and deterministic' (their statements: YtjpkhefegpbooaaTotals.lean).
  GIVEN WITH THE SEED: the statements are not yours to turn. If you find one false, say at which input.
  Laid BY PROGRAM, IN A SANDBOX (cutbox-rows.mjs): the forced cells as the released guide's own fill.sh prints them over the translation eac938d8d982ec79… (all of the seat's roots in one cut). By AI agents, Wed Nov 11 2026. No macro, syntax, notation, axiom, sorry.
-/
import Derived.Test.YtjpkhefegpbooaaChecked
import GoSem.Claim
import GoSem.ClaimJoined
import GoSem.ClaimMapViews
import Derived.JoinedTies
import Derived.KernelRfl
namespace Go.Proofs.Ytjpkhefegpbooaa
/- THE CELL 'sum', in the pinned program and in every row, IS THE sha256 OF THE DUMP (.gsa) THAT YtjpkhefegpbooaaProg.lean LOADS. Nothing in Lean hashes anything: it is a label: what it is worth is what the hold of that sum in a sandbox is worth. -/
noncomputable def Try.pinned : Pinned := { name := "ytjpkhefegpbooaa", sum := "eac938d8d982ec794910ba450eb09a3331792159f9fb4739f4b4b3a1b774bd56", checked := Try.checked }
namespace Rows
def none {H : Type} : Left H := { results := [], args := [] }

/-- 'grapevinelaw13.ParcelChecks': WHATEVER THE INPUT: true; the input reads as it did. -/
def parcelChecksSpec : ChangeSpec := { name := "parcelChecks", fn := fun _ => fun
  | [d] => { results := [.lit (.bool true)], args := [d] }
  | _ => none }
def parcelChecksRow : OpenClaim := { program := "ytjpkhefegpbooaa", sum := "eac938d8d982ec794910ba450eb09a3331792159f9fb4739f4b4b3a1b774bd56", func := "grapevine/grapevinelaw13.ParcelChecks", spec := "parcelChecks", apart := false }
def ParcelChecksSaid : Prop := parcelChecksRow.holds Try.pinned (OpenSpec.ofChange parcelChecksSpec)

/-- ITS FALSE NEIGHBOUR: 'it returns false'. Refute it at one input. -/
def parcelChecksWrong : ChangeSpec := { name := "parcelChecks", fn := fun _ => fun
  | [d] => { results := [.lit (.bool false)], args := [d] }
  | _ => none }
def ParcelChecksWrongFalsely : Prop := parcelChecksRow.holds Try.pinned (OpenSpec.ofChange parcelChecksWrong)

/-- 'grapevinelaw13.ParcelPlain': WHATEVER THE INPUT: true; the input reads as it did. -/
def parcelPlainSpec : ChangeSpec := { name := "parcelPlain", fn := fun _ => fun
  | [d] => { results := [.lit (.bool true)], args := [d] }
  | _ => none }
def parcelPlainRow : OpenClaim := { program := "ytjpkhefegpbooaa", sum := "eac938d8d982ec794910ba450eb09a3331792159f9fb4739f4b4b3a1b774bd56", func := "grapevine/grapevinelaw13.ParcelPlain", spec := "parcelPlain", apart := false }
def ParcelPlainSaid : Prop := parcelPlainRow.holds Try.pinned (OpenSpec.ofChange parcelPlainSpec)

/-- ITS FALSE NEIGHBOUR: 'it returns false'. Refute it at one input. -/
def parcelPlainWrong : ChangeSpec := { name := "parcelPlain", fn := fun _ => fun
  | [d] => { results := [.lit (.bool false)], args := [d] }
  | _ => none }
def ParcelPlainWrongFalsely : Prop := parcelPlainRow.holds Try.pinned (OpenSpec.ofChange parcelPlainWrong)

/-- 'grapevinelaw13.ParcelPuts': WHATEVER THE INPUT: true; the input reads as it did. -/
def parcelPutsSpec : ChangeSpec := { name := "parcelPuts", fn := fun _ => fun
  | [d] => { results := [.lit (.bool true)], args := [d] }
  | _ => none }
def parcelPutsRow : OpenClaim := { program := "ytjpkhefegpbooaa", sum := "eac938d8d982ec794910ba450eb09a3331792159f9fb4739f4b4b3a1b774bd56", func := "grapevine/grapevinelaw13.ParcelPuts", spec := "parcelPuts", apart := false }
def ParcelPutsSaid : Prop := parcelPutsRow.holds Try.pinned (OpenSpec.ofChange parcelPutsSpec)

/-- ITS FALSE NEIGHBOUR: 'it returns false'. Refute it at one input. -/
def parcelPutsWrong : ChangeSpec := { name := "parcelPuts", fn := fun _ => fun
  | [d] => { results := [.lit (.bool false)], args := [d] }
  | _ => none }
def ParcelPutsWrongFalsely : Prop := parcelPutsRow.holds Try.pinned (OpenSpec.ofChange parcelPutsWrong)

/-- 'grapevinelaw13.ParcelTakes': WHATEVER THE INPUT: true; the input reads as it did. -/
def parcelTakesSpec : ChangeSpec := { name := "parcelTakes", fn := fun _ => fun
  | [d] => { results := [.lit (.bool true)], args := [d] }
  | _ => none }
def parcelTakesRow : OpenClaim := { program := "ytjpkhefegpbooaa", sum := "eac938d8d982ec794910ba450eb09a3331792159f9fb4739f4b4b3a1b774bd56", func := "grapevine/grapevinelaw13.ParcelTakes", spec := "parcelTakes", apart := false }
def ParcelTakesSaid : Prop := parcelTakesRow.holds Try.pinned (OpenSpec.ofChange parcelTakesSpec)

/-- ITS FALSE NEIGHBOUR: 'it returns false'. Refute it at one input. -/
def parcelTakesWrong : ChangeSpec := { name := "parcelTakes", fn := fun _ => fun
  | [d] => { results := [.lit (.bool false)], args := [d] }
  | _ => none }
def ParcelTakesWrongFalsely : Prop := parcelTakesRow.holds Try.pinned (OpenSpec.ofChange parcelTakesWrong)

/-- 'grapevinelaw13.ParcelBack': WHATEVER THE INPUT: true; the input reads as it did. -/
def parcelBackSpec : ChangeSpec := { name := "parcelBack", fn := fun _ => fun
  | [d] => { results := [.lit (.bool true)], args := [d] }
  | _ => none }
def parcelBackRow : OpenClaim := { program := "ytjpkhefegpbooaa", sum := "eac938d8d982ec794910ba450eb09a3331792159f9fb4739f4b4b3a1b774bd56", func := "grapevine/grapevinelaw13.ParcelBack", spec := "parcelBack", apart := false }
def ParcelBackSaid : Prop := parcelBackRow.holds Try.pinned (OpenSpec.ofChange parcelBackSpec)

/-- ITS FALSE NEIGHBOUR: 'it returns false'. Refute it at one input. -/
def parcelBackWrong : ChangeSpec := { name := "parcelBack", fn := fun _ => fun
  | [d] => { results := [.lit (.bool false)], args := [d] }
  | _ => none }
def ParcelBackWrongFalsely : Prop := parcelBackRow.holds Try.pinned (OpenSpec.ofChange parcelBackWrong)

/-- 'grapevinelaw13.ParcelOnce': WHATEVER THE INPUT: true; the input reads as it did. -/
def parcelOnceSpec : ChangeSpec := { name := "parcelOnce", fn := fun _ => fun
  | [d1, d2] => { results := [.lit (.bool true)], args := [d1, d2] }
  | _ => none }
def parcelOnceRow : OpenClaim := { program := "ytjpkhefegpbooaa", sum := "eac938d8d982ec794910ba450eb09a3331792159f9fb4739f4b4b3a1b774bd56", func := "grapevine/grapevinelaw13.ParcelOnce", spec := "parcelOnce", apart := false }
def ParcelOnceSaid : Prop := parcelOnceRow.holds Try.pinned (OpenSpec.ofChange parcelOnceSpec)

/-- ITS FALSE NEIGHBOUR: 'it returns false'. Refute it at one input. -/
def parcelOnceWrong : ChangeSpec := { name := "parcelOnce", fn := fun _ => fun
  | [d1, d2] => { results := [.lit (.bool false)], args := [d1, d2] }
  | _ => none }
def ParcelOnceWrongFalsely : Prop := parcelOnceRow.holds Try.pinned (OpenSpec.ofChange parcelOnceWrong)

/- THE SECOND FORM. 'bulk': how many values and letters a reading holds, each counted each time it is reached (what is shared counts as often as it is met; a slice's spare places count too). A statement '..UptoSaid' is the law's where the arguments, and the package variables that the reading takes, are together of bulk at most 1048576: NARROWER than '..Said'. Prove '..Said' where nothing that the law and all that it calls make is longer than what came in: it says more and counts as full. Else prove '..UptoSaid'. A law counts once. -/
mutual
def uptoBulk {H : Type} : DataW H → Nat
  | .lit (.string bytes) => bytes.length + 1
  | .lit _ => 1
  | .nil => 1
  | .ptr d => uptoBulk d + 1
  | .slice elems spare => uptoBulkAll elems + uptoBulkAll spare + 1
  | .agg parts => uptoBulkAll parts + 1
  | .iface _ d => uptoBulk d + 1
  | .map entries => uptoBulkEntries entries + 1
  | .held _ => 1
def uptoBulkAll {H : Type} : List (DataW H) → Nat
  | [] => 0
  | d :: r => uptoBulk d + uptoBulkAll r
def uptoBulkEntries {H : Type} : List (Lit × DataW H) → Nat
  | [] => 0
  | x :: r => uptoBulkEntry x + uptoBulkEntries r
def uptoBulkEntry {H : Type} : Lit × DataW H → Nat
  | (.string bytes, d) => bytes.length + uptoBulk d + 1
  | (_, d) => uptoBulk d + 1
 end
def uptoSmall : (H : Type) → List (DataW H) → Bool := fun _ ds => decide (uptoBulkAll ds ≤ 1048576)
def OpenSpec.upto (s : _root_.Go.ChangeSpec) : _root_.Go.OpenSpec := { _root_.Go.OpenSpec.ofChange s with cond := some uptoSmall }

/-- 'grapevinelaw13.ParcelChecks', WHERE WHAT IT READS IS OF BULK AT MOST 1048576: true; the input reads as it did. -/
def parcelChecksUptoRow : OpenClaim := { program := "ytjpkhefegpbooaa", sum := "eac938d8d982ec794910ba450eb09a3331792159f9fb4739f4b4b3a1b774bd56", func := "grapevine/grapevinelaw13.ParcelChecks", spec := "parcelChecks", apart := false, narrowed := true }
def ParcelChecksUptoSaid : Prop := parcelChecksUptoRow.holds Try.pinned (OpenSpec.upto parcelChecksSpec)

/-- 'grapevinelaw13.ParcelPlain', WHERE WHAT IT READS IS OF BULK AT MOST 1048576: true; the input reads as it did. -/
def parcelPlainUptoRow : OpenClaim := { program := "ytjpkhefegpbooaa", sum := "eac938d8d982ec794910ba450eb09a3331792159f9fb4739f4b4b3a1b774bd56", func := "grapevine/grapevinelaw13.ParcelPlain", spec := "parcelPlain", apart := false, narrowed := true }
def ParcelPlainUptoSaid : Prop := parcelPlainUptoRow.holds Try.pinned (OpenSpec.upto parcelPlainSpec)

/-- 'grapevinelaw13.ParcelPuts', WHERE WHAT IT READS IS OF BULK AT MOST 1048576: true; the input reads as it did. -/
def parcelPutsUptoRow : OpenClaim := { program := "ytjpkhefegpbooaa", sum := "eac938d8d982ec794910ba450eb09a3331792159f9fb4739f4b4b3a1b774bd56", func := "grapevine/grapevinelaw13.ParcelPuts", spec := "parcelPuts", apart := false, narrowed := true }
def ParcelPutsUptoSaid : Prop := parcelPutsUptoRow.holds Try.pinned (OpenSpec.upto parcelPutsSpec)

/-- 'grapevinelaw13.ParcelTakes', WHERE WHAT IT READS IS OF BULK AT MOST 1048576: true; the input reads as it did. -/
def parcelTakesUptoRow : OpenClaim := { program := "ytjpkhefegpbooaa", sum := "eac938d8d982ec794910ba450eb09a3331792159f9fb4739f4b4b3a1b774bd56", func := "grapevine/grapevinelaw13.ParcelTakes", spec := "parcelTakes", apart := false, narrowed := true }
def ParcelTakesUptoSaid : Prop := parcelTakesUptoRow.holds Try.pinned (OpenSpec.upto parcelTakesSpec)

/-- 'grapevinelaw13.ParcelBack', WHERE WHAT IT READS IS OF BULK AT MOST 1048576: true; the input reads as it did. -/
def parcelBackUptoRow : OpenClaim := { program := "ytjpkhefegpbooaa", sum := "eac938d8d982ec794910ba450eb09a3331792159f9fb4739f4b4b3a1b774bd56", func := "grapevine/grapevinelaw13.ParcelBack", spec := "parcelBack", apart := false, narrowed := true }
def ParcelBackUptoSaid : Prop := parcelBackUptoRow.holds Try.pinned (OpenSpec.upto parcelBackSpec)

/-- 'grapevinelaw13.ParcelOnce', WHERE WHAT IT READS IS OF BULK AT MOST 1048576: true; the input reads as it did. -/
def parcelOnceUptoRow : OpenClaim := { program := "ytjpkhefegpbooaa", sum := "eac938d8d982ec794910ba450eb09a3331792159f9fb4739f4b4b3a1b774bd56", func := "grapevine/grapevinelaw13.ParcelOnce", spec := "parcelOnce", apart := false, narrowed := true }
def ParcelOnceUptoSaid : Prop := parcelOnceUptoRow.holds Try.pinned (OpenSpec.upto parcelOnceSpec)

end Rows
end Go.Proofs.Ytjpkhefegpbooaa
