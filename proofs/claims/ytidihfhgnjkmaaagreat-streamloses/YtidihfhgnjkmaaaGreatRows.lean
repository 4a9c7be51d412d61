/-
  No cell of these rows narrows 'for every input' (looked for: loops, veiled, ifaces, maps, wideKeys, modest, calm, conditions, laid).
  DERIVED. THE GIVEN ROWS OF THIS SEAT. 5 by the template 'for every input the law returns true; each argument reads behind the call as it read before'; 0 by the template 'total and deterministic' (their statements: YtidihfhgnjkmaaaGreatTotals.lean).
  GIVEN WITH THE SEED: the statements are not yours to turn. If you find one false, say at which input.
  Laid BY PROGRAM, IN A SANDBOX (cutbox-rows.mjs): the forced cells as the released guide's own fill.sh prints them over the translation d6d7299104e0a24e… (all of the seat's roots in one cut). By AI agents, Wed Nov 11 2026. No macro, syntax, notation, axiom, sorry.
-/
import Derived.Test.YtidihfhgnjkmaaaGreatChecked
import GoSem.Claim
import GoSem.ClaimJoined
import GoSem.ClaimMapViews
import Derived.JoinedTies
import Derived.KernelRfl
namespace Go.Proofs.YtidihfhgnjkmaaaGreat
/- THE CELL 'sum', in the pinned program and in every row, IS THE sha256 OF THE DUMP (.gsa) THAT YtidihfhgnjkmaaaGreatProg.lean LOADS. Nothing in Lean hashes anything: it is a label: what it is worth is what the hold of that sum in a sandbox is worth. -/
noncomputable def Tryz.pinned : Pinned := { name := "ytidihfhgnjkmaaagreat", sum := "d6d7299104e0a24ed22766a321004b97a898f8f4c718bc9b389512145403a0ce", checked := Tryz.checked }
namespace Rows
def none {H : Type} : Left H := { results := [], args := [] }

/-- 'grapevinelaw15.StreamPlays': WHATEVER THE INPUT: true; the input reads as it did. -/
def streamPlaysSpec : ChangeSpec := { name := "streamPlays", fn := fun _ => fun
  | [d] => { results := [.lit (.bool true)], args := [d] }
  | _ => none }
def streamPlaysRow : OpenClaim := { program := "ytidihfhgnjkmaaagreat", sum := "d6d7299104e0a24ed22766a321004b97a898f8f4c718bc9b389512145403a0ce", func := "grapevine/grapevinelaw15.StreamPlays", spec := "streamPlays", inPlace := ["maps.clone"], unfollowed := true, recurses := true, apart := false }
def StreamPlaysSaid : Prop := streamPlaysRow.holds Tryz.pinned (OpenSpec.ofChange streamPlaysSpec)

/-- ITS FALSE NEIGHBOUR: 'it returns false'. Refute it at one input. -/
def streamPlaysWrong : ChangeSpec := { name := "streamPlays", fn := fun _ => fun
  | [d] => { results := [.lit (.bool false)], args := [d] }
  | _ => none }
def StreamPlaysWrongFalsely : Prop := streamPlaysRow.holds Tryz.pinned (OpenSpec.ofChange streamPlaysWrong)

/-- 'grapevinelaw15.StreamTells': WHATEVER THE INPUT: true; the input reads as it did. -/
def streamTellsSpec : ChangeSpec := { name := "streamTells", fn := fun _ => fun
  | [d1, d2] => { results := [.lit (.bool true)], args := [d1, d2] }
  | _ => none }
def streamTellsRow : OpenClaim := { program := "ytidihfhgnjkmaaagreat", sum := "d6d7299104e0a24ed22766a321004b97a898f8f4c718bc9b389512145403a0ce", func := "grapevine/grapevinelaw15.StreamTells", spec := "streamTells", inPlace := ["maps.clone"], unfollowed := true, recurses := true, apart := false }
def StreamTellsSaid : Prop := streamTellsRow.holds Tryz.pinned (OpenSpec.ofChange streamTellsSpec)

/-- ITS FALSE NEIGHBOUR: 'it returns false'. Refute it at one input. -/
def streamTellsWrong : ChangeSpec := { name := "streamTells", fn := fun _ => fun
  | [d1, d2] => { results := [.lit (.bool false)], args := [d1, d2] }
  | _ => none }
def StreamTellsWrongFalsely : Prop := streamTellsRow.holds Tryz.pinned (OpenSpec.ofChange streamTellsWrong)

/-- 'grapevinelaw15.StreamGoes': WHATEVER THE INPUT: true; the input reads as it did. -/
def streamGoesSpec : ChangeSpec := { name := "streamGoes", fn := fun _ => fun
  | [d1, d2, d3] => { results := [.lit (.bool true)], args := [d1, d2, d3] }
  | _ => none }
def streamGoesRow : OpenClaim := { program := "ytidihfhgnjkmaaagreat", sum := "d6d7299104e0a24ed22766a321004b97a898f8f4c718bc9b389512145403a0ce", func := "grapevine/grapevinelaw15.StreamGoes", spec := "streamGoes", inPlace := ["maps.clone"], unfollowed := true, recurses := true, apart := false }
def StreamGoesSaid : Prop := streamGoesRow.holds Tryz.pinned (OpenSpec.ofChange streamGoesSpec)

/-- ITS FALSE NEIGHBOUR: 'it returns false'. Refute it at one input. -/
def streamGoesWrong : ChangeSpec := { name := "streamGoes", fn := fun _ => fun
  | [d1, d2, d3] => { results := [.lit (.bool false)], args := [d1, d2, d3] }
  | _ => none }
def StreamGoesWrongFalsely : Prop := streamGoesRow.holds Tryz.pinned (OpenSpec.ofChange streamGoesWrong)

/-- 'grapevinelaw15.StreamLoses': WHATEVER THE INPUT: true; the input reads as it did. -/
def streamLosesSpec : ChangeSpec := { name := "streamLoses", fn := fun _ => fun
  | [d1, d2] => { results := [.lit (.bool true)], args := [d1, d2] }
  | _ => none }
def streamLosesRow : OpenClaim := { program := "ytidihfhgnjkmaaagreat", sum := "d6d7299104e0a24ed22766a321004b97a898f8f4c718bc9b389512145403a0ce", func := "grapevine/grapevinelaw15.StreamLoses", spec := "streamLoses", inPlace := ["maps.clone"], unfollowed := true, recurses := true, apart := false }
def StreamLosesSaid : Prop := streamLosesRow.holds Tryz.pinned (OpenSpec.ofChange streamLosesSpec)

/-- ITS FALSE NEIGHBOUR: 'it returns false'. Refute it at one input. -/
def streamLosesWrong : ChangeSpec := { name := "streamLoses", fn := fun _ => fun
  | [d1, d2] => { results := [.lit (.bool false)], args := [d1, d2] }
  | _ => none }
def StreamLosesWrongFalsely : Prop := streamLosesRow.holds Tryz.pinned (OpenSpec.ofChange streamLosesWrong)

/-- 'grapevinelaw15.StreamForks': WHATEVER THE INPUT: true; the input reads as it did. -/
def streamForksSpec : ChangeSpec := { name := "streamForks", fn := fun _ => fun
  | [d1, d2] => { results := [.lit (.bool true)], args := [d1, d2] }
  | _ => none }
def streamForksRow : OpenClaim := { program := "ytidihfhgnjkmaaagreat", sum := "d6d7299104e0a24ed22766a321004b97a898f8f4c718bc9b389512145403a0ce", func := "grapevine/grapevinelaw15.StreamForks", spec := "streamForks", inPlace := ["maps.clone"], unfollowed := true, recurses := true, apart := false }
def StreamForksSaid : Prop := streamForksRow.holds Tryz.pinned (OpenSpec.ofChange streamForksSpec)

/-- ITS FALSE NEIGHBOUR: 'it returns false'. Refute it at one input. -/
def streamForksWrong : ChangeSpec := { name := "streamForks", fn := fun _ => fun
  | [d1, d2] => { results := [.lit (.bool false)], args := [d1, d2] }
  | _ => none }
def StreamForksWrongFalsely : Prop := streamForksRow.holds Tryz.pinned (OpenSpec.ofChange streamForksWrong)

/- THE SECOND FORM. 'bulk': how many values and letters a reading holds, each counted each time it is reached (what is shared counts as often as it is met; a slice's spare places count too). A statement '..UptoSaid' is the law's where the arguments, and the package variables that the reading takes, are together of bulk at most 1048576: NARROWER than '..Said'. Prove '..Said' where nothing that the law and all that it calls make is longer than what came in: it says more and counts as full. Else prove '..UptoSaid'. A law counts once. -/
mutual
def uptoBulk {H : Type} : DataW H → Nat
  | .lit (.string bytes) => bytes.length + 1
  | .lit _ => 1
  | .nil => 1
  | .ptr d => uptoBulk d + 1
  | .slice elems spare => uptoBulkAll elems + uptoBulkAll spare + 1
  | .agg parts => uptoBulkAll parts + 1
  | .iface _ d => uptoBulk d + 1
  | .map entries => uptoBulkEntries entries + 1
  | .held _ => 1
def uptoBulkAll {H : Type} : List (DataW H) → Nat
  | [] => 0
  | d :: r => uptoBulk d + uptoBulkAll r
def uptoBulkEntries {H : Type} : List (Lit × DataW H) → Nat
  | [] => 0
  | x :: r => uptoBulkEntry x + uptoBulkEntries r
def uptoBulkEntry {H : Type} : Lit × DataW H → Nat
  | (.string bytes, d) => bytes.length + uptoBulk d + 1
  | (_, d) => uptoBulk d + 1
 end
def uptoSmall : (H : Type) → List (DataW H) → Bool := fun _ ds => decide (uptoBulkAll ds ≤ 1048576)
def OpenSpec.upto (s : _root_.Go.ChangeSpec) : _root_.Go.OpenSpec := { _root_.Go.OpenSpec.ofChange s with cond := some uptoSmall }

/-- 'grapevinelaw15.StreamPlays', WHERE WHAT IT READS IS OF BULK AT MOST 1048576: true; the input reads as it did. -/
def streamPlaysUptoRow : OpenClaim := { program := "ytidihfhgnjkmaaagreat", sum := "d6d7299104e0a24ed22766a321004b97a898f8f4c718bc9b389512145403a0ce", func := "grapevine/grapevinelaw15.StreamPlays", spec := "streamPlays", inPlace := ["maps.clone"], unfollowed := true, recurses := true, apart := false, narrowed := true }
def StreamPlaysUptoSaid : Prop := streamPlaysUptoRow.holds Tryz.pinned (OpenSpec.upto streamPlaysSpec)

/-- 'grapevinelaw15.StreamTells', WHERE WHAT IT READS IS OF BULK AT MOST 1048576: true; the input reads as it did. -/
def streamTellsUptoRow : OpenClaim := { program := "ytidihfhgnjkmaaagreat", sum := "d6d7299104e0a24ed22766a321004b97a898f8f4c718bc9b389512145403a0ce", func := "grapevine/grapevinelaw15.StreamTells", spec := "streamTells", inPlace := ["maps.clone"], unfollowed := true, recurses := true, apart := false, narrowed := true }
def StreamTellsUptoSaid : Prop := streamTellsUptoRow.holds Tryz.pinned (OpenSpec.upto streamTellsSpec)

/-- 'grapevinelaw15.StreamGoes', WHERE WHAT IT READS IS OF BULK AT MOST 1048576: true; the input reads as it did. -/
def streamGoesUptoRow : OpenClaim := { program := "ytidihfhgnjkmaaagreat", sum := "d6d7299104e0a24ed22766a321004b97a898f8f4c718bc9b389512145403a0ce", func := "grapevine/grapevinelaw15.StreamGoes", spec := "streamGoes", inPlace := ["maps.clone"], unfollowed := true, recurses := true, apart := false, narrowed := true }
def StreamGoesUptoSaid : Prop := streamGoesUptoRow.holds Tryz.pinned (OpenSpec.upto streamGoesSpec)

/-- 'grapevinelaw15.StreamLoses', WHERE WHAT IT READS IS OF BULK AT MOST 1048576: true; the input reads as it did. -/
def streamLosesUptoRow : OpenClaim := { program := "ytidihfhgnjkmaaagreat", sum := "d6d7299104e0a24ed22766a321004b97a898f8f4c718bc9b389512145403a0ce", func := "grapevine/grapevinelaw15.StreamLoses", spec := "streamLoses", inPlace := ["maps.clone"], unfollowed := true, recurses := true, apart := false, narrowed := true }
def StreamLosesUptoSaid : Prop := streamLosesUptoRow.holds Tryz.pinned (OpenSpec.upto streamLosesSpec)

/-- 'grapevinelaw15.StreamForks', WHERE WHAT IT READS IS OF BULK AT MOST 1048576: true; the input reads as it did. -/
def streamForksUptoRow : OpenClaim := { program := "ytidihfhgnjkmaaagreat", sum := "d6d7299104e0a24ed22766a321004b97a898f8f4c718bc9b389512145403a0ce", func := "grapevine/grapevinelaw15.StreamForks", spec := "streamForks", inPlace := ["maps.clone"], unfollowed := true, recurses := true, apart := false, narrowed := true }
def StreamForksUptoSaid : Prop := streamForksUptoRow.holds Tryz.pinned (OpenSpec.upto streamForksSpec)

end Rows
end Go.Proofs.YtidihfhgnjkmaaaGreat
