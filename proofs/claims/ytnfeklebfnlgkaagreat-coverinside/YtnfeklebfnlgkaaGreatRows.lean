/-
  No cell of these rows narrows 'for every input' (looked for: loops, veiled, ifaces, maps, wideKeys, modest, calm, conditions, laid).
  DERIVED. THE GIVEN ROWS OF THIS SEAT. 3 by the template 'for every input the law returns true; each argument reads behind the call as it read before'; 0 by the template 'total and deterministic' (their statements: YtnfeklebfnlgkaaGreatTotals.lean).
  GIVEN WITH THE SEED: the statements are not yours to turn. If you find one false, say at which input.
  Laid BY PROGRAM, IN A SANDBOX (cutbox-rows.mjs): the forced cells as the released guide's own fill.sh prints them over the translation 1b06b20c016d5799… (all of the seat's roots in one cut). By AI agents, Wed Nov 11 2026. No macro, syntax, notation, axiom, sorry.
-/
import Derived.Test.YtnfeklebfnlgkaaGreatChecked
import GoSem.Claim
import GoSem.ClaimJoined
import GoSem.ClaimMapViews
import Derived.JoinedTies
import Derived.KernelRfl
namespace Go.Proofs.YtnfeklebfnlgkaaGreat
/- THE CELL 'sum', in the pinned program and in every row, IS THE sha256 OF THE DUMP (.gsa) THAT YtnfeklebfnlgkaaGreatProg.lean LOADS. Nothing in Lean hashes anything: it is a label: what it is worth is what the hold of that sum in a sandbox is worth. -/
noncomputable def Tryz.pinned : Pinned := { name := "ytnfeklebfnlgkaagreat", sum := "1b06b20c016d5799524dda357a326a5d36d168e803c73a92db9893452790ddde", checked := Tryz.checked }
namespace Rows
def none {H : Type} : Left H := { results := [], args := [] }

/-- 'grapevinelaw06.CoverChecks': WHATEVER THE INPUT: true; the input reads as it did. -/
def coverChecksSpec : ChangeSpec := { name := "coverChecks", fn := fun _ => fun
  | [d] => { results := [.lit (.bool true)], args := [d] }
  | _ => none }
def coverChecksRow : OpenClaim := { program := "ytnfeklebfnlgkaagreat", sum := "1b06b20c016d5799524dda357a326a5d36d168e803c73a92db9893452790ddde", func := "grapevine/grapevinelaw06.CoverChecks", spec := "coverChecks", inPlace := ["math.archTrunc", "math.Float64bits", "math.Float64frombits"], unfollowed := true, recurses := true, apart := false }
def CoverChecksSaid : Prop := coverChecksRow.holds Tryz.pinned (OpenSpec.ofChange coverChecksSpec)

/-- ITS FALSE NEIGHBOUR: 'it returns false'. Refute it at one input. -/
def coverChecksWrong : ChangeSpec := { name := "coverChecks", fn := fun _ => fun
  | [d] => { results := [.lit (.bool false)], args := [d] }
  | _ => none }
def CoverChecksWrongFalsely : Prop := coverChecksRow.holds Tryz.pinned (OpenSpec.ofChange coverChecksWrong)

/-- 'grapevinelaw06.CoverInside': WHATEVER THE INPUT: true; the input reads as it did. -/
def coverInsideSpec : ChangeSpec := { name := "coverInside", fn := fun _ => fun
  | [d1, d2] => { results := [.lit (.bool true)], args := [d1, d2] }
  | _ => none }
def coverInsideRow : OpenClaim := { program := "ytnfeklebfnlgkaagreat", sum := "1b06b20c016d5799524dda357a326a5d36d168e803c73a92db9893452790ddde", func := "grapevine/grapevinelaw06.CoverInside", spec := "coverInside", inPlace := ["math.archTrunc", "math.Float64bits", "math.Float64frombits"], unfollowed := true, recurses := true, apart := false }
def CoverInsideSaid : Prop := coverInsideRow.holds Tryz.pinned (OpenSpec.ofChange coverInsideSpec)

/-- ITS FALSE NEIGHBOUR: 'it returns false'. Refute it at one input. -/
def coverInsideWrong : ChangeSpec := { name := "coverInside", fn := fun _ => fun
  | [d1, d2] => { results := [.lit (.bool false)], args := [d1, d2] }
  | _ => none }
def CoverInsideWrongFalsely : Prop := coverInsideRow.holds Tryz.pinned (OpenSpec.ofChange coverInsideWrong)

/-- 'grapevinelaw06.CoverChain': WHATEVER THE INPUT: true; the input reads as it did. -/
def coverChainSpec : ChangeSpec := { name := "coverChain", fn := fun _ => fun
  | [d1, d2, d3] => { results := [.lit (.bool true)], args := [d1, d2, d3] }
  | _ => none }
def coverChainRow : OpenClaim := { program := "ytnfeklebfnlgkaagreat", sum := "1b06b20c016d5799524dda357a326a5d36d168e803c73a92db9893452790ddde", func := "grapevine/grapevinelaw06.CoverChain", spec := "coverChain", inPlace := ["math.archTrunc", "math.Float64bits", "math.Float64frombits"], unfollowed := true, recurses := true, apart := false }
def CoverChainSaid : Prop := coverChainRow.holds Tryz.pinned (OpenSpec.ofChange coverChainSpec)

/-- ITS FALSE NEIGHBOUR: 'it returns false'. Refute it at one input. -/
def coverChainWrong : ChangeSpec := { name := "coverChain", fn := fun _ => fun
  | [d1, d2, d3] => { results := [.lit (.bool false)], args := [d1, d2, d3] }
  | _ => none }
def CoverChainWrongFalsely : Prop := coverChainRow.holds Tryz.pinned (OpenSpec.ofChange coverChainWrong)

/- THE SECOND FORM. 'bulk': how many values and letters a reading holds, each counted each time it is reached (what is shared counts as often as it is met; a slice's spare places count too). A statement '..UptoSaid' is the law's where the arguments, and the package variables that the reading takes, are together of bulk at most 1048576: NARROWER than '..Said'. Prove '..Said' where nothing that the law and all that it calls make is longer than what came in: it says more and counts as full. Else prove '..UptoSaid'. A law counts once. -/
mutual
def uptoBulk {H : Type} : DataW H → Nat
  | .lit (.string bytes) => bytes.length + 1
  | .lit _ => 1
  | .nil => 1
  | .ptr d => uptoBulk d + 1
  | .slice elems spare => uptoBulkAll elems + uptoBulkAll spare + 1
  | .agg parts => uptoBulkAll parts + 1
  | .iface _ d => uptoBulk d + 1
  | .map entries => uptoBulkEntries entries + 1
  | .held _ => 1
def uptoBulkAll {H : Type} : List (DataW H) → Nat
  | [] => 0
  | d :: r => uptoBulk d + uptoBulkAll r
def uptoBulkEntries {H : Type} : List (Lit × DataW H) → Nat
  | [] => 0
  | x :: r => uptoBulkEntry x + uptoBulkEntries r
def uptoBulkEntry {H : Type} : Lit × DataW H → Nat
  | (.string bytes, d) => bytes.length + uptoBulk d + 1
  | (_, d) => uptoBulk d + 1
 end
def uptoSmall : (H : Type) → List (DataW H) → Bool := fun _ ds => decide (uptoBulkAll ds ≤ 1048576)
def OpenSpec.upto (s : _root_.Go.ChangeSpec) : _root_.Go.OpenSpec := { _root_.Go.OpenSpec.ofChange s with cond := some uptoSmall }

/-- 'grapevinelaw06.CoverChecks', WHERE WHAT IT READS IS OF BULK AT MOST 1048576: true; the input reads as it did. -/
def coverChecksUptoRow : OpenClaim := { program := "ytnfeklebfnlgkaagreat", sum := "1b06b20c016d5799524dda357a326a5d36d168e803c73a92db9893452790ddde", func := "grapevine/grapevinelaw06.CoverChecks", spec := "coverChecks", inPlace := ["math.archTrunc", "math.Float64bits", "math.Float64frombits"], unfollowed := true, recurses := true, apart := false, narrowed := true }
def CoverChecksUptoSaid : Prop := coverChecksUptoRow.holds Tryz.pinned (OpenSpec.upto coverChecksSpec)

/-- 'grapevinelaw06.CoverInside', WHERE WHAT IT READS IS OF BULK AT MOST 1048576: true; the input reads as it did. -/
def coverInsideUptoRow : OpenClaim := { program := "ytnfeklebfnlgkaagreat", sum := "1b06b20c016d5799524dda357a326a5d36d168e803c73a92db9893452790ddde", func := "grapevine/grapevinelaw06.CoverInside", spec := "coverInside", inPlace := ["math.archTrunc", "math.Float64bits", "math.Float64frombits"], unfollowed := true, recurses := true, apart := false, narrowed := true }
def CoverInsideUptoSaid : Prop := coverInsideUptoRow.holds Tryz.pinned (OpenSpec.upto coverInsideSpec)

/-- 'grapevinelaw06.CoverChain', WHERE WHAT IT READS IS OF BULK AT MOST 1048576: true; the input reads as it did. -/
def coverChainUptoRow : OpenClaim := { program := "ytnfeklebfnlgkaagreat", sum := "1b06b20c016d5799524dda357a326a5d36d168e803c73a92db9893452790ddde", func := "grapevine/grapevinelaw06.CoverChain", spec := "coverChain", inPlace := ["math.archTrunc", "math.Float64bits", "math.Float64frombits"], unfollowed := true, recurses := true, apart := false, narrowed := true }
def CoverChainUptoSaid : Prop := coverChainUptoRow.holds Tryz.pinned (OpenSpec.upto coverChainSpec)

end Rows
end Go.Proofs.YtnfeklebfnlgkaaGreat
