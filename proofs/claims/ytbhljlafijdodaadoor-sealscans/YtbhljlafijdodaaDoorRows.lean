/-
  NARROWER THAN 'FOR EVERY INPUT', by the rows' own cells (each row's printed sentence says how): SealLays: laid · SealOpens: laid · SealBack: laid · SealCuts: laid · SealTurned: laid · SealScans: laid.
  DERIVED. THE GIVEN ROWS OF THIS SEAT. 6 by the template 'for every input the law returns true; each argument reads behind the call as it read before'; 0 by the template 'total and deterministic' (their statements: YtbhljlafijdodaaDoorTotals.lean).
  GIVEN WITH THE SEED: the statements are not yours to turn. If you find one false, say at which input.
  Laid BY PROGRAM, IN A SANDBOX (cutbox-rows.mjs): the forced cells as the released guide's own fill.sh prints them over the translation 922e1ce5877c2ce7… (all of the seat's roots in one cut). By AI agents, Wed Nov 11 2026. No macro, syntax, notation, axiom, sorry.
-/
import Derived.Test.YtbhljlafijdodaaDoorChecked
import GoSem.Claim
import GoSem.ClaimJoined
import GoSem.ClaimMapViews
import Derived.JoinedTies
import Derived.KernelRfl
namespace Go.Proofs.YtbhljlafijdodaaDoor
/- THE CELL 'sum', in the pinned program and in every row, IS THE sha256 OF THE DUMP (.gsa) THAT YtbhljlafijdodaaDoorProg.lean LOADS. Nothing in Lean hashes anything: it is a label: what it is worth is what the hold of that sum in a sandbox is worth. -/
noncomputable def Tryd.pinned : Pinned := { name := "ytbhljlafijdodaadoor", sum := "922e1ce5877c2ce7af905ac989465b0286f48370589ee95e77448da9b913bdee", checked := Tryd.checked }
namespace Rows
def none {H : Type} : Left H := { results := [], args := [] }

/- WHAT THE LISTED PACKAGE-LEVEL VARIABLES READ AS WHEN THE CALL BEGINS. Each datum BY PROGRAM (the guide's laid-datum.mjs) off the statement by which the dump's own 'gosem.cut.vars' lays the variable. In a bare row this is a premise. The card (YtbhljlafijdodaaDoorCards.lean) ties it to the program's text. -/
def laid_grapevine_seal_steps {H : Type} : DataW H := .agg [.lit (.int .u32 0), .lit (.int .u32 274646895), .lit (.int .u32 549293790), .lit (.int .u32 820201905), .lit (.int .u32 1098587580), .lit (.int .u32 1361435347), .lit (.int .u32 1640403810), .lit (.int .u32 1905808397), .lit (.int .u32 2197175160), .lit (.int .u32 2460548119), .lit (.int .u32 2722870694), .lit (.int .u32 2987750089), .lit (.int .u32 3280807620), .lit (.int .u32 3553878443), .lit (.int .u32 3811616794), .lit (.int .u32 4084100981)]

/-- 'grapevinelaw01.SealLays': WHATEVER THE INPUT: true; the input reads as it did. -/
def sealLaysSpec : ChangeSpec := { name := "sealLays", fn := fun _ => fun
  | [d1, d2] => { results := [.lit (.bool true)], args := [d1, d2] }
  | _ => none }
def sealLaysRow : OpenClaim := { program := "ytbhljlafijdodaadoor", sum := "922e1ce5877c2ce7af905ac989465b0286f48370589ee95e77448da9b913bdee", func := "grapevine/grapevinelaw01.SealLays", spec := "sealLays", named := ["grapevine/seal.steps"], apart := false, laid := [("grapevine/seal.steps", laid_grapevine_seal_steps)] }
def SealLaysSaid : Prop := sealLaysRow.holds Tryd.pinned (OpenSpec.ofChange sealLaysSpec)

/-- ITS FALSE NEIGHBOUR: 'it returns false'. Refute it at one input. -/
def sealLaysWrong : ChangeSpec := { name := "sealLays", fn := fun _ => fun
  | [d1, d2] => { results := [.lit (.bool false)], args := [d1, d2] }
  | _ => none }
def SealLaysWrongFalsely : Prop := sealLaysRow.holds Tryd.pinned (OpenSpec.ofChange sealLaysWrong)

/-- 'grapevinelaw01.SealOpens': WHATEVER THE INPUT: true; the input reads as it did. -/
def sealOpensSpec : ChangeSpec := { name := "sealOpens", fn := fun _ => fun
  | [d1, d2] => { results := [.lit (.bool true)], args := [d1, d2] }
  | _ => none }
def sealOpensRow : OpenClaim := { program := "ytbhljlafijdodaadoor", sum := "922e1ce5877c2ce7af905ac989465b0286f48370589ee95e77448da9b913bdee", func := "grapevine/grapevinelaw01.SealOpens", spec := "sealOpens", named := ["grapevine/seal.steps"], apart := false, laid := [("grapevine/seal.steps", laid_grapevine_seal_steps)] }
def SealOpensSaid : Prop := sealOpensRow.holds Tryd.pinned (OpenSpec.ofChange sealOpensSpec)

/-- ITS FALSE NEIGHBOUR: 'it returns false'. Refute it at one input. -/
def sealOpensWrong : ChangeSpec := { name := "sealOpens", fn := fun _ => fun
  | [d1, d2] => { results := [.lit (.bool false)], args := [d1, d2] }
  | _ => none }
def SealOpensWrongFalsely : Prop := sealOpensRow.holds Tryd.pinned (OpenSpec.ofChange sealOpensWrong)

/-- 'grapevinelaw01.SealBack': WHATEVER THE INPUT: true; the input reads as it did. -/
def sealBackSpec : ChangeSpec := { name := "sealBack", fn := fun _ => fun
  | [d1, d2] => { results := [.lit (.bool true)], args := [d1, d2] }
  | _ => none }
def sealBackRow : OpenClaim := { program := "ytbhljlafijdodaadoor", sum := "922e1ce5877c2ce7af905ac989465b0286f48370589ee95e77448da9b913bdee", func := "grapevine/grapevinelaw01.SealBack", spec := "sealBack", named := ["grapevine/seal.steps"], apart := false, laid := [("grapevine/seal.steps", laid_grapevine_seal_steps)] }
def SealBackSaid : Prop := sealBackRow.holds Tryd.pinned (OpenSpec.ofChange sealBackSpec)

/-- ITS FALSE NEIGHBOUR: 'it returns false'. Refute it at one input. -/
def sealBackWrong : ChangeSpec := { name := "sealBack", fn := fun _ => fun
  | [d1, d2] => { results := [.lit (.bool false)], args := [d1, d2] }
  | _ => none }
def SealBackWrongFalsely : Prop := sealBackRow.holds Tryd.pinned (OpenSpec.ofChange sealBackWrong)

/-- 'grapevinelaw01.SealCuts': WHATEVER THE INPUT: true; the input reads as it did. -/
def sealCutsSpec : ChangeSpec := { name := "sealCuts", fn := fun _ => fun
  | [d1, d2, d3] => { results := [.lit (.bool true)], args := [d1, d2, d3] }
  | _ => none }
def sealCutsRow : OpenClaim := { program := "ytbhljlafijdodaadoor", sum := "922e1ce5877c2ce7af905ac989465b0286f48370589ee95e77448da9b913bdee", func := "grapevine/grapevinelaw01.SealCuts", spec := "sealCuts", named := ["grapevine/seal.steps"], apart := false, laid := [("grapevine/seal.steps", laid_grapevine_seal_steps)] }
def SealCutsSaid : Prop := sealCutsRow.holds Tryd.pinned (OpenSpec.ofChange sealCutsSpec)

/-- ITS FALSE NEIGHBOUR: 'it returns false'. Refute it at one input. -/
def sealCutsWrong : ChangeSpec := { name := "sealCuts", fn := fun _ => fun
  | [d1, d2, d3] => { results := [.lit (.bool false)], args := [d1, d2, d3] }
  | _ => none }
def SealCutsWrongFalsely : Prop := sealCutsRow.holds Tryd.pinned (OpenSpec.ofChange sealCutsWrong)

/-- 'grapevinelaw01.SealTurned': WHATEVER THE INPUT: true; the input reads as it did. -/
def sealTurnedSpec : ChangeSpec := { name := "sealTurned", fn := fun _ => fun
  | [d1, d2, d3] => { results := [.lit (.bool true)], args := [d1, d2, d3] }
  | _ => none }
def sealTurnedRow : OpenClaim := { program := "ytbhljlafijdodaadoor", sum := "922e1ce5877c2ce7af905ac989465b0286f48370589ee95e77448da9b913bdee", func := "grapevine/grapevinelaw01.SealTurned", spec := "sealTurned", named := ["grapevine/seal.steps"], apart := false, laid := [("grapevine/seal.steps", laid_grapevine_seal_steps)] }
def SealTurnedSaid : Prop := sealTurnedRow.holds Tryd.pinned (OpenSpec.ofChange sealTurnedSpec)

/-- ITS FALSE NEIGHBOUR: 'it returns false'. Refute it at one input. -/
def sealTurnedWrong : ChangeSpec := { name := "sealTurned", fn := fun _ => fun
  | [d1, d2, d3] => { results := [.lit (.bool false)], args := [d1, d2, d3] }
  | _ => none }
def SealTurnedWrongFalsely : Prop := sealTurnedRow.holds Tryd.pinned (OpenSpec.ofChange sealTurnedWrong)

/-- 'grapevinelaw01.SealScans': WHATEVER THE INPUT: true; the input reads as it did. -/
def sealScansSpec : ChangeSpec := { name := "sealScans", fn := fun _ => fun
  | [d] => { results := [.lit (.bool true)], args := [d] }
  | _ => none }
def sealScansRow : OpenClaim := { program := "ytbhljlafijdodaadoor", sum := "922e1ce5877c2ce7af905ac989465b0286f48370589ee95e77448da9b913bdee", func := "grapevine/grapevinelaw01.SealScans", spec := "sealScans", named := ["grapevine/seal.steps"], apart := false, laid := [("grapevine/seal.steps", laid_grapevine_seal_steps)] }
def SealScansSaid : Prop := sealScansRow.holds Tryd.pinned (OpenSpec.ofChange sealScansSpec)

/-- ITS FALSE NEIGHBOUR: 'it returns false'. Refute it at one input. -/
def sealScansWrong : ChangeSpec := { name := "sealScans", fn := fun _ => fun
  | [d] => { results := [.lit (.bool false)], args := [d] }
  | _ => none }
def SealScansWrongFalsely : Prop := sealScansRow.holds Tryd.pinned (OpenSpec.ofChange sealScansWrong)

/- THE SECOND FORM. 'bulk': how many values and letters a reading holds, each counted each time it is reached (what is shared counts as often as it is met; a slice's spare places count too). A statement '..UptoSaid' is the law's where the arguments, and the package variables that the reading takes, are together of bulk at most 1048576: NARROWER than '..Said'. Prove '..Said' where nothing that the law and all that it calls make is longer than what came in: it says more and counts as full. Else prove '..UptoSaid'. A law counts once. -/
mutual
def uptoBulk {H : Type} : DataW H → Nat
  | .lit (.string bytes) => bytes.length + 1
  | .lit _ => 1
  | .nil => 1
  | .ptr d => uptoBulk d + 1
  | .slice elems spare => uptoBulkAll elems + uptoBulkAll spare + 1
  | .agg parts => uptoBulkAll parts + 1
  | .iface _ d => uptoBulk d + 1
  | .map entries => uptoBulkEntries entries + 1
  | .held _ => 1
def uptoBulkAll {H : Type} : List (DataW H) → Nat
  | [] => 0
  | d :: r => uptoBulk d + uptoBulkAll r
def uptoBulkEntries {H : Type} : List (Lit × DataW H) → Nat
  | [] => 0
  | x :: r => uptoBulkEntry x + uptoBulkEntries r
def uptoBulkEntry {H : Type} : Lit × DataW H → Nat
  | (.string bytes, d) => bytes.length + uptoBulk d + 1
  | (_, d) => uptoBulk d + 1
 end
def uptoSmall : (H : Type) → List (DataW H) → Bool := fun _ ds => decide (uptoBulkAll ds ≤ 1048576)
def OpenSpec.upto (s : _root_.Go.ChangeSpec) : _root_.Go.OpenSpec := { _root_.Go.OpenSpec.ofChange s with cond := some uptoSmall }

/-- 'grapevinelaw01.SealLays', WHERE WHAT IT READS IS OF BULK AT MOST 1048576: true; the input reads as it did. -/
def sealLaysUptoRow : OpenClaim := { program := "ytbhljlafijdodaadoor", sum := "922e1ce5877c2ce7af905ac989465b0286f48370589ee95e77448da9b913bdee", func := "grapevine/grapevinelaw01.SealLays", spec := "sealLays", named := ["grapevine/seal.steps"], apart := false, laid := [("grapevine/seal.steps", laid_grapevine_seal_steps)], narrowed := true }
def SealLaysUptoSaid : Prop := sealLaysUptoRow.holds Tryd.pinned (OpenSpec.upto sealLaysSpec)

/-- 'grapevinelaw01.SealOpens', WHERE WHAT IT READS IS OF BULK AT MOST 1048576: true; the input reads as it did. -/
def sealOpensUptoRow : OpenClaim := { program := "ytbhljlafijdodaadoor", sum := "922e1ce5877c2ce7af905ac989465b0286f48370589ee95e77448da9b913bdee", func := "grapevine/grapevinelaw01.SealOpens", spec := "sealOpens", named := ["grapevine/seal.steps"], apart := false, laid := [("grapevine/seal.steps", laid_grapevine_seal_steps)], narrowed := true }
def SealOpensUptoSaid : Prop := sealOpensUptoRow.holds Tryd.pinned (OpenSpec.upto sealOpensSpec)

/-- 'grapevinelaw01.SealBack', WHERE WHAT IT READS IS OF BULK AT MOST 1048576: true; the input reads as it did. -/
def sealBackUptoRow : OpenClaim := { program := "ytbhljlafijdodaadoor", sum := "922e1ce5877c2ce7af905ac989465b0286f48370589ee95e77448da9b913bdee", func := "grapevine/grapevinelaw01.SealBack", spec := "sealBack", named := ["grapevine/seal.steps"], apart := false, laid := [("grapevine/seal.steps", laid_grapevine_seal_steps)], narrowed := true }
def SealBackUptoSaid : Prop := sealBackUptoRow.holds Tryd.pinned (OpenSpec.upto sealBackSpec)

/-- 'grapevinelaw01.SealCuts', WHERE WHAT IT READS IS OF BULK AT MOST 1048576: true; the input reads as it did. -/
def sealCutsUptoRow : OpenClaim := { program := "ytbhljlafijdodaadoor", sum := "922e1ce5877c2ce7af905ac989465b0286f48370589ee95e77448da9b913bdee", func := "grapevine/grapevinelaw01.SealCuts", spec := "sealCuts", named := ["grapevine/seal.steps"], apart := false, laid := [("grapevine/seal.steps", laid_grapevine_seal_steps)], narrowed := true }
def SealCutsUptoSaid : Prop := sealCutsUptoRow.holds Tryd.pinned (OpenSpec.upto sealCutsSpec)

/-- 'grapevinelaw01.SealTurned', WHERE WHAT IT READS IS OF BULK AT MOST 1048576: true; the input reads as it did. -/
def sealTurnedUptoRow : OpenClaim := { program := "ytbhljlafijdodaadoor", sum := "922e1ce5877c2ce7af905ac989465b0286f48370589ee95e77448da9b913bdee", func := "grapevine/grapevinelaw01.SealTurned", spec := "sealTurned", named := ["grapevine/seal.steps"], apart := false, laid := [("grapevine/seal.steps", laid_grapevine_seal_steps)], narrowed := true }
def SealTurnedUptoSaid : Prop := sealTurnedUptoRow.holds Tryd.pinned (OpenSpec.upto sealTurnedSpec)

/-- 'grapevinelaw01.SealScans', WHERE WHAT IT READS IS OF BULK AT MOST 1048576: true; the input reads as it did. -/
def sealScansUptoRow : OpenClaim := { program := "ytbhljlafijdodaadoor", sum := "922e1ce5877c2ce7af905ac989465b0286f48370589ee95e77448da9b913bdee", func := "grapevine/grapevinelaw01.SealScans", spec := "sealScans", named := ["grapevine/seal.steps"], apart := false, laid := [("grapevine/seal.steps", laid_grapevine_seal_steps)], narrowed := true }
def SealScansUptoSaid : Prop := sealScansUptoRow.holds Tryd.pinned (OpenSpec.upto sealScansSpec)

end Rows
end Go.Proofs.YtbhljlafijdodaaDoor
