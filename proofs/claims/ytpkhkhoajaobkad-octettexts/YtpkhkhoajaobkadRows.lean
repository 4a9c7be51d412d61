/-
  No cell of these rows narrows 'for every input' (looked for: loops, veiled, ifaces, maps, wideKeys, modest, calm, conditions, laid).
  DERIVED. THE GIVEN ROWS OF THIS SEAT. 6 by the template 'for every input the law returns true; each argument reads behind the call as it read before'; 0 by the template 'total and deterministic' (their statements: YtpkhkhoajaobkadTotals.lean).
  GIVEN WITH THE SEED: the statements are not yours to turn. If you find one false, say at which input.
  Laid BY PROGRAM, IN A SANDBOX (cutbox-rows.mjs): the forced cells as the released guide's own fill.sh prints them over the translation 8e5366c6aed2d928… (all of the seat's roots in one cut). By AI agents, Wed Nov 11 2026. No macro, syntax, notation, axiom, sorry.
-/
import Derived.Test.YtpkhkhoajaobkadChecked
import GoSem.Claim
import GoSem.ClaimJoined
import GoSem.ClaimMapViews
import Derived.JoinedTies
import Derived.KernelRfl
namespace Go.Proofs.Ytpkhkhoajaobkad
/- THE CELL 'sum', in the pinned program and in every row, IS THE sha256 OF THE DUMP (.gsa) THAT YtpkhkhoajaobkadProg.lean LOADS. Nothing in Lean hashes anything: it is a label: what it is worth is what the hold of that sum in a sandbox is worth. -/
noncomputable def Try.pinned : Pinned := { name := "ytpkhkhoajaobkad", sum := "8e5366c6aed2d9281619cb75fe4280778547e1a072352b3a9932271655dafbc4", checked := Try.checked }
namespace Rows
def none {H : Type} : Left H := { results := [], args := [] }

/-- 'grapevinelaw02.OctetTexts': WHATEVER THE INPUT: true; the input reads as it did. -/
def octetTextsSpec : ChangeSpec := { name := "octetTexts", fn := fun _ => fun
  | [d1, d2, d3] => { results := [.lit (.bool true)], args := [d1, d2, d3] }
  | _ => none }
def octetTextsRow : OpenClaim := { program := "ytpkhkhoajaobkad", sum := "8e5366c6aed2d9281619cb75fe4280778547e1a072352b3a9932271655dafbc4", func := "grapevine/grapevinelaw02.OctetTexts", spec := "octetTexts", apart := false }
def OctetTextsSaid : Prop := octetTextsRow.holds Try.pinned (OpenSpec.ofChange octetTextsSpec)

/-- ITS FALSE NEIGHBOUR: 'it returns false'. Refute it at one input. -/
def octetTextsWrong : ChangeSpec := { name := "octetTexts", fn := fun _ => fun
  | [d1, d2, d3] => { results := [.lit (.bool false)], args := [d1, d2, d3] }
  | _ => none }
def OctetTextsWrongFalsely : Prop := octetTextsRow.holds Try.pinned (OpenSpec.ofChange octetTextsWrong)

/-- 'grapevinelaw02.OctetTextBack': WHATEVER THE INPUT: true; the input reads as it did. -/
def octetTextBackSpec : ChangeSpec := { name := "octetTextBack", fn := fun _ => fun
  | [d1, d2] => { results := [.lit (.bool true)], args := [d1, d2] }
  | _ => none }
def octetTextBackRow : OpenClaim := { program := "ytpkhkhoajaobkad", sum := "8e5366c6aed2d9281619cb75fe4280778547e1a072352b3a9932271655dafbc4", func := "grapevine/grapevinelaw02.OctetTextBack", spec := "octetTextBack", apart := false }
def OctetTextBackSaid : Prop := octetTextBackRow.holds Try.pinned (OpenSpec.ofChange octetTextBackSpec)

/-- ITS FALSE NEIGHBOUR: 'it returns false'. Refute it at one input. -/
def octetTextBackWrong : ChangeSpec := { name := "octetTextBack", fn := fun _ => fun
  | [d1, d2] => { results := [.lit (.bool false)], args := [d1, d2] }
  | _ => none }
def OctetTextBackWrongFalsely : Prop := octetTextBackRow.holds Try.pinned (OpenSpec.ofChange octetTextBackWrong)

/-- 'grapevinelaw02.OctetKeys': WHATEVER THE INPUT: true; the input reads as it did. -/
def octetKeysSpec : ChangeSpec := { name := "octetKeys", fn := fun _ => fun
  | [d1, d2, d3] => { results := [.lit (.bool true)], args := [d1, d2, d3] }
  | _ => none }
def octetKeysRow : OpenClaim := { program := "ytpkhkhoajaobkad", sum := "8e5366c6aed2d9281619cb75fe4280778547e1a072352b3a9932271655dafbc4", func := "grapevine/grapevinelaw02.OctetKeys", spec := "octetKeys", apart := false }
def OctetKeysSaid : Prop := octetKeysRow.holds Try.pinned (OpenSpec.ofChange octetKeysSpec)

/-- ITS FALSE NEIGHBOUR: 'it returns false'. Refute it at one input. -/
def octetKeysWrong : ChangeSpec := { name := "octetKeys", fn := fun _ => fun
  | [d1, d2, d3] => { results := [.lit (.bool false)], args := [d1, d2, d3] }
  | _ => none }
def OctetKeysWrongFalsely : Prop := octetKeysRow.holds Try.pinned (OpenSpec.ofChange octetKeysWrong)

/-- 'grapevinelaw02.OctetOrders': WHATEVER THE INPUT: true; the input reads as it did. -/
def octetOrdersSpec : ChangeSpec := { name := "octetOrders", fn := fun _ => fun
  | [d1, d2, d3] => { results := [.lit (.bool true)], args := [d1, d2, d3] }
  | _ => none }
def octetOrdersRow : OpenClaim := { program := "ytpkhkhoajaobkad", sum := "8e5366c6aed2d9281619cb75fe4280778547e1a072352b3a9932271655dafbc4", func := "grapevine/grapevinelaw02.OctetOrders", spec := "octetOrders", apart := false }
def OctetOrdersSaid : Prop := octetOrdersRow.holds Try.pinned (OpenSpec.ofChange octetOrdersSpec)

/-- ITS FALSE NEIGHBOUR: 'it returns false'. Refute it at one input. -/
def octetOrdersWrong : ChangeSpec := { name := "octetOrders", fn := fun _ => fun
  | [d1, d2, d3] => { results := [.lit (.bool false)], args := [d1, d2, d3] }
  | _ => none }
def OctetOrdersWrongFalsely : Prop := octetOrdersRow.holds Try.pinned (OpenSpec.ofChange octetOrdersWrong)

/-- 'grapevinelaw02.OctetKeyBack': WHATEVER THE INPUT: true; the input reads as it did. -/
def octetKeyBackSpec : ChangeSpec := { name := "octetKeyBack", fn := fun _ => fun
  | [d1, d2] => { results := [.lit (.bool true)], args := [d1, d2] }
  | _ => none }
def octetKeyBackRow : OpenClaim := { program := "ytpkhkhoajaobkad", sum := "8e5366c6aed2d9281619cb75fe4280778547e1a072352b3a9932271655dafbc4", func := "grapevine/grapevinelaw02.OctetKeyBack", spec := "octetKeyBack", apart := false }
def OctetKeyBackSaid : Prop := octetKeyBackRow.holds Try.pinned (OpenSpec.ofChange octetKeyBackSpec)

/-- ITS FALSE NEIGHBOUR: 'it returns false'. Refute it at one input. -/
def octetKeyBackWrong : ChangeSpec := { name := "octetKeyBack", fn := fun _ => fun
  | [d1, d2] => { results := [.lit (.bool false)], args := [d1, d2] }
  | _ => none }
def OctetKeyBackWrongFalsely : Prop := octetKeyBackRow.holds Try.pinned (OpenSpec.ofChange octetKeyBackWrong)

/-- 'grapevinelaw02.OctetJoins': WHATEVER THE INPUT: true; the input reads as it did. -/
def octetJoinsSpec : ChangeSpec := { name := "octetJoins", fn := fun _ => fun
  | [d1, d2, d3] => { results := [.lit (.bool true)], args := [d1, d2, d3] }
  | _ => none }
def octetJoinsRow : OpenClaim := { program := "ytpkhkhoajaobkad", sum := "8e5366c6aed2d9281619cb75fe4280778547e1a072352b3a9932271655dafbc4", func := "grapevine/grapevinelaw02.OctetJoins", spec := "octetJoins", apart := false }
def OctetJoinsSaid : Prop := octetJoinsRow.holds Try.pinned (OpenSpec.ofChange octetJoinsSpec)

/-- ITS FALSE NEIGHBOUR: 'it returns false'. Refute it at one input. -/
def octetJoinsWrong : ChangeSpec := { name := "octetJoins", fn := fun _ => fun
  | [d1, d2, d3] => { results := [.lit (.bool false)], args := [d1, d2, d3] }
  | _ => none }
def OctetJoinsWrongFalsely : Prop := octetJoinsRow.holds Try.pinned (OpenSpec.ofChange octetJoinsWrong)

/- THE SECOND FORM. 'bulk': how many values and letters a reading holds, each counted each time it is reached (what is shared counts as often as it is met; a slice's spare places count too). A statement '..UptoSaid' is the law's where the arguments, and the package variables that the reading takes, are together of bulk at most 1048576: NARROWER than '..Said'. Prove '..Said' where nothing that the law and all that it calls make is longer than what came in: it says more and counts as full. Else prove '..UptoSaid'. A law counts once. -/
mutual
def uptoBulk {H : Type} : DataW H → Nat
  | .lit (.string bytes) => bytes.length + 1
  | .lit _ => 1
  | .nil => 1
  | .ptr d => uptoBulk d + 1
  | .slice elems spare => uptoBulkAll elems + uptoBulkAll spare + 1
  | .agg parts => uptoBulkAll parts + 1
  | .iface _ d => uptoBulk d + 1
  | .map entries => uptoBulkEntries entries + 1
  | .held _ => 1
def uptoBulkAll {H : Type} : List (DataW H) → Nat
  | [] => 0
  | d :: r => uptoBulk d + uptoBulkAll r
def uptoBulkEntries {H : Type} : List (Lit × DataW H) → Nat
  | [] => 0
  | x :: r => uptoBulkEntry x + uptoBulkEntries r
def uptoBulkEntry {H : Type} : Lit × DataW H → Nat
  | (.string bytes, d) => bytes.length + uptoBulk d + 1
  | (_, d) => uptoBulk d + 1
 end
def uptoSmall : (H : Type) → List (DataW H) → Bool := fun _ ds => decide (uptoBulkAll ds ≤ 1048576)
def OpenSpec.upto (s : _root_.Go.ChangeSpec) : _root_.Go.OpenSpec := { _root_.Go.OpenSpec.ofChange s with cond := some uptoSmall }

/-- 'grapevinelaw02.OctetTexts', WHERE WHAT IT READS IS OF BULK AT MOST 1048576: true; the input reads as it did. -/
def octetTextsUptoRow : OpenClaim := { program := "ytpkhkhoajaobkad", sum := "8e5366c6aed2d9281619cb75fe4280778547e1a072352b3a9932271655dafbc4", func := "grapevine/grapevinelaw02.OctetTexts", spec := "octetTexts", apart := false, narrowed := true }
def OctetTextsUptoSaid : Prop := octetTextsUptoRow.holds Try.pinned (OpenSpec.upto octetTextsSpec)

/-- 'grapevinelaw02.OctetTextBack', WHERE WHAT IT READS IS OF BULK AT MOST 1048576: true; the input reads as it did. -/
def octetTextBackUptoRow : OpenClaim := { program := "ytpkhkhoajaobkad", sum := "8e5366c6aed2d9281619cb75fe4280778547e1a072352b3a9932271655dafbc4", func := "grapevine/grapevinelaw02.OctetTextBack", spec := "octetTextBack", apart := false, narrowed := true }
def OctetTextBackUptoSaid : Prop := octetTextBackUptoRow.holds Try.pinned (OpenSpec.upto octetTextBackSpec)

/-- 'grapevinelaw02.OctetKeys', WHERE WHAT IT READS IS OF BULK AT MOST 1048576: true; the input reads as it did. -/
def octetKeysUptoRow : OpenClaim := { program := "ytpkhkhoajaobkad", sum := "8e5366c6aed2d9281619cb75fe4280778547e1a072352b3a9932271655dafbc4", func := "grapevine/grapevinelaw02.OctetKeys", spec := "octetKeys", apart := false, narrowed := true }
def OctetKeysUptoSaid : Prop := octetKeysUptoRow.holds Try.pinned (OpenSpec.upto octetKeysSpec)

/-- 'grapevinelaw02.OctetOrders', WHERE WHAT IT READS IS OF BULK AT MOST 1048576: true; the input reads as it did. -/
def octetOrdersUptoRow : OpenClaim := { program := "ytpkhkhoajaobkad", sum := "8e5366c6aed2d9281619cb75fe4280778547e1a072352b3a9932271655dafbc4", func := "grapevine/grapevinelaw02.OctetOrders", spec := "octetOrders", apart := false, narrowed := true }
def OctetOrdersUptoSaid : Prop := octetOrdersUptoRow.holds Try.pinned (OpenSpec.upto octetOrdersSpec)

/-- 'grapevinelaw02.OctetKeyBack', WHERE WHAT IT READS IS OF BULK AT MOST 1048576: true; the input reads as it did. -/
def octetKeyBackUptoRow : OpenClaim := { program := "ytpkhkhoajaobkad", sum := "8e5366c6aed2d9281619cb75fe4280778547e1a072352b3a9932271655dafbc4", func := "grapevine/grapevinelaw02.OctetKeyBack", spec := "octetKeyBack", apart := false, narrowed := true }
def OctetKeyBackUptoSaid : Prop := octetKeyBackUptoRow.holds Try.pinned (OpenSpec.upto octetKeyBackSpec)

/-- 'grapevinelaw02.OctetJoins', WHERE WHAT IT READS IS OF BULK AT MOST 1048576: true; the input reads as it did. -/
def octetJoinsUptoRow : OpenClaim := { program := "ytpkhkhoajaobkad", sum := "8e5366c6aed2d9281619cb75fe4280778547e1a072352b3a9932271655dafbc4", func := "grapevine/grapevinelaw02.OctetJoins", spec := "octetJoins", apart := false, narrowed := true }
def OctetJoinsUptoSaid : Prop := octetJoinsUptoRow.holds Try.pinned (OpenSpec.upto octetJoinsSpec)

end Rows
end Go.Proofs.Ytpkhkhoajaobkad
