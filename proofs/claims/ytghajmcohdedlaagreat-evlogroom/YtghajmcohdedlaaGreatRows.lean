/-
  No cell of these rows narrows 'for every input' (looked for: loops, veiled, ifaces, maps, wideKeys, modest, calm, conditions, laid).
  DERIVED. THE GIVEN ROWS OF THIS SEAT. 5 by the template 'for every input the law returns true; each argument reads behind the call as it read before'; 0 by the template 'total and deterministic' (their statements: YtghajmcohdedlaaGreatTotals.lean).
  GIVEN WITH THE SEED: the statements are not yours to turn. If you find one false, say at which input.
  Laid BY PROGRAM, IN A SANDBOX (cutbox-rows.mjs): the forced cells as the released guide's own fill.sh prints them over the translation e0e8fb0b040dddcf… (all of the seat's roots in one cut). By AI agents, Wed Nov 11 2026. No macro, syntax, notation, axiom, sorry.
-/
import Derived.Test.YtghajmcohdedlaaGreatChecked
import GoSem.Claim
import GoSem.ClaimJoined
import GoSem.ClaimMapViews
import Derived.JoinedTies
import Derived.KernelRfl
namespace Go.Proofs.YtghajmcohdedlaaGreat
/- THE CELL 'sum', in the pinned program and in every row, IS THE sha256 OF THE DUMP (.gsa) THAT YtghajmcohdedlaaGreatProg.lean LOADS. Nothing in Lean hashes anything: it is a label: what it is worth is what the hold of that sum in a sandbox is worth. -/
noncomputable def Tryz.pinned : Pinned := { name := "ytghajmcohdedlaagreat", sum := "e0e8fb0b040dddcf598e41aa958e7f91fd20056e6769e753d8661e7a7320182a", checked := Tryz.checked }
namespace Rows
def none {H : Type} : Left H := { results := [], args := [] }

/-- 'grapevinelaw11.EvlogPlays': WHATEVER THE INPUT: true; the input reads as it did. -/
def evlogPlaysSpec : ChangeSpec := { name := "evlogPlays", fn := fun _ => fun
  | [d] => { results := [.lit (.bool true)], args := [d] }
  | _ => none }
def evlogPlaysRow : OpenClaim := { program := "ytghajmcohdedlaagreat", sum := "e0e8fb0b040dddcf598e41aa958e7f91fd20056e6769e753d8661e7a7320182a", func := "grapevine/grapevinelaw11.EvlogPlays", spec := "evlogPlays", unfollowed := true, recurses := true, apart := false }
def EvlogPlaysSaid : Prop := evlogPlaysRow.holds Tryz.pinned (OpenSpec.ofChange evlogPlaysSpec)

/-- ITS FALSE NEIGHBOUR: 'it returns false'. Refute it at one input. -/
def evlogPlaysWrong : ChangeSpec := { name := "evlogPlays", fn := fun _ => fun
  | [d] => { results := [.lit (.bool false)], args := [d] }
  | _ => none }
def EvlogPlaysWrongFalsely : Prop := evlogPlaysRow.holds Tryz.pinned (OpenSpec.ofChange evlogPlaysWrong)

/-- 'grapevinelaw11.EvlogReads': WHATEVER THE INPUT: true; the input reads as it did. -/
def evlogReadsSpec : ChangeSpec := { name := "evlogReads", fn := fun _ => fun
  | [d1, d2] => { results := [.lit (.bool true)], args := [d1, d2] }
  | _ => none }
def evlogReadsRow : OpenClaim := { program := "ytghajmcohdedlaagreat", sum := "e0e8fb0b040dddcf598e41aa958e7f91fd20056e6769e753d8661e7a7320182a", func := "grapevine/grapevinelaw11.EvlogReads", spec := "evlogReads", unfollowed := true, recurses := true, apart := false }
def EvlogReadsSaid : Prop := evlogReadsRow.holds Tryz.pinned (OpenSpec.ofChange evlogReadsSpec)

/-- ITS FALSE NEIGHBOUR: 'it returns false'. Refute it at one input. -/
def evlogReadsWrong : ChangeSpec := { name := "evlogReads", fn := fun _ => fun
  | [d1, d2] => { results := [.lit (.bool false)], args := [d1, d2] }
  | _ => none }
def EvlogReadsWrongFalsely : Prop := evlogReadsRow.holds Tryz.pinned (OpenSpec.ofChange evlogReadsWrong)

/-- 'grapevinelaw11.EvlogGrows': WHATEVER THE INPUT: true; the input reads as it did. -/
def evlogGrowsSpec : ChangeSpec := { name := "evlogGrows", fn := fun _ => fun
  | [d] => { results := [.lit (.bool true)], args := [d] }
  | _ => none }
def evlogGrowsRow : OpenClaim := { program := "ytghajmcohdedlaagreat", sum := "e0e8fb0b040dddcf598e41aa958e7f91fd20056e6769e753d8661e7a7320182a", func := "grapevine/grapevinelaw11.EvlogGrows", spec := "evlogGrows", unfollowed := true, recurses := true, apart := false }
def EvlogGrowsSaid : Prop := evlogGrowsRow.holds Tryz.pinned (OpenSpec.ofChange evlogGrowsSpec)

/-- ITS FALSE NEIGHBOUR: 'it returns false'. Refute it at one input. -/
def evlogGrowsWrong : ChangeSpec := { name := "evlogGrows", fn := fun _ => fun
  | [d] => { results := [.lit (.bool false)], args := [d] }
  | _ => none }
def EvlogGrowsWrongFalsely : Prop := evlogGrowsRow.holds Tryz.pinned (OpenSpec.ofChange evlogGrowsWrong)

/-- 'grapevinelaw11.EvlogRoom': WHATEVER THE INPUT: true; the input reads as it did. -/
def evlogRoomSpec : ChangeSpec := { name := "evlogRoom", fn := fun _ => fun
  | [d1, d2] => { results := [.lit (.bool true)], args := [d1, d2] }
  | _ => none }
def evlogRoomRow : OpenClaim := { program := "ytghajmcohdedlaagreat", sum := "e0e8fb0b040dddcf598e41aa958e7f91fd20056e6769e753d8661e7a7320182a", func := "grapevine/grapevinelaw11.EvlogRoom", spec := "evlogRoom", unfollowed := true, recurses := true, apart := false }
def EvlogRoomSaid : Prop := evlogRoomRow.holds Tryz.pinned (OpenSpec.ofChange evlogRoomSpec)

/-- ITS FALSE NEIGHBOUR: 'it returns false'. Refute it at one input. -/
def evlogRoomWrong : ChangeSpec := { name := "evlogRoom", fn := fun _ => fun
  | [d1, d2] => { results := [.lit (.bool false)], args := [d1, d2] }
  | _ => none }
def EvlogRoomWrongFalsely : Prop := evlogRoomRow.holds Tryz.pinned (OpenSpec.ofChange evlogRoomWrong)

/-- 'grapevinelaw11.EvlogRange': WHATEVER THE INPUT: true; the input reads as it did. -/
def evlogRangeSpec : ChangeSpec := { name := "evlogRange", fn := fun _ => fun
  | [d1, d2, d3] => { results := [.lit (.bool true)], args := [d1, d2, d3] }
  | _ => none }
def evlogRangeRow : OpenClaim := { program := "ytghajmcohdedlaagreat", sum := "e0e8fb0b040dddcf598e41aa958e7f91fd20056e6769e753d8661e7a7320182a", func := "grapevine/grapevinelaw11.EvlogRange", spec := "evlogRange", unfollowed := true, recurses := true, apart := false }
def EvlogRangeSaid : Prop := evlogRangeRow.holds Tryz.pinned (OpenSpec.ofChange evlogRangeSpec)

/-- ITS FALSE NEIGHBOUR: 'it returns false'. Refute it at one input. -/
def evlogRangeWrong : ChangeSpec := { name := "evlogRange", fn := fun _ => fun
  | [d1, d2, d3] => { results := [.lit (.bool false)], args := [d1, d2, d3] }
  | _ => none }
def EvlogRangeWrongFalsely : Prop := evlogRangeRow.holds Tryz.pinned (OpenSpec.ofChange evlogRangeWrong)

/- THE SECOND FORM. 'bulk': how many values and letters a reading holds, each counted each time it is reached (what is shared counts as often as it is met; a slice's spare places count too). A statement '..UptoSaid' is the law's where the arguments, and the package variables that the reading takes, are together of bulk at most 1048576: NARROWER than '..Said'. Prove '..Said' where nothing that the law and all that it calls make is longer than what came in: it says more and counts as full. Else prove '..UptoSaid'. A law counts once. -/
mutual
def uptoBulk {H : Type} : DataW H → Nat
  | .lit (.string bytes) => bytes.length + 1
  | .lit _ => 1
  | .nil => 1
  | .ptr d => uptoBulk d + 1
  | .slice elems spare => uptoBulkAll elems + uptoBulkAll spare + 1
  | .agg parts => uptoBulkAll parts + 1
  | .iface _ d => uptoBulk d + 1
  | .map entries => uptoBulkEntries entries + 1
  | .held _ => 1
def uptoBulkAll {H : Type} : List (DataW H) → Nat
  | [] => 0
  | d :: r => uptoBulk d + uptoBulkAll r
def uptoBulkEntries {H : Type} : List (Lit × DataW H) → Nat
  | [] => 0
  | x :: r => uptoBulkEntry x + uptoBulkEntries r
def uptoBulkEntry {H : Type} : Lit × DataW H → Nat
  | (.string bytes, d) => bytes.length + uptoBulk d + 1
  | (_, d) => uptoBulk d + 1
 end
def uptoSmall : (H : Type) → List (DataW H) → Bool := fun _ ds => decide (uptoBulkAll ds ≤ 1048576)
def OpenSpec.upto (s : _root_.Go.ChangeSpec) : _root_.Go.OpenSpec := { _root_.Go.OpenSpec.ofChange s with cond := some uptoSmall }

/-- 'grapevinelaw11.EvlogPlays', WHERE WHAT IT READS IS OF BULK AT MOST 1048576: true; the input reads as it did. -/
def evlogPlaysUptoRow : OpenClaim := { program := "ytghajmcohdedlaagreat", sum := "e0e8fb0b040dddcf598e41aa958e7f91fd20056e6769e753d8661e7a7320182a", func := "grapevine/grapevinelaw11.EvlogPlays", spec := "evlogPlays", unfollowed := true, recurses := true, apart := false, narrowed := true }
def EvlogPlaysUptoSaid : Prop := evlogPlaysUptoRow.holds Tryz.pinned (OpenSpec.upto evlogPlaysSpec)

/-- 'grapevinelaw11.EvlogReads', WHERE WHAT IT READS IS OF BULK AT MOST 1048576: true; the input reads as it did. -/
def evlogReadsUptoRow : OpenClaim := { program := "ytghajmcohdedlaagreat", sum := "e0e8fb0b040dddcf598e41aa958e7f91fd20056e6769e753d8661e7a7320182a", func := "grapevine/grapevinelaw11.EvlogReads", spec := "evlogReads", unfollowed := true, recurses := true, apart := false, narrowed := true }
def EvlogReadsUptoSaid : Prop := evlogReadsUptoRow.holds Tryz.pinned (OpenSpec.upto evlogReadsSpec)

/-- 'grapevinelaw11.EvlogGrows', WHERE WHAT IT READS IS OF BULK AT MOST 1048576: true; the input reads as it did. -/
def evlogGrowsUptoRow : OpenClaim := { program := "ytghajmcohdedlaagreat", sum := "e0e8fb0b040dddcf598e41aa958e7f91fd20056e6769e753d8661e7a7320182a", func := "grapevine/grapevinelaw11.EvlogGrows", spec := "evlogGrows", unfollowed := true, recurses := true, apart := false, narrowed := true }
def EvlogGrowsUptoSaid : Prop := evlogGrowsUptoRow.holds Tryz.pinned (OpenSpec.upto evlogGrowsSpec)

/-- 'grapevinelaw11.EvlogRoom', WHERE WHAT IT READS IS OF BULK AT MOST 1048576: true; the input reads as it did. -/
def evlogRoomUptoRow : OpenClaim := { program := "ytghajmcohdedlaagreat", sum := "e0e8fb0b040dddcf598e41aa958e7f91fd20056e6769e753d8661e7a7320182a", func := "grapevine/grapevinelaw11.EvlogRoom", spec := "evlogRoom", unfollowed := true, recurses := true, apart := false, narrowed := true }
def EvlogRoomUptoSaid : Prop := evlogRoomUptoRow.holds Tryz.pinned (OpenSpec.upto evlogRoomSpec)

/-- 'grapevinelaw11.EvlogRange', WHERE WHAT IT READS IS OF BULK AT MOST 1048576: true; the input reads as it did. -/
def evlogRangeUptoRow : OpenClaim := { program := "ytghajmcohdedlaagreat", sum := "e0e8fb0b040dddcf598e41aa958e7f91fd20056e6769e753d8661e7a7320182a", func := "grapevine/grapevinelaw11.EvlogRange", spec := "evlogRange", unfollowed := true, recurses := true, apart := false, narrowed := true }
def EvlogRangeUptoSaid : Prop := evlogRangeUptoRow.holds Tryz.pinned (OpenSpec.upto evlogRangeSpec)

end Rows
end Go.Proofs.YtghajmcohdedlaaGreat
