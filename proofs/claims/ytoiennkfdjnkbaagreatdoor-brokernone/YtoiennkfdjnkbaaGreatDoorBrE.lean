import Derived.Test.YtoiennkfdjnkbaaGreatDoorBrC
set_option maxRecDepth 100000
set_option maxHeartbeats 8000000
namespace Go.Proofs.YtoiennkfdjnkbaaGreatDoor
open Go.ChangeShapes Go.WideShapes Go.ChangeAt Go.RowKit
namespace brokerNoneC
theorem facts:joinedFacts Tryz.pinned.checked.prog 4 Tryz.f4 (OpenSpec.ofChange Rows.brokerNoneSpec).bare Rows.brokerNoneRow=true:=(and2 (and2 (and2 (and2 (and2 (and2 (and2 (and2 (and2 (and2 (and2 (and2 (and2 (and2 (and2 (and2 (and2 (and2 (and2 (and2 (and2 (and2 (and2 (and2 (and2 (and2 (and2 (and2 (and2 (and2 (and2 c0 c1) c2) c3) c4) c5) c6) c7) c8) c9) c10) c11) c12) c13) c14) c15) c16) c17) c18) c19) c20) c21) c22) c23) c24) c25) c26) c27) c28) c29) c30) c31)
theorem wrap:(Tryz.f4).isWrapper Tryz.pinned.checked.prog Rows.brokerNoneRow.wrapper Rows.brokerNoneRow.mainSum:=by unfold Func.isWrapper;first | (rw [if_pos (by decide +kernel)];kernel_rfl) | (rw [if_neg (by decide +kernel)];exact ⟨rfl,rfl⟩)
theorem named_:Tryz.pinned.checked.prog.funcNamed Rows.brokerNoneRow.func=some 4:=by kernel_rfl
theorem inst:(Tryz.f4).isInstance Tryz.pinned.checked.prog Rows.brokerNoneRow.origin Rows.brokerNoneRow.targs:=of_decide_eq_true (by kernel_rfl)
theorem looks:true=Tryz.pinned.checked.prog.looks []:=by kernel_rfl
theorem goes:false=Rows.brokerNoneRow.goesBy Tryz.pinned.checked.prog:=by kernel_rfl
theorem wf:Rows.brokerNoneRow.wfByText (OpenSpec.ofChange Rows.brokerNoneSpec)=true:=by kernel_rfl
end brokerNoneC
end Go.Proofs.YtoiennkfdjnkbaaGreatDoor
