import Derived.Test.YtoiennkfdjnkbaaGreatDoorPk50
import Derived.JoinedCond
set_option maxRecDepth 100000
set_option maxHeartbeats 8000000
namespace Go.Proofs.YtoiennkfdjnkbaaGreatDoor
open Go.ChangeShapes Go.WideShapes Go.ChangeAt Go.RowKit
namespace brokerNoneC
abbrev SP:=(OpenSpec.ofChange Rows.brokerNoneSpec).bare
theorem and2 {a b:Bool} (h:a=true) (k:b=true):(a && b)=true:=by rw [h,k];rfl
theorem c0:(Rows.brokerNoneRow.wf (OpenSpec.ofChange SP))=true:=by kernel_rfl
theorem c1:(laidOutB Tryz.prog)=true:=by kernel_rfl
theorem c2:(mapsRowed Tryz.prog)=true:=by kernel_rfl
theorem c3:(Tryz.f4.params.all (Tryz.prog.readableRec ·))=true:=by kernel_rfl
theorem c4:(namedTie Tryz.prog Rows.brokerNoneRow.named SP.vars)=true:=by kernel_rfl
theorem c5:((Rows.brokerNoneRow.stops == []))=true:=by kernel_rfl
theorem c6:((Tryz.prog.stops == []))=true:=by kernel_rfl
theorem c7:((Rows.brokerNoneRow.knobs == []))=true:=by kernel_rfl
theorem c8:((Tryz.prog.stopKnobs == []))=true:=by kernel_rfl
theorem c9:((Rows.brokerNoneRow.inPlace == Tryz.prog.inPlace 4))=true:=by kernel_rfl
theorem c10:((Rows.brokerNoneRow.unfollowed == Tryz.prog.unfollowed 4))=true:=by kernel_rfl
theorem c11:((Rows.brokerNoneRow.recurses == Tryz.prog.recurses 4))=true:=by kernel_rfl
theorem c12:((Rows.brokerNoneRow.named == Tryz.prog.varsNamed 4))=true:=by kernel_rfl
theorem c13:((Rows.brokerNoneRow.maps == (Tryz.f4.params.toList++SP.plain.varTypes Tryz.prog).any (Tryz.prog.mapsRec ·)))=true:=by kernel_rfl
theorem c14:((Rows.brokerNoneRow.ifaces == (Tryz.f4.params.toList++SP.plain.varTypes Tryz.prog).any (Tryz.prog.ifacesRec ·)))=true:=by kernel_rfl
theorem c15:((Rows.brokerNoneRow.mapsOut == Tryz.prog.mapsAmong Tryz.f4.resultTypes.toList))=true:=by kernel_rfl
theorem c16:((Rows.brokerNoneRow.loops == (Tryz.f4.params.toList++SP.plain.varTypes Tryz.prog).any (Tryz.prog.loopsFrom ·)))=true:=by kernel_rfl
theorem c17:((Rows.brokerNoneRow.wideKeys == (Tryz.f4.params.toList++SP.plain.varTypes Tryz.prog++Tryz.f4.resultTypes.toList).any (Tryz.prog.wideKeysFrom ·)))=true:=by kernel_rfl
theorem c18:(SP.vars.all (Tryz.prog.varReadable ·))=true:=by kernel_rfl
theorem c19:(Tryz.f4.resultTypes.all (fun t=>Tryz.prog.readableRec t && decide (t<Tryz.prog.types.size)))=true:=by kernel_rfl
theorem c20:((Rows.brokerNoneRow.ifacesOut == Tryz.f4.resultTypes.toList.any (Tryz.prog.ifacesRec ·)))=true:=by kernel_rfl
theorem c21:((Rows.brokerNoneRow.loopsOut == Tryz.f4.resultTypes.toList.any (Tryz.prog.loopsFrom ·)))=true:=by kernel_rfl
theorem c22:((Rows.brokerNoneRow.plainKeys == Tryz.prog.plainKeys))=true:=by kernel_rfl
theorem c23:(Rows.brokerNoneRow.shortTexts.isNone)=true:=by kernel_rfl
theorem c24:(Tryz.prog.stopsHeard)=true:=by kernel_rfl
theorem c25:(Tryz.prog.mayEnter)=true:=by kernel_rfl
theorem c26:((Rows.brokerNoneRow.lifted == Tryz.prog.liftsFinal))=true:=by kernel_rfl
theorem c27:((Tryz.prog.make == some Rows.brokerNoneRow.make))=true:=by kernel_rfl
theorem c28:((Rows.brokerNoneRow.kinds == (if Rows.brokerNoneRow.domain.isEmpty then [] else Tryz.f4.params.toList.map fun t=>match Tryz.prog.underlying t with | some (.int k)=>some k | _=>none)))=true:=by kernel_rfl
theorem c29:((Rows.brokerNoneRow.pinned == Rows.brokerNoneRow.pinnedBy))=true:=by kernel_rfl
theorem c30:((Rows.brokerNoneRow.veiled == (Tryz.f4.params.toList++SP.plain.varTypes Tryz.prog++Tryz.f4.resultTypes.toList).any (Tryz.prog.veiledRec ·)))=true:=by kernel_rfl
theorem c31:(Rows.brokerNoneRow.veiledFits Tryz.prog Tryz.f4.params.toList (Tryz.f4.params.toList++SP.plain.varTypes Tryz.prog++Tryz.f4.resultTypes.toList))=true:=by kernel_rfl
end brokerNoneC
end Go.Proofs.YtoiennkfdjnkbaaGreatDoor
