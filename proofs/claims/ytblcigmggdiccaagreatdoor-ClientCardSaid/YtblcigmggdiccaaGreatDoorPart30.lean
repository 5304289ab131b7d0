/- Client: the closed facts of its row, the third part. -/
import Derived.Test.YtblcigmggdiccaaGreatDoorPart26
set_option linter.unusedSectionVars false
set_option linter.unusedSimpArgs false
set_option linter.unusedVariables false
set_option maxRecDepth 100000
namespace Go.Proofs.YtblcigmggdiccaaGreatDoor
open Go Go.Conc Go.ConcM Go.Tame Go.Proofs Go.ChangeShapes Go.Mem Go.Proofs.Shardlog
section
theorem client_q13:((Rows.clientRow.maps == (Tryz.f4.params.toList++Rows.clientSpec.plain.varTypes Tryz.pinned.checked.prog).any (Tryz.pinned.checked.prog.mapsRec ·)))=true:=by kernel_rfl
theorem client_q14:((Rows.clientRow.ifaces == (Tryz.f4.params.toList++Rows.clientSpec.plain.varTypes Tryz.pinned.checked.prog).any (Tryz.pinned.checked.prog.ifacesRec ·)))=true:=by kernel_rfl
theorem client_q15:((Rows.clientRow.mapsOut == Tryz.pinned.checked.prog.mapsAmong Tryz.f4.resultTypes.toList))=true:=by kernel_rfl
theorem client_q16:((Rows.clientRow.loops == (Tryz.f4.params.toList++Rows.clientSpec.plain.varTypes Tryz.pinned.checked.prog).any (Tryz.pinned.checked.prog.loopsFrom ·)))=true:=by kernel_rfl
theorem client_q17:((Rows.clientRow.wideKeys == (Tryz.f4.params.toList++Rows.clientSpec.plain.varTypes Tryz.pinned.checked.prog++Tryz.f4.resultTypes.toList).any (Tryz.pinned.checked.prog.wideKeysFrom ·)))=true:=by kernel_rfl
theorem client_q18:(Rows.clientSpec.vars.all (Tryz.pinned.checked.prog.varReadable ·))=true:=by kernel_rfl
theorem client_q19:(Tryz.f4.resultTypes.all (fun t=>Tryz.pinned.checked.prog.readableRec t && decide (t<Tryz.pinned.checked.prog.types.size)))=true:=by kernel_rfl
theorem client_q20:((Rows.clientRow.ifacesOut == Tryz.f4.resultTypes.toList.any (Tryz.pinned.checked.prog.ifacesRec ·)))=true:=by kernel_rfl
theorem client_q21:((Rows.clientRow.loopsOut == Tryz.f4.resultTypes.toList.any (Tryz.pinned.checked.prog.loopsFrom ·)))=true:=by kernel_rfl
theorem client_q22:((Rows.clientRow.plainKeys == Tryz.pinned.checked.prog.plainKeys))=true:=by kernel_rfl
theorem client_q23:(Rows.clientRow.shortTexts.isNone)=true:=by kernel_rfl
theorem client_q24:(Tryz.pinned.checked.prog.stopsHeard)=true:=by kernel_rfl
theorem client_q25:(Tryz.pinned.checked.prog.mayEnter)=true:=by kernel_rfl
end
end Go.Proofs.YtblcigmggdiccaaGreatDoor
