/- Client: the closed facts of its row, the fourth part. -/
import Derived.Test.YtblcigmggdiccaaGreatDoorPart26
set_option linter.unusedSectionVars false
set_option linter.unusedSimpArgs false
set_option linter.unusedVariables false
set_option maxRecDepth 100000
namespace Go.Proofs.YtblcigmggdiccaaGreatDoor
open Go Go.Conc Go.ConcM Go.Tame Go.Proofs Go.ChangeShapes Go.Mem Go.Proofs.Shardlog
section
theorem client_q26:((Rows.clientRow.lifted == Tryz.pinned.checked.prog.liftsFinal))=true:=by kernel_rfl
theorem client_q27:((Tryz.pinned.checked.prog.make == some Rows.clientRow.make))=true:=by kernel_rfl
theorem client_q28:((Rows.clientRow.kinds == (if Rows.clientRow.domain.isEmpty then [] else Tryz.f4.params.toList.map fun t=>match Tryz.pinned.checked.prog.underlying t with|some (.int k)=>some k|_=>none)))=true:=by kernel_rfl
theorem client_q29:((Rows.clientRow.pinned == Rows.clientRow.pinnedBy))=true:=by kernel_rfl
theorem client_q30:((Rows.clientRow.veiled == (Tryz.f4.params.toList++Rows.clientSpec.plain.varTypes Tryz.pinned.checked.prog++Tryz.f4.resultTypes.toList).any (Tryz.pinned.checked.prog.veiledRec ·)))=true:=by kernel_rfl
theorem client_q31:(Rows.clientRow.veiledFits Tryz.pinned.checked.prog Tryz.f4.params.toList (Tryz.f4.params.toList++Rows.clientSpec.plain.varTypes Tryz.pinned.checked.prog++Tryz.f4.resultTypes.toList))=true:=by kernel_rfl
end
end Go.Proofs.YtblcigmggdiccaaGreatDoor
