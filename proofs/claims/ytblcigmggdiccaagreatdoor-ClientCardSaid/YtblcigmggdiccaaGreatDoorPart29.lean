/- Client: the closed facts of its row, the second part. -/
import Derived.Test.YtblcigmggdiccaaGreatDoorPart26
set_option linter.unusedSectionVars false
set_option linter.unusedSimpArgs false
set_option linter.unusedVariables false
set_option maxRecDepth 100000
namespace Go.Proofs.YtblcigmggdiccaaGreatDoor
open Go Go.Conc Go.ConcM Go.Tame Go.Proofs Go.ChangeShapes Go.Mem Go.Proofs.Shardlog
section
theorem client_q9:((Rows.clientRow.inPlace == Tryz.pinned.checked.prog.inPlace 4))=true:=by kernel_rfl
theorem client_q10:((Rows.clientRow.unfollowed == Tryz.pinned.checked.prog.unfollowed 4))=true:=by kernel_rfl
theorem client_q11:((Rows.clientRow.recurses == Tryz.pinned.checked.prog.recurses 4))=true:=by kernel_rfl
theorem client_q12:((Rows.clientRow.named == Tryz.pinned.checked.prog.varsNamed 4))=true:=by kernel_rfl
end
end Go.Proofs.YtblcigmggdiccaaGreatDoor
