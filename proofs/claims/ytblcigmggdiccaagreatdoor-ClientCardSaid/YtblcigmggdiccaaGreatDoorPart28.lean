/- Client: the closed facts of its row, the first part. -/
import Derived.Test.YtblcigmggdiccaaGreatDoorPart26
set_option linter.unusedSectionVars false
set_option linter.unusedSimpArgs false
set_option linter.unusedVariables false
set_option maxRecDepth 100000
namespace Go.Proofs.YtblcigmggdiccaaGreatDoor
open Go Go.Conc Go.ConcM Go.Tame Go.Proofs Go.ChangeShapes Go.Mem Go.Proofs.Shardlog
section
theorem client_q0:(Rows.clientRow.wf (OpenSpec.ofChange Rows.clientSpec))=true:=by kernel_rfl
theorem client_q1:(laidOutB Tryz.pinned.checked.prog)=true:=by kernel_rfl
theorem client_q2:(mapsRowed Tryz.pinned.checked.prog)=true:=by kernel_rfl
theorem client_q3:(Tryz.f4.params.all (Tryz.pinned.checked.prog.readableRec ·))=true:=by kernel_rfl
theorem client_q4:(namedTie Tryz.pinned.checked.prog Rows.clientRow.named Rows.clientSpec.vars)=true:=by kernel_rfl
theorem client_q5:((Rows.clientRow.stops == []))=true:=by kernel_rfl
theorem client_q6:((Tryz.pinned.checked.prog.stops == []))=true:=by kernel_rfl
theorem client_q7:((Rows.clientRow.knobs == []))=true:=by kernel_rfl
theorem client_q8:((Tryz.pinned.checked.prog.stopKnobs == []))=true:=by kernel_rfl
end
end Go.Proofs.YtblcigmggdiccaaGreatDoor
