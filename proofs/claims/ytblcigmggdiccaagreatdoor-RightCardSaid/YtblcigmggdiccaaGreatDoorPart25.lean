/- Right: the closed facts of its row. -/
import Derived.Test.YtblcigmggdiccaaGreatDoorPart23
set_option linter.unusedSectionVars false
set_option linter.unusedSimpArgs false
set_option linter.unusedVariables false
set_option maxRecDepth 100000
namespace Go.Proofs.YtblcigmggdiccaaGreatDoor
open Go Go.Conc Go.ConcM Go.Tame Go.Proofs Go.ChangeShapes Go.Mem Go.Proofs.Shardlog
theorem right_closed : joinedFacts Tryz.pinned.checked.prog 3 Tryz.f3 Rows.rightSpec Rows.rightRow = true := by kernel_rfl
end Go.Proofs.YtblcigmggdiccaaGreatDoor
