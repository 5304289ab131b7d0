/- Client: the closed facts of its row. -/
import Derived.Test.YtblcigmggdiccaaGreatDoorPart28
import Derived.Test.YtblcigmggdiccaaGreatDoorPart29
import Derived.Test.YtblcigmggdiccaaGreatDoorPart30
import Derived.Test.YtblcigmggdiccaaGreatDoorPart31
set_option linter.unusedSectionVars false
set_option linter.unusedSimpArgs false
set_option linter.unusedVariables false
set_option maxRecDepth 100000
namespace Go.Proofs.YtblcigmggdiccaaGreatDoor
open Go Go.Conc Go.ConcM Go.Tame Go.Proofs Go.ChangeShapes Go.Mem Go.Proofs.Shardlog
section
theorem and_t {a b:Bool}(h:a=true)(k:b=true):(a && b)=true:=by
  rw [h,k]
  rfl
theorem client_closed:joinedFacts Tryz.pinned.checked.prog 4 Tryz.f4 Rows.clientSpec Rows.clientRow=true:=by
  unfold joinedFacts
  exact and_t (and_t (and_t (and_t (and_t (and_t (and_t (and_t (and_t (and_t (and_t (and_t (and_t (and_t (and_t (and_t (and_t (and_t (and_t (and_t (and_t (and_t (and_t (and_t (and_t (and_t (and_t (and_t (and_t (and_t (and_t client_q0 client_q1) client_q2) client_q3) client_q4) client_q5) client_q6) client_q7) client_q8) client_q9) client_q10) client_q11) client_q12) client_q13) client_q14) client_q15) client_q16) client_q17) client_q18) client_q19) client_q20) client_q21) client_q22) client_q23) client_q24) client_q25) client_q26) client_q27) client_q28) client_q29) client_q30) client_q31
end
end Go.Proofs.YtblcigmggdiccaaGreatDoor
