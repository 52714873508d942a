import Derived.Test.YtckekpcnpccpmaaGreatRows
import Derived.ProofKit
set_option linter.unusedVariables false
set_option linter.unusedSimpArgs false
set_option linter.unusedSectionVars false
namespace Go.Proofs.YtckekpcnpccpmaaGreat.grades
open Go.ChangeShapes Go.WideShapes Go.ChangeAt Go.RowKit
theorem fact26 : ((Rows.leachGradesRow.lifted == Tryz.prog.liftsFinal)) = true := by kernel_rfl
end Go.Proofs.YtckekpcnpccpmaaGreat.grades

