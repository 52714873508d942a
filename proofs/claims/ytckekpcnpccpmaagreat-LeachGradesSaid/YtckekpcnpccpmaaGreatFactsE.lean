import Derived.Test.YtckekpcnpccpmaaGreatRows
import Derived.ProofKit
set_option linter.unusedVariables false
set_option linter.unusedSimpArgs false
set_option linter.unusedSectionVars false
namespace Go.Proofs.YtckekpcnpccpmaaGreat.grades
open Go.ChangeShapes Go.WideShapes Go.ChangeAt Go.RowKit
theorem fact27 : ((Tryz.prog.make == some Rows.leachGradesRow.make)) = true := by kernel_rfl
theorem fact28 : ((Rows.leachGradesRow.kinds == (if Rows.leachGradesRow.domain.isEmpty then [] else Tryz.f9.params.toList.map fun t => match Tryz.prog.underlying t with | some (.int k) => some k | _ => none))) = true := by kernel_rfl
theorem fact29 : ((Rows.leachGradesRow.pinned == Rows.leachGradesRow.pinnedBy)) = true := by kernel_rfl
theorem fact30 : ((Rows.leachGradesRow.veiled == (Tryz.f9.params.toList ++ Rows.leachGradesSpec.plain.varTypes Tryz.prog ++ Tryz.f9.resultTypes.toList).any (Tryz.prog.veiledRec ·))) = true := by kernel_rfl
theorem fact31 : (Rows.leachGradesRow.veiledFits Tryz.prog Tryz.f9.params.toList (Tryz.f9.params.toList ++ Rows.leachGradesSpec.plain.varTypes Tryz.prog ++ Tryz.f9.resultTypes.toList)) = true := by kernel_rfl
end Go.Proofs.YtckekpcnpccpmaaGreat.grades

