import Derived.Test.YtckekpcnpccpmaaGreatRows
import Derived.ProofKit
set_option linter.unusedVariables false
set_option linter.unusedSimpArgs false
set_option linter.unusedSectionVars false
namespace Go.Proofs.YtckekpcnpccpmaaGreat.grades
open Go.ChangeShapes Go.WideShapes Go.ChangeAt Go.RowKit
theorem fact0 : (Rows.leachGradesRow.wf (OpenSpec.ofChange Rows.leachGradesSpec)) = true := by kernel_rfl
theorem fact1 : (laidOutB Tryz.prog) = true := by kernel_rfl
theorem fact2 : (mapsRowed Tryz.prog) = true := by kernel_rfl
theorem fact3 : (Tryz.f9.params.all (Tryz.prog.readableRec ·)) = true := by kernel_rfl
theorem fact4 : (namedTie Tryz.prog Rows.leachGradesRow.named Rows.leachGradesSpec.vars) = true := by kernel_rfl
theorem fact5 : ((Rows.leachGradesRow.stops == [])) = true := by kernel_rfl
theorem fact6 : ((Tryz.prog.stops == [])) = true := by kernel_rfl
theorem fact7 : ((Rows.leachGradesRow.knobs == [])) = true := by kernel_rfl
theorem fact8 : ((Tryz.prog.stopKnobs == [])) = true := by kernel_rfl
theorem fact9 : ((Rows.leachGradesRow.inPlace == Tryz.prog.inPlace (9 : FuncId))) = true := by kernel_rfl
theorem fact10 : ((Rows.leachGradesRow.unfollowed == Tryz.prog.unfollowed (9 : FuncId))) = true := by kernel_rfl
end Go.Proofs.YtckekpcnpccpmaaGreat.grades

