import Derived.Test.YtckekpcnpccpmaaGreatRows
import Derived.ProofKit
set_option linter.unusedVariables false
set_option linter.unusedSimpArgs false
set_option linter.unusedSectionVars false
namespace Go.Proofs.YtckekpcnpccpmaaGreat.grades
open Go.ChangeShapes Go.WideShapes Go.ChangeAt Go.RowKit
theorem fact11 : ((Rows.leachGradesRow.recurses == Tryz.prog.recurses (9 : FuncId))) = true := by kernel_rfl
theorem fact12 : ((Rows.leachGradesRow.named == Tryz.prog.varsNamed (9 : FuncId))) = true := by kernel_rfl
theorem fact13 : ((Rows.leachGradesRow.maps == (Tryz.f9.params.toList ++ Rows.leachGradesSpec.plain.varTypes Tryz.prog).any (Tryz.prog.mapsRec ·))) = true := by kernel_rfl
theorem fact14 : ((Rows.leachGradesRow.ifaces == (Tryz.f9.params.toList ++ Rows.leachGradesSpec.plain.varTypes Tryz.prog).any (Tryz.prog.ifacesRec ·))) = true := by kernel_rfl
theorem fact15 : ((Rows.leachGradesRow.mapsOut == Tryz.prog.mapsAmong Tryz.f9.resultTypes.toList)) = true := by kernel_rfl
theorem fact16 : ((Rows.leachGradesRow.loops == (Tryz.f9.params.toList ++ Rows.leachGradesSpec.plain.varTypes Tryz.prog).any (Tryz.prog.loopsFrom ·))) = true := by kernel_rfl
theorem fact17 : ((Rows.leachGradesRow.wideKeys == (Tryz.f9.params.toList ++ Rows.leachGradesSpec.plain.varTypes Tryz.prog ++ Tryz.f9.resultTypes.toList).any (Tryz.prog.wideKeysFrom ·))) = true := by kernel_rfl
theorem fact18 : (Rows.leachGradesSpec.vars.all (Tryz.prog.varReadable ·)) = true := by kernel_rfl
theorem fact19 : (Tryz.f9.resultTypes.all (fun t => Tryz.prog.readableRec t && decide (t < Tryz.prog.types.size))) = true := by kernel_rfl
theorem fact20 : ((Rows.leachGradesRow.ifacesOut == Tryz.f9.resultTypes.toList.any (Tryz.prog.ifacesRec ·))) = true := by kernel_rfl
theorem fact21 : ((Rows.leachGradesRow.loopsOut == Tryz.f9.resultTypes.toList.any (Tryz.prog.loopsFrom ·))) = true := by kernel_rfl
theorem fact22 : ((Rows.leachGradesRow.plainKeys == Tryz.prog.plainKeys)) = true := by kernel_rfl
theorem fact23 : (Rows.leachGradesRow.shortTexts.isNone) = true := by kernel_rfl
theorem fact24 : (Tryz.prog.stopsHeard) = true := by kernel_rfl
end Go.Proofs.YtckekpcnpccpmaaGreat.grades

