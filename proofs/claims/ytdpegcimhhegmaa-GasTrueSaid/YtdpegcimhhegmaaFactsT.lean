import Derived.Test.YtdpegcimhhegmaaRows
import Derived.ProofKit
set_option linter.unusedVariables false
set_option linter.unusedSimpArgs false
set_option linter.unusedSectionVars false
section
namespace Go.Proofs.Ytdpegcimhhegmaa.trues
open Go.ChangeShapes Go.WideShapes Go.ChangeAt Go.RowKit
theorem fact0 : (Rows.gasTrueRow.wf (OpenSpec.ofChange Rows.gasTrueSpec)) = true := by kernel_rfl
theorem fact1 : (laidOutB Try.prog) = true := by kernel_rfl
theorem fact2 : (mapsRowed Try.prog) = true := by kernel_rfl
theorem fact3 : (Try.f8.params.all (Try.prog.readableRec ·)) = true := by kernel_rfl
theorem fact4 : (namedTie Try.prog Rows.gasTrueRow.named Rows.gasTrueSpec.vars) = true := by kernel_rfl
theorem fact5 : ((Rows.gasTrueRow.stops == [])) = true := by kernel_rfl
theorem fact6 : ((Try.prog.stops == [])) = true := by kernel_rfl
theorem fact7 : ((Rows.gasTrueRow.knobs == [])) = true := by kernel_rfl
theorem fact8 : ((Try.prog.stopKnobs == [])) = true := by kernel_rfl
theorem fact9 : ((Rows.gasTrueRow.inPlace == Try.prog.inPlace (8 : FuncId))) = true := by kernel_rfl
theorem fact10 : ((Rows.gasTrueRow.unfollowed == Try.prog.unfollowed (8 : FuncId))) = true := by kernel_rfl
end Go.Proofs.Ytdpegcimhhegmaa.trues
end

section
namespace Go.Proofs.Ytdpegcimhhegmaa.trues
open Go.ChangeShapes Go.WideShapes Go.ChangeAt Go.RowKit
theorem fact11 : ((Rows.gasTrueRow.recurses == Try.prog.recurses (8 : FuncId))) = true := by kernel_rfl
theorem fact12 : ((Rows.gasTrueRow.named == Try.prog.varsNamed (8 : FuncId))) = true := by kernel_rfl
theorem fact13 : ((Rows.gasTrueRow.maps == (Try.f8.params.toList ++ Rows.gasTrueSpec.plain.varTypes Try.prog).any (Try.prog.mapsRec ·))) = true := by kernel_rfl
theorem fact14 : ((Rows.gasTrueRow.ifaces == (Try.f8.params.toList ++ Rows.gasTrueSpec.plain.varTypes Try.prog).any (Try.prog.ifacesRec ·))) = true := by kernel_rfl
theorem fact15 : ((Rows.gasTrueRow.mapsOut == Try.prog.mapsAmong Try.f8.resultTypes.toList)) = true := by kernel_rfl
theorem fact16 : ((Rows.gasTrueRow.loops == (Try.f8.params.toList ++ Rows.gasTrueSpec.plain.varTypes Try.prog).any (Try.prog.loopsFrom ·))) = true := by kernel_rfl
theorem fact17 : ((Rows.gasTrueRow.wideKeys == (Try.f8.params.toList ++ Rows.gasTrueSpec.plain.varTypes Try.prog ++ Try.f8.resultTypes.toList).any (Try.prog.wideKeysFrom ·))) = true := by kernel_rfl
theorem fact18 : (Rows.gasTrueSpec.vars.all (Try.prog.varReadable ·)) = true := by kernel_rfl
theorem fact19 : (Try.f8.resultTypes.all (fun t => Try.prog.readableRec t && decide (t < Try.prog.types.size))) = true := by kernel_rfl
theorem fact20 : ((Rows.gasTrueRow.ifacesOut == Try.f8.resultTypes.toList.any (Try.prog.ifacesRec ·))) = true := by kernel_rfl
theorem fact21 : ((Rows.gasTrueRow.loopsOut == Try.f8.resultTypes.toList.any (Try.prog.loopsFrom ·))) = true := by kernel_rfl
theorem fact22 : ((Rows.gasTrueRow.plainKeys == Try.prog.plainKeys)) = true := by kernel_rfl
theorem fact23 : (Rows.gasTrueRow.shortTexts.isNone) = true := by kernel_rfl
theorem fact24 : (Try.prog.stopsHeard) = true := by kernel_rfl
end Go.Proofs.Ytdpegcimhhegmaa.trues
end

section
namespace Go.Proofs.Ytdpegcimhhegmaa.trues
open Go.ChangeShapes Go.WideShapes Go.ChangeAt Go.RowKit
theorem fact25 : (Try.prog.mayEnter) = true := by kernel_rfl
end Go.Proofs.Ytdpegcimhhegmaa.trues
end

section
namespace Go.Proofs.Ytdpegcimhhegmaa.trues
open Go.ChangeShapes Go.WideShapes Go.ChangeAt Go.RowKit
theorem fact26 : ((Rows.gasTrueRow.lifted == Try.prog.liftsFinal)) = true := by kernel_rfl
end Go.Proofs.Ytdpegcimhhegmaa.trues
end

section
namespace Go.Proofs.Ytdpegcimhhegmaa.trues
open Go.ChangeShapes Go.WideShapes Go.ChangeAt Go.RowKit
theorem fact27 : ((Try.prog.make == some Rows.gasTrueRow.make)) = true := by kernel_rfl
theorem fact28 : ((Rows.gasTrueRow.kinds == (if Rows.gasTrueRow.domain.isEmpty then [] else Try.f8.params.toList.map fun t => match Try.prog.underlying t with | some (.int k) => some k | _ => none))) = true := by kernel_rfl
theorem fact29 : ((Rows.gasTrueRow.pinned == Rows.gasTrueRow.pinnedBy)) = true := by kernel_rfl
theorem fact30 : ((Rows.gasTrueRow.veiled == (Try.f8.params.toList ++ Rows.gasTrueSpec.plain.varTypes Try.prog ++ Try.f8.resultTypes.toList).any (Try.prog.veiledRec ·))) = true := by kernel_rfl
theorem fact31 : (Rows.gasTrueRow.veiledFits Try.prog Try.f8.params.toList (Try.f8.params.toList ++ Rows.gasTrueSpec.plain.varTypes Try.prog ++ Try.f8.resultTypes.toList)) = true := by kernel_rfl
end Go.Proofs.Ytdpegcimhhegmaa.trues
end

section
namespace Go.Proofs.Ytdpegcimhhegmaa.trues
open Go.ChangeShapes Go.WideShapes Go.ChangeAt Go.RowKit
theorem and_i {a b : Bool} (ha : a = true) (hb : b = true) : (a && b) = true := by rw [ha, hb]; rfl
set_option maxRecDepth 100000 in
theorem facts : joinedFacts Try.prog 8 Try.f8 Rows.gasTrueSpec Rows.gasTrueRow = true := (and_i (and_i (and_i (and_i (and_i (and_i (and_i (and_i (and_i (and_i (and_i (and_i (and_i (and_i (and_i (and_i (and_i (and_i (and_i (and_i (and_i (and_i (and_i (and_i (and_i (and_i (and_i (and_i (and_i (and_i (and_i fact0 fact1) fact2) fact3) fact4) fact5) fact6) fact7) fact8) fact9) fact10) fact11) fact12) fact13) fact14) fact15) fact16) fact17) fact18) fact19) fact20) fact21) fact22) fact23) fact24) fact25) fact26) fact27) fact28) fact29) fact30) fact31)
end Go.Proofs.Ytdpegcimhhegmaa.trues
end

