import Derived.Test.YtdpegcimhhegmaaRows
import Derived.ProofKit
set_option linter.unusedVariables false
set_option linter.unusedSimpArgs false
set_option linter.unusedSectionVars false
section
namespace Go.Proofs.Ytdpegcimhhegmaa.more
open Go.ChangeShapes Go.WideShapes Go.ChangeAt Go.RowKit
theorem fact0 : (Rows.gasMoreRow.wf (OpenSpec.ofChange Rows.gasMoreSpec)) = true := by kernel_rfl
theorem fact1 : (laidOutB Try.prog) = true := by kernel_rfl
theorem fact2 : (mapsRowed Try.prog) = true := by kernel_rfl
theorem fact3 : (Try.f14.params.all (Try.prog.readableRec ·)) = true := by kernel_rfl
theorem fact4 : (namedTie Try.prog Rows.gasMoreRow.named Rows.gasMoreSpec.vars) = true := by kernel_rfl
theorem fact5 : ((Rows.gasMoreRow.stops == [])) = true := by kernel_rfl
theorem fact6 : ((Try.prog.stops == [])) = true := by kernel_rfl
theorem fact7 : ((Rows.gasMoreRow.knobs == [])) = true := by kernel_rfl
theorem fact8 : ((Try.prog.stopKnobs == [])) = true := by kernel_rfl
theorem fact9 : ((Rows.gasMoreRow.inPlace == Try.prog.inPlace (14 : FuncId))) = true := by kernel_rfl
theorem fact10 : ((Rows.gasMoreRow.unfollowed == Try.prog.unfollowed (14 : FuncId))) = true := by kernel_rfl
end Go.Proofs.Ytdpegcimhhegmaa.more
end

section
namespace Go.Proofs.Ytdpegcimhhegmaa.more
open Go.ChangeShapes Go.WideShapes Go.ChangeAt Go.RowKit
theorem fact11 : ((Rows.gasMoreRow.recurses == Try.prog.recurses (14 : FuncId))) = true := by kernel_rfl
theorem fact12 : ((Rows.gasMoreRow.named == Try.prog.varsNamed (14 : FuncId))) = true := by kernel_rfl
theorem fact13 : ((Rows.gasMoreRow.maps == (Try.f14.params.toList ++ Rows.gasMoreSpec.plain.varTypes Try.prog).any (Try.prog.mapsRec ·))) = true := by kernel_rfl
theorem fact14 : ((Rows.gasMoreRow.ifaces == (Try.f14.params.toList ++ Rows.gasMoreSpec.plain.varTypes Try.prog).any (Try.prog.ifacesRec ·))) = true := by kernel_rfl
theorem fact15 : ((Rows.gasMoreRow.mapsOut == Try.prog.mapsAmong Try.f14.resultTypes.toList)) = true := by kernel_rfl
theorem fact16 : ((Rows.gasMoreRow.loops == (Try.f14.params.toList ++ Rows.gasMoreSpec.plain.varTypes Try.prog).any (Try.prog.loopsFrom ·))) = true := by kernel_rfl
theorem fact17 : ((Rows.gasMoreRow.wideKeys == (Try.f14.params.toList ++ Rows.gasMoreSpec.plain.varTypes Try.prog ++ Try.f14.resultTypes.toList).any (Try.prog.wideKeysFrom ·))) = true := by kernel_rfl
theorem fact18 : (Rows.gasMoreSpec.vars.all (Try.prog.varReadable ·)) = true := by kernel_rfl
theorem fact19 : (Try.f14.resultTypes.all (fun t => Try.prog.readableRec t && decide (t < Try.prog.types.size))) = true := by kernel_rfl
theorem fact20 : ((Rows.gasMoreRow.ifacesOut == Try.f14.resultTypes.toList.any (Try.prog.ifacesRec ·))) = true := by kernel_rfl
theorem fact21 : ((Rows.gasMoreRow.loopsOut == Try.f14.resultTypes.toList.any (Try.prog.loopsFrom ·))) = true := by kernel_rfl
theorem fact22 : ((Rows.gasMoreRow.plainKeys == Try.prog.plainKeys)) = true := by kernel_rfl
theorem fact23 : (Rows.gasMoreRow.shortTexts.isNone) = true := by kernel_rfl
theorem fact24 : (Try.prog.stopsHeard) = true := by kernel_rfl
end Go.Proofs.Ytdpegcimhhegmaa.more
end

section
namespace Go.Proofs.Ytdpegcimhhegmaa.more
open Go.ChangeShapes Go.WideShapes Go.ChangeAt Go.RowKit
theorem fact25 : (Try.prog.mayEnter) = true := by kernel_rfl
end Go.Proofs.Ytdpegcimhhegmaa.more
end

section
namespace Go.Proofs.Ytdpegcimhhegmaa.more
open Go.ChangeShapes Go.WideShapes Go.ChangeAt Go.RowKit
theorem fact26 : ((Rows.gasMoreRow.lifted == Try.prog.liftsFinal)) = true := by kernel_rfl
end Go.Proofs.Ytdpegcimhhegmaa.more
end

section
namespace Go.Proofs.Ytdpegcimhhegmaa.more
open Go.ChangeShapes Go.WideShapes Go.ChangeAt Go.RowKit
theorem fact27 : ((Try.prog.make == some Rows.gasMoreRow.make)) = true := by kernel_rfl
theorem fact28 : ((Rows.gasMoreRow.kinds == (if Rows.gasMoreRow.domain.isEmpty then [] else Try.f14.params.toList.map fun t => match Try.prog.underlying t with | some (.int k) => some k | _ => none))) = true := by kernel_rfl
theorem fact29 : ((Rows.gasMoreRow.pinned == Rows.gasMoreRow.pinnedBy)) = true := by kernel_rfl
theorem fact30 : ((Rows.gasMoreRow.veiled == (Try.f14.params.toList ++ Rows.gasMoreSpec.plain.varTypes Try.prog ++ Try.f14.resultTypes.toList).any (Try.prog.veiledRec ·))) = true := by kernel_rfl
theorem fact31 : (Rows.gasMoreRow.veiledFits Try.prog Try.f14.params.toList (Try.f14.params.toList ++ Rows.gasMoreSpec.plain.varTypes Try.prog ++ Try.f14.resultTypes.toList)) = true := by kernel_rfl
end Go.Proofs.Ytdpegcimhhegmaa.more
end

section
namespace Go.Proofs.Ytdpegcimhhegmaa.more
open Go.ChangeShapes Go.WideShapes Go.ChangeAt Go.RowKit
theorem and_i {a b : Bool} (ha : a = true) (hb : b = true) : (a && b) = true := by rw [ha, hb]; rfl
set_option maxRecDepth 100000 in
theorem facts : joinedFacts Try.prog 14 Try.f14 Rows.gasMoreSpec Rows.gasMoreRow = true := (and_i (and_i (and_i (and_i (and_i (and_i (and_i (and_i (and_i (and_i (and_i (and_i (and_i (and_i (and_i (and_i (and_i (and_i (and_i (and_i (and_i (and_i (and_i (and_i (and_i (and_i (and_i (and_i (and_i (and_i (and_i fact0 fact1) fact2) fact3) fact4) fact5) fact6) fact7) fact8) fact9) fact10) fact11) fact12) fact13) fact14) fact15) fact16) fact17) fact18) fact19) fact20) fact21) fact22) fact23) fact24) fact25) fact26) fact27) fact28) fact29) fact30) fact31)
end Go.Proofs.Ytdpegcimhhegmaa.more
end

