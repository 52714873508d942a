import Derived.Test.YtdpegcimhhegmaaRows
import Derived.ProofKit
set_option linter.unusedVariables false
set_option linter.unusedSimpArgs false
set_option linter.unusedSectionVars false
section
namespace Go.Proofs.Ytdpegcimhhegmaa.purged
open Go.ChangeShapes Go.WideShapes Go.ChangeAt Go.RowKit
theorem fact0 : (Rows.gasPurgedRow.wf (OpenSpec.ofChange Rows.gasPurgedSpec)) = true := by kernel_rfl
theorem fact1 : (laidOutB Try.prog) = true := by kernel_rfl
theorem fact2 : (mapsRowed Try.prog) = true := by kernel_rfl
theorem fact3 : (Try.f13.params.all (Try.prog.readableRec ·)) = true := by kernel_rfl
theorem fact4 : (namedTie Try.prog Rows.gasPurgedRow.named Rows.gasPurgedSpec.vars) = true := by kernel_rfl
theorem fact5 : ((Rows.gasPurgedRow.stops == [])) = true := by kernel_rfl
theorem fact6 : ((Try.prog.stops == [])) = true := by kernel_rfl
theorem fact7 : ((Rows.gasPurgedRow.knobs == [])) = true := by kernel_rfl
theorem fact8 : ((Try.prog.stopKnobs == [])) = true := by kernel_rfl
theorem fact9 : ((Rows.gasPurgedRow.inPlace == Try.prog.inPlace (13 : FuncId))) = true := by kernel_rfl
theorem fact10 : ((Rows.gasPurgedRow.unfollowed == Try.prog.unfollowed (13 : FuncId))) = true := by kernel_rfl
end Go.Proofs.Ytdpegcimhhegmaa.purged
end

section
namespace Go.Proofs.Ytdpegcimhhegmaa.purged
open Go.ChangeShapes Go.WideShapes Go.ChangeAt Go.RowKit
theorem fact11 : ((Rows.gasPurgedRow.recurses == Try.prog.recurses (13 : FuncId))) = true := by kernel_rfl
theorem fact12 : ((Rows.gasPurgedRow.named == Try.prog.varsNamed (13 : FuncId))) = true := by kernel_rfl
theorem fact13 : ((Rows.gasPurgedRow.maps == (Try.f13.params.toList ++ Rows.gasPurgedSpec.plain.varTypes Try.prog).any (Try.prog.mapsRec ·))) = true := by kernel_rfl
theorem fact14 : ((Rows.gasPurgedRow.ifaces == (Try.f13.params.toList ++ Rows.gasPurgedSpec.plain.varTypes Try.prog).any (Try.prog.ifacesRec ·))) = true := by kernel_rfl
theorem fact15 : ((Rows.gasPurgedRow.mapsOut == Try.prog.mapsAmong Try.f13.resultTypes.toList)) = true := by kernel_rfl
theorem fact16 : ((Rows.gasPurgedRow.loops == (Try.f13.params.toList ++ Rows.gasPurgedSpec.plain.varTypes Try.prog).any (Try.prog.loopsFrom ·))) = true := by kernel_rfl
theorem fact17 : ((Rows.gasPurgedRow.wideKeys == (Try.f13.params.toList ++ Rows.gasPurgedSpec.plain.varTypes Try.prog ++ Try.f13.resultTypes.toList).any (Try.prog.wideKeysFrom ·))) = true := by kernel_rfl
theorem fact18 : (Rows.gasPurgedSpec.vars.all (Try.prog.varReadable ·)) = true := by kernel_rfl
theorem fact19 : (Try.f13.resultTypes.all (fun t => Try.prog.readableRec t && decide (t < Try.prog.types.size))) = true := by kernel_rfl
theorem fact20 : ((Rows.gasPurgedRow.ifacesOut == Try.f13.resultTypes.toList.any (Try.prog.ifacesRec ·))) = true := by kernel_rfl
theorem fact21 : ((Rows.gasPurgedRow.loopsOut == Try.f13.resultTypes.toList.any (Try.prog.loopsFrom ·))) = true := by kernel_rfl
theorem fact22 : ((Rows.gasPurgedRow.plainKeys == Try.prog.plainKeys)) = true := by kernel_rfl
theorem fact23 : (Rows.gasPurgedRow.shortTexts.isNone) = true := by kernel_rfl
theorem fact24 : (Try.prog.stopsHeard) = true := by kernel_rfl
end Go.Proofs.Ytdpegcimhhegmaa.purged
end

section
namespace Go.Proofs.Ytdpegcimhhegmaa.purged
open Go.ChangeShapes Go.WideShapes Go.ChangeAt Go.RowKit
theorem fact25 : (Try.prog.mayEnter) = true := by kernel_rfl
end Go.Proofs.Ytdpegcimhhegmaa.purged
end

section
namespace Go.Proofs.Ytdpegcimhhegmaa.purged
open Go.ChangeShapes Go.WideShapes Go.ChangeAt Go.RowKit
theorem fact26 : ((Rows.gasPurgedRow.lifted == Try.prog.liftsFinal)) = true := by kernel_rfl
end Go.Proofs.Ytdpegcimhhegmaa.purged
end

section
namespace Go.Proofs.Ytdpegcimhhegmaa.purged
open Go.ChangeShapes Go.WideShapes Go.ChangeAt Go.RowKit
theorem fact27 : ((Try.prog.make == some Rows.gasPurgedRow.make)) = true := by kernel_rfl
theorem fact28 : ((Rows.gasPurgedRow.kinds == (if Rows.gasPurgedRow.domain.isEmpty then [] else Try.f13.params.toList.map fun t => match Try.prog.underlying t with | some (.int k) => some k | _ => none))) = true := by kernel_rfl
theorem fact29 : ((Rows.gasPurgedRow.pinned == Rows.gasPurgedRow.pinnedBy)) = true := by kernel_rfl
theorem fact30 : ((Rows.gasPurgedRow.veiled == (Try.f13.params.toList ++ Rows.gasPurgedSpec.plain.varTypes Try.prog ++ Try.f13.resultTypes.toList).any (Try.prog.veiledRec ·))) = true := by kernel_rfl
theorem fact31 : (Rows.gasPurgedRow.veiledFits Try.prog Try.f13.params.toList (Try.f13.params.toList ++ Rows.gasPurgedSpec.plain.varTypes Try.prog ++ Try.f13.resultTypes.toList)) = true := by kernel_rfl
end Go.Proofs.Ytdpegcimhhegmaa.purged
end

section
namespace Go.Proofs.Ytdpegcimhhegmaa.purged
open Go.ChangeShapes Go.WideShapes Go.ChangeAt Go.RowKit
theorem and_i {a b : Bool} (ha : a = true) (hb : b = true) : (a && b) = true := by rw [ha, hb]; rfl
set_option maxRecDepth 100000 in
theorem facts : joinedFacts Try.prog 13 Try.f13 Rows.gasPurgedSpec Rows.gasPurgedRow = true := (and_i (and_i (and_i (and_i (and_i (and_i (and_i (and_i (and_i (and_i (and_i (and_i (and_i (and_i (and_i (and_i (and_i (and_i (and_i (and_i (and_i (and_i (and_i (and_i (and_i (and_i (and_i (and_i (and_i (and_i (and_i fact0 fact1) fact2) fact3) fact4) fact5) fact6) fact7) fact8) fact9) fact10) fact11) fact12) fact13) fact14) fact15) fact16) fact17) fact18) fact19) fact20) fact21) fact22) fact23) fact24) fact25) fact26) fact27) fact28) fact29) fact30) fact31)
end Go.Proofs.Ytdpegcimhhegmaa.purged
end

