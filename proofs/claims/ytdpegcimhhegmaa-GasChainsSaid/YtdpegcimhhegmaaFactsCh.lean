import Derived.Test.YtdpegcimhhegmaaRows
import Derived.ProofKit
set_option linter.unusedVariables false
set_option linter.unusedSimpArgs false
set_option linter.unusedSectionVars false
section
namespace Go.Proofs.Ytdpegcimhhegmaa.chains
open Go.ChangeShapes Go.WideShapes Go.ChangeAt Go.RowKit
theorem fact0 : (Rows.gasChainsRow.wf (OpenSpec.ofChange Rows.gasChainsSpec)) = true := by kernel_rfl
theorem fact1 : (laidOutB Try.prog) = true := by kernel_rfl
theorem fact2 : (mapsRowed Try.prog) = true := by kernel_rfl
theorem fact3 : (Try.f15.params.all (Try.prog.readableRec ·)) = true := by kernel_rfl
theorem fact4 : (namedTie Try.prog Rows.gasChainsRow.named Rows.gasChainsSpec.vars) = true := by kernel_rfl
theorem fact5 : ((Rows.gasChainsRow.stops == [])) = true := by kernel_rfl
theorem fact6 : ((Try.prog.stops == [])) = true := by kernel_rfl
theorem fact7 : ((Rows.gasChainsRow.knobs == [])) = true := by kernel_rfl
theorem fact8 : ((Try.prog.stopKnobs == [])) = true := by kernel_rfl
theorem fact9 : ((Rows.gasChainsRow.inPlace == Try.prog.inPlace (15 : FuncId))) = true := by kernel_rfl
theorem fact10 : ((Rows.gasChainsRow.unfollowed == Try.prog.unfollowed (15 : FuncId))) = true := by kernel_rfl
end Go.Proofs.Ytdpegcimhhegmaa.chains
end

section
namespace Go.Proofs.Ytdpegcimhhegmaa.chains
open Go.ChangeShapes Go.WideShapes Go.ChangeAt Go.RowKit
theorem fact11 : ((Rows.gasChainsRow.recurses == Try.prog.recurses (15 : FuncId))) = true := by kernel_rfl
theorem fact12 : ((Rows.gasChainsRow.named == Try.prog.varsNamed (15 : FuncId))) = true := by kernel_rfl
theorem fact13 : ((Rows.gasChainsRow.maps == (Try.f15.params.toList ++ Rows.gasChainsSpec.plain.varTypes Try.prog).any (Try.prog.mapsRec ·))) = true := by kernel_rfl
theorem fact14 : ((Rows.gasChainsRow.ifaces == (Try.f15.params.toList ++ Rows.gasChainsSpec.plain.varTypes Try.prog).any (Try.prog.ifacesRec ·))) = true := by kernel_rfl
theorem fact15 : ((Rows.gasChainsRow.mapsOut == Try.prog.mapsAmong Try.f15.resultTypes.toList)) = true := by kernel_rfl
theorem fact16 : ((Rows.gasChainsRow.loops == (Try.f15.params.toList ++ Rows.gasChainsSpec.plain.varTypes Try.prog).any (Try.prog.loopsFrom ·))) = true := by kernel_rfl
theorem fact17 : ((Rows.gasChainsRow.wideKeys == (Try.f15.params.toList ++ Rows.gasChainsSpec.plain.varTypes Try.prog ++ Try.f15.resultTypes.toList).any (Try.prog.wideKeysFrom ·))) = true := by kernel_rfl
theorem fact18 : (Rows.gasChainsSpec.vars.all (Try.prog.varReadable ·)) = true := by kernel_rfl
theorem fact19 : (Try.f15.resultTypes.all (fun t => Try.prog.readableRec t && decide (t < Try.prog.types.size))) = true := by kernel_rfl
theorem fact20 : ((Rows.gasChainsRow.ifacesOut == Try.f15.resultTypes.toList.any (Try.prog.ifacesRec ·))) = true := by kernel_rfl
theorem fact21 : ((Rows.gasChainsRow.loopsOut == Try.f15.resultTypes.toList.any (Try.prog.loopsFrom ·))) = true := by kernel_rfl
theorem fact22 : ((Rows.gasChainsRow.plainKeys == Try.prog.plainKeys)) = true := by kernel_rfl
theorem fact23 : (Rows.gasChainsRow.shortTexts.isNone) = true := by kernel_rfl
theorem fact24 : (Try.prog.stopsHeard) = true := by kernel_rfl
end Go.Proofs.Ytdpegcimhhegmaa.chains
end

section
namespace Go.Proofs.Ytdpegcimhhegmaa.chains
open Go.ChangeShapes Go.WideShapes Go.ChangeAt Go.RowKit
theorem fact25 : (Try.prog.mayEnter) = true := by kernel_rfl
end Go.Proofs.Ytdpegcimhhegmaa.chains
end

section
namespace Go.Proofs.Ytdpegcimhhegmaa.chains
open Go.ChangeShapes Go.WideShapes Go.ChangeAt Go.RowKit
theorem fact26 : ((Rows.gasChainsRow.lifted == Try.prog.liftsFinal)) = true := by kernel_rfl
end Go.Proofs.Ytdpegcimhhegmaa.chains
end

section
namespace Go.Proofs.Ytdpegcimhhegmaa.chains
open Go.ChangeShapes Go.WideShapes Go.ChangeAt Go.RowKit
theorem fact27 : ((Try.prog.make == some Rows.gasChainsRow.make)) = true := by kernel_rfl
theorem fact28 : ((Rows.gasChainsRow.kinds == (if Rows.gasChainsRow.domain.isEmpty then [] else Try.f15.params.toList.map fun t => match Try.prog.underlying t with | some (.int k) => some k | _ => none))) = true := by kernel_rfl
theorem fact29 : ((Rows.gasChainsRow.pinned == Rows.gasChainsRow.pinnedBy)) = true := by kernel_rfl
theorem fact30 : ((Rows.gasChainsRow.veiled == (Try.f15.params.toList ++ Rows.gasChainsSpec.plain.varTypes Try.prog ++ Try.f15.resultTypes.toList).any (Try.prog.veiledRec ·))) = true := by kernel_rfl
theorem fact31 : (Rows.gasChainsRow.veiledFits Try.prog Try.f15.params.toList (Try.f15.params.toList ++ Rows.gasChainsSpec.plain.varTypes Try.prog ++ Try.f15.resultTypes.toList)) = true := by kernel_rfl
end Go.Proofs.Ytdpegcimhhegmaa.chains
end

section
namespace Go.Proofs.Ytdpegcimhhegmaa.chains
open Go.ChangeShapes Go.WideShapes Go.ChangeAt Go.RowKit
theorem and_i {a b : Bool} (ha : a = true) (hb : b = true) : (a && b) = true := by rw [ha, hb]; rfl
set_option maxRecDepth 100000 in
theorem facts : joinedFacts Try.prog 15 Try.f15 Rows.gasChainsSpec Rows.gasChainsRow = true := (and_i (and_i (and_i (and_i (and_i (and_i (and_i (and_i (and_i (and_i (and_i (and_i (and_i (and_i (and_i (and_i (and_i (and_i (and_i (and_i (and_i (and_i (and_i (and_i (and_i (and_i (and_i (and_i (and_i (and_i (and_i fact0 fact1) fact2) fact3) fact4) fact5) fact6) fact7) fact8) fact9) fact10) fact11) fact12) fact13) fact14) fact15) fact16) fact17) fact18) fact19) fact20) fact21) fact22) fact23) fact24) fact25) fact26) fact27) fact28) fact29) fact30) fact31)
end Go.Proofs.Ytdpegcimhhegmaa.chains
end

