import Derived.Test.YtdpegcimhhegmaaStB
set_option linter.unusedVariables false
set_option linter.unusedSimpArgs false
set_option linter.unusedSectionVars false
noncomputable section
set_option maxRecDepth 1000000
set_option maxHeartbeats 0
namespace Go.Ev.Gas
theorem okX_1_1 : okX 1 1 = true := by decide +kernel
theorem okX_2_0 : okX 2 0 = true := by decide +kernel
theorem okX_2_2 : okX 2 2 = true := by decide +kernel
theorem okX_3_3 : okX 3 3 = true := by decide +kernel
theorem okX_4_1 : okX 4 1 = true := by decide +kernel
theorem okX_6_2 : okX 6 2 = true := by decide +kernel
theorem okX_6_6 : okX 6 6 = true := by decide +kernel
theorem okX_9_0 : okX 9 0 = true := by decide +kernel
theorem okX_9_1 : okX 9 1 = true := by decide +kernel
theorem okX_9_5 : okX 9 5 = true := by decide +kernel
theorem okX_9_9 : okX 9 9 = true := by decide +kernel
theorem okX_10_1 : okX 10 1 = true := by decide +kernel
theorem okX_10_8 : okX 10 8 = true := by decide +kernel
theorem okX_11_1 : okX 11 1 = true := by decide +kernel
theorem okX_11_2 : okX 11 2 = true := by decide +kernel
theorem okX_11_5 : okX 11 5 = true := by decide +kernel
theorem okX_12_1 : okX 12 1 = true := by decide +kernel
theorem okX_12_2 : okX 12 2 = true := by decide +kernel
theorem okX_12_3 : okX 12 3 = true := by decide +kernel
theorem okX_12_5 : okX 12 5 = true := by decide +kernel
theorem okX_12_6 : okX 12 6 = true := by decide +kernel
theorem okX_12_9 : okX 12 9 = true := by decide +kernel
theorem okX_12_11 : okX 12 11 = true := by decide +kernel
end Go.Ev.Gas
end

