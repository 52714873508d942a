import Derived.Test.YtdpegcimhhegmaaStB
set_option linter.unusedVariables false
set_option linter.unusedSimpArgs false
set_option linter.unusedSectionVars false
noncomputable section
set_option maxRecDepth 1000000
set_option maxHeartbeats 0
namespace Go.Ev.Gas
theorem okX_2_1 : okX 2 1 = true := by decide +kernel
theorem okX_3_1 : okX 3 1 = true := by decide +kernel
theorem okX_5_1 : okX 5 1 = true := by decide +kernel
theorem okX_5_3 : okX 5 3 = true := by decide +kernel
theorem okX_6_1 : okX 6 1 = true := by decide +kernel
theorem okX_6_3 : okX 6 3 = true := by decide +kernel
theorem okX_7_1 : okX 7 1 = true := by decide +kernel
theorem okX_7_3 : okX 7 3 = true := by decide +kernel
theorem okX_7_4 : okX 7 4 = true := by decide +kernel
theorem okX_7_7 : okX 7 7 = true := by decide +kernel
theorem okX_8_3 : okX 8 3 = true := by decide +kernel
theorem okX_8_4 : okX 8 4 = true := by decide +kernel
theorem okX_8_7 : okX 8 7 = true := by decide +kernel
theorem okX_8_8 : okX 8 8 = true := by decide +kernel
theorem okX_9_4 : okX 9 4 = true := by decide +kernel
theorem okX_9_8 : okX 9 8 = true := by decide +kernel
theorem okX_10_4 : okX 10 4 = true := by decide +kernel
theorem okX_11_0 : okX 11 0 = true := by decide +kernel
theorem okX_11_10 : okX 11 10 = true := by decide +kernel
theorem okX_12_4 : okX 12 4 = true := by decide +kernel
theorem okX_12_8 : okX 12 8 = true := by decide +kernel
theorem okX_12_10 : okX 12 10 = true := by decide +kernel
end Go.Ev.Gas
end

