import Derived.Test.YtdpegcimhhegmaaStB
set_option linter.unusedVariables false
set_option linter.unusedSimpArgs false
set_option linter.unusedSectionVars false
noncomputable section
set_option maxRecDepth 1000000
set_option maxHeartbeats 0
namespace Go.Ev.Gas
theorem okX_1_0 : okX 1 0 = true := by decide +kernel
theorem okX_3_0 : okX 3 0 = true := by decide +kernel
theorem okX_3_2 : okX 3 2 = true := by decide +kernel
theorem okX_4_2 : okX 4 2 = true := by decide +kernel
theorem okX_4_4 : okX 4 4 = true := by decide +kernel
theorem okX_5_2 : okX 5 2 = true := by decide +kernel
theorem okX_5_4 : okX 5 4 = true := by decide +kernel
theorem okX_5_5 : okX 5 5 = true := by decide +kernel
theorem okX_6_0 : okX 6 0 = true := by decide +kernel
theorem okX_6_4 : okX 6 4 = true := by decide +kernel
theorem okX_6_5 : okX 6 5 = true := by decide +kernel
theorem okX_7_5 : okX 7 5 = true := by decide +kernel
theorem okX_8_1 : okX 8 1 = true := by decide +kernel
theorem okX_8_5 : okX 8 5 = true := by decide +kernel
theorem okX_8_6 : okX 8 6 = true := by decide +kernel
theorem okX_9_7 : okX 9 7 = true := by decide +kernel
theorem okX_10_5 : okX 10 5 = true := by decide +kernel
theorem okX_10_9 : okX 10 9 = true := by decide +kernel
theorem okX_10_10 : okX 10 10 = true := by decide +kernel
theorem okX_11_6 : okX 11 6 = true := by decide +kernel
theorem okX_11_11 : okX 11 11 = true := by decide +kernel
theorem okX_12_0 : okX 12 0 = true := by decide +kernel
theorem okX_12_7 : okX 12 7 = true := by decide +kernel
end Go.Ev.Gas
end

