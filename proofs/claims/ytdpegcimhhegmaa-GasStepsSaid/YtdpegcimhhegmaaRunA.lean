import Derived.Test.YtdpegcimhhegmaaStB
set_option linter.unusedVariables false
set_option linter.unusedSimpArgs false
set_option linter.unusedSectionVars false
noncomputable section
set_option maxRecDepth 1000000
set_option maxHeartbeats 0
namespace Go.Ev.Gas
theorem okX_4_0 : okX 4 0 = true := by decide +kernel
theorem okX_4_3 : okX 4 3 = true := by decide +kernel
theorem okX_5_0 : okX 5 0 = true := by decide +kernel
theorem okX_7_0 : okX 7 0 = true := by decide +kernel
theorem okX_7_2 : okX 7 2 = true := by decide +kernel
theorem okX_7_6 : okX 7 6 = true := by decide +kernel
theorem okX_8_0 : okX 8 0 = true := by decide +kernel
theorem okX_8_2 : okX 8 2 = true := by decide +kernel
theorem okX_9_2 : okX 9 2 = true := by decide +kernel
theorem okX_9_3 : okX 9 3 = true := by decide +kernel
theorem okX_9_6 : okX 9 6 = true := by decide +kernel
theorem okX_10_0 : okX 10 0 = true := by decide +kernel
theorem okX_10_2 : okX 10 2 = true := by decide +kernel
theorem okX_10_3 : okX 10 3 = true := by decide +kernel
theorem okX_10_6 : okX 10 6 = true := by decide +kernel
theorem okX_10_7 : okX 10 7 = true := by decide +kernel
theorem okX_11_3 : okX 11 3 = true := by decide +kernel
theorem okX_11_4 : okX 11 4 = true := by decide +kernel
theorem okX_11_7 : okX 11 7 = true := by decide +kernel
theorem okX_11_8 : okX 11 8 = true := by decide +kernel
theorem okX_11_9 : okX 11 9 = true := by decide +kernel
theorem okX_12_12 : okX 12 12 = true := by decide +kernel
end Go.Ev.Gas
end

