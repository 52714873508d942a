import Derived.Test.YtdpegcimhhegmaaTruA
set_option linter.unusedVariables false
set_option linter.unusedSimpArgs false
set_option linter.unusedSectionVars false
noncomputable section
set_option maxRecDepth 1000000
set_option maxHeartbeats 0
namespace Go.Ev.Gas
theorem okT_4_0 : okT 4 0 = true := by decide +kernel
theorem okT_5_4 : okT 5 4 = true := by decide +kernel
theorem okT_6_0 : okT 6 0 = true := by decide +kernel
theorem okT_6_4 : okT 6 4 = true := by decide +kernel
theorem okT_6_6 : okT 6 6 = true := by decide +kernel
theorem okT_7_6 : okT 7 6 = true := by decide +kernel
theorem okT_8_1 : okT 8 1 = true := by decide +kernel
theorem okT_8_8 : okT 8 8 = true := by decide +kernel
theorem okT_9_0 : okT 9 0 = true := by decide +kernel
theorem okT_9_1 : okT 9 1 = true := by decide +kernel
theorem okT_9_4 : okT 9 4 = true := by decide +kernel
theorem okT_9_7 : okT 9 7 = true := by decide +kernel
theorem okT_9_9 : okT 9 9 = true := by decide +kernel
theorem okT_11_11 : okT 11 11 = true := by decide +kernel
theorem okT_12_1 : okT 12 1 = true := by decide +kernel
end Go.Ev.Gas
end

