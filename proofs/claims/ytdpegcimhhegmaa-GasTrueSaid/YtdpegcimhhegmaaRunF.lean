import Derived.Test.YtdpegcimhhegmaaTruA
set_option linter.unusedVariables false
set_option linter.unusedSimpArgs false
set_option linter.unusedSectionVars false
noncomputable section
set_option maxRecDepth 1000000
set_option maxHeartbeats 0
namespace Go.Ev.Gas
theorem okT_3_0 : okT 3 0 = true := by decide +kernel
theorem okT_3_2 : okT 3 2 = true := by decide +kernel
theorem okT_4_1 : okT 4 1 = true := by decide +kernel
theorem okT_7_1 : okT 7 1 = true := by decide +kernel
theorem okT_7_5 : okT 7 5 = true := by decide +kernel
theorem okT_8_7 : okT 8 7 = true := by decide +kernel
theorem okT_10_1 : okT 10 1 = true := by decide +kernel
theorem okT_10_4 : okT 10 4 = true := by decide +kernel
theorem okT_10_10 : okT 10 10 = true := by decide +kernel
theorem okT_11_1 : okT 11 1 = true := by decide +kernel
theorem okT_11_2 : okT 11 2 = true := by decide +kernel
theorem okT_12_2 : okT 12 2 = true := by decide +kernel
theorem okT_12_5 : okT 12 5 = true := by decide +kernel
theorem okT_12_7 : okT 12 7 = true := by decide +kernel
theorem okT_12_9 : okT 12 9 = true := by decide +kernel
end Go.Ev.Gas
end

