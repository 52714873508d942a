import Derived.Test.YtdpegcimhhegmaaTruA
set_option linter.unusedVariables false
set_option linter.unusedSimpArgs false
set_option linter.unusedSectionVars false
noncomputable section
set_option maxRecDepth 1000000
set_option maxHeartbeats 0
namespace Go.Ev.Gas
theorem okT_1_0 : okT 1 0 = true := by decide +kernel
theorem okT_2_2 : okT 2 2 = true := by decide +kernel
theorem okT_4_3 : okT 4 3 = true := by decide +kernel
theorem okT_5_3 : okT 5 3 = true := by decide +kernel
theorem okT_7_7 : okT 7 7 = true := by decide +kernel
theorem okT_8_0 : okT 8 0 = true := by decide +kernel
theorem okT_8_3 : okT 8 3 = true := by decide +kernel
theorem okT_9_3 : okT 9 3 = true := by decide +kernel
theorem okT_9_6 : okT 9 6 = true := by decide +kernel
theorem okT_10_8 : okT 10 8 = true := by decide +kernel
theorem okT_10_9 : okT 10 9 = true := by decide +kernel
theorem okT_11_0 : okT 11 0 = true := by decide +kernel
theorem okT_11_4 : okT 11 4 = true := by decide +kernel
theorem okT_12_3 : okT 12 3 = true := by decide +kernel
theorem okT_12_10 : okT 12 10 = true := by decide +kernel
end Go.Ev.Gas
end

