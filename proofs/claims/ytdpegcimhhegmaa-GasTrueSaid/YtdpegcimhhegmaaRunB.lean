import Derived.Test.YtdpegcimhhegmaaTruA
set_option linter.unusedVariables false
set_option linter.unusedSimpArgs false
set_option linter.unusedSectionVars false
noncomputable section
set_option maxRecDepth 1000000
set_option maxHeartbeats 0
namespace Go.Ev.Gas
theorem okT_1_1 : okT 1 1 = true := by decide +kernel
theorem okT_3_1 : okT 3 1 = true := by decide +kernel
theorem okT_5_2 : okT 5 2 = true := by decide +kernel
theorem okT_6_1 : okT 6 1 = true := by decide +kernel
theorem okT_6_2 : okT 6 2 = true := by decide +kernel
theorem okT_6_5 : okT 6 5 = true := by decide +kernel
theorem okT_7_3 : okT 7 3 = true := by decide +kernel
theorem okT_8_5 : okT 8 5 = true := by decide +kernel
theorem okT_9_2 : okT 9 2 = true := by decide +kernel
theorem okT_10_3 : okT 10 3 = true := by decide +kernel
theorem okT_11_5 : okT 11 5 = true := by decide +kernel
theorem okT_11_6 : okT 11 6 = true := by decide +kernel
theorem okT_11_7 : okT 11 7 = true := by decide +kernel
theorem okT_12_8 : okT 12 8 = true := by decide +kernel
theorem okT_12_11 : okT 12 11 = true := by decide +kernel
end Go.Ev.Gas
end

