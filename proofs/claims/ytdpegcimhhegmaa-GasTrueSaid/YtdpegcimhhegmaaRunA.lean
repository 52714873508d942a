import Derived.Test.YtdpegcimhhegmaaTruA
set_option linter.unusedVariables false
set_option linter.unusedSimpArgs false
set_option linter.unusedSectionVars false
noncomputable section
set_option maxRecDepth 1000000
set_option maxHeartbeats 0
namespace Go.Ev.Gas
theorem okT_2_0 : okT 2 0 = true := by decide +kernel
theorem okT_3_3 : okT 3 3 = true := by decide +kernel
theorem okT_4_4 : okT 4 4 = true := by decide +kernel
theorem okT_5_1 : okT 5 1 = true := by decide +kernel
theorem okT_6_3 : okT 6 3 = true := by decide +kernel
theorem okT_7_0 : okT 7 0 = true := by decide +kernel
theorem okT_7_4 : okT 7 4 = true := by decide +kernel
theorem okT_8_4 : okT 8 4 = true := by decide +kernel
theorem okT_8_6 : okT 8 6 = true := by decide +kernel
theorem okT_10_6 : okT 10 6 = true := by decide +kernel
theorem okT_10_7 : okT 10 7 = true := by decide +kernel
theorem okT_11_8 : okT 11 8 = true := by decide +kernel
theorem okT_12_0 : okT 12 0 = true := by decide +kernel
theorem okT_12_4 : okT 12 4 = true := by decide +kernel
theorem okT_12_12 : okT 12 12 = true := by decide +kernel
end Go.Ev.Gas
end

