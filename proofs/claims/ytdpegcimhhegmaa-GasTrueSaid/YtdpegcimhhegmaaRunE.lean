import Derived.Test.YtdpegcimhhegmaaTruA
set_option linter.unusedVariables false
set_option linter.unusedSimpArgs false
set_option linter.unusedSectionVars false
noncomputable section
set_option maxRecDepth 1000000
set_option maxHeartbeats 0
namespace Go.Ev.Gas
theorem okT_2_1 : okT 2 1 = true := by decide +kernel
theorem okT_4_2 : okT 4 2 = true := by decide +kernel
theorem okT_5_0 : okT 5 0 = true := by decide +kernel
theorem okT_5_5 : okT 5 5 = true := by decide +kernel
theorem okT_7_2 : okT 7 2 = true := by decide +kernel
theorem okT_8_2 : okT 8 2 = true := by decide +kernel
theorem okT_9_5 : okT 9 5 = true := by decide +kernel
theorem okT_9_8 : okT 9 8 = true := by decide +kernel
theorem okT_10_0 : okT 10 0 = true := by decide +kernel
theorem okT_10_2 : okT 10 2 = true := by decide +kernel
theorem okT_10_5 : okT 10 5 = true := by decide +kernel
theorem okT_11_3 : okT 11 3 = true := by decide +kernel
theorem okT_11_9 : okT 11 9 = true := by decide +kernel
theorem okT_11_10 : okT 11 10 = true := by decide +kernel
theorem okT_12_6 : okT 12 6 = true := by decide +kernel
end Go.Ev.Gas
end

