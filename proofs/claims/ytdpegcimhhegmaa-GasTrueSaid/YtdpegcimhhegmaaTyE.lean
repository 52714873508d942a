import Derived.Test.YtdpegcimhhegmaaTruA
set_option linter.unusedVariables false
set_option linter.unusedSimpArgs false
set_option linter.unusedSectionVars false
noncomputable section
set_option maxRecDepth 1000000
set_option maxHeartbeats 0
namespace Go.Ev.Gas
theorem k39_1_0_0 : ok39 1 0 0 = true := by decide +kernel
theorem k39_2_0_0 : ok39 2 0 0 = true := by decide +kernel
theorem k39_2_2 : ok39 2 2 2 = true := by decide +kernel
theorem k39_4_0_0 : ok39 4 0 0 = true := by decide +kernel
theorem k39_5_1_1 : ok39 5 1 1 = true := by decide +kernel
theorem k39_5_3_1 : ok39 5 3 1 = true := by decide +kernel
theorem k39_5_4_0 : ok39 5 4 0 = true := by decide +kernel
theorem k39_6_1_0 : ok39 6 1 0 = true := by decide +kernel
theorem k39_6_2_0 : ok39 6 2 0 = true := by decide +kernel
theorem k39_6_4_0 : ok39 6 4 0 = true := by decide +kernel
theorem k39_7_1_1 : ok39 7 1 1 = true := by decide +kernel
theorem k39_7_4_0 : ok39 7 4 0 = true := by decide +kernel
theorem k39_8_0_0 : ok39 8 0 0 = true := by decide +kernel
theorem k39_8_2_1 : ok39 8 2 1 = true := by decide +kernel
theorem k39_8_4_0 : ok39 8 4 0 = true := by decide +kernel
theorem k39_8_5_0 : ok39 8 5 0 = true := by decide +kernel
theorem k39_8_6_1 : ok39 8 6 1 = true := by decide +kernel
theorem k39_8_7_1 : ok39 8 7 1 = true := by decide +kernel
theorem k39_9_1_1 : ok39 9 1 1 = true := by decide +kernel
theorem k39_9_4_1 : ok39 9 4 1 = true := by decide +kernel
theorem k39_9_6_1 : ok39 9 6 1 = true := by decide +kernel
theorem k39_9_7_1 : ok39 9 7 1 = true := by decide +kernel
theorem k39_9_8_1 : ok39 9 8 1 = true := by decide +kernel
theorem k39_10_0_0 : ok39 10 0 0 = true := by decide +kernel
theorem k39_10_2_0 : ok39 10 2 0 = true := by decide +kernel
theorem k39_10_8_0 : ok39 10 8 0 = true := by decide +kernel
theorem k39_11_1_1 : ok39 11 1 1 = true := by decide +kernel
theorem k39_11_4_0 : ok39 11 4 0 = true := by decide +kernel
theorem k39_11_9_0 : ok39 11 9 0 = true := by decide +kernel
theorem k39_12_3_1 : ok39 12 3 1 = true := by decide +kernel
theorem k39_12_4_1 : ok39 12 4 1 = true := by decide +kernel
theorem k39_12_8_0 : ok39 12 8 0 = true := by decide +kernel
theorem k39_12_10_0 : ok39 12 10 0 = true := by decide +kernel
theorem k39_12_10_1 : ok39 12 10 1 = true := by decide +kernel
end Go.Ev.Gas
end

