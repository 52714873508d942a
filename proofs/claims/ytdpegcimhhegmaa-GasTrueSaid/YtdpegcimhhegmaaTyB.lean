import Derived.Test.YtdpegcimhhegmaaTruA
set_option linter.unusedVariables false
set_option linter.unusedSimpArgs false
set_option linter.unusedSectionVars false
noncomputable section
set_option maxRecDepth 1000000
set_option maxHeartbeats 0
namespace Go.Ev.Gas
theorem k39_1_1 : ok39 1 1 2 = true := by decide +kernel
theorem k39_2_1_1 : ok39 2 1 1 = true := by decide +kernel
theorem k39_3_1_1 : ok39 3 1 1 = true := by decide +kernel
theorem k39_3_2_1 : ok39 3 2 1 = true := by decide +kernel
theorem k39_4_1_1 : ok39 4 1 1 = true := by decide +kernel
theorem k39_4_2_1 : ok39 4 2 1 = true := by decide +kernel
theorem k39_4_3_0 : ok39 4 3 0 = true := by decide +kernel
theorem k39_6_5_0 : ok39 6 5 0 = true := by decide +kernel
theorem k39_7_1_0 : ok39 7 1 0 = true := by decide +kernel
theorem k39_7_2_1 : ok39 7 2 1 = true := by decide +kernel
theorem k39_7_3_0 : ok39 7 3 0 = true := by decide +kernel
theorem k39_7_5_1 : ok39 7 5 1 = true := by decide +kernel
theorem k39_8_1_1 : ok39 8 1 1 = true := by decide +kernel
theorem k39_8_3_1 : ok39 8 3 1 = true := by decide +kernel
theorem k39_8_5_1 : ok39 8 5 1 = true := by decide +kernel
theorem k39_8_6_0 : ok39 8 6 0 = true := by decide +kernel
theorem k39_8_8 : ok39 8 8 2 = true := by decide +kernel
theorem k39_9_2_1 : ok39 9 2 1 = true := by decide +kernel
theorem k39_9_3_0 : ok39 9 3 0 = true := by decide +kernel
theorem k39_9_5_0 : ok39 9 5 0 = true := by decide +kernel
theorem k39_9_6_0 : ok39 9 6 0 = true := by decide +kernel
theorem k39_10_1_0 : ok39 10 1 0 = true := by decide +kernel
theorem k39_10_3_1 : ok39 10 3 1 = true := by decide +kernel
theorem k39_10_6_0 : ok39 10 6 0 = true := by decide +kernel
theorem k39_10_9_0 : ok39 10 9 0 = true := by decide +kernel
theorem k39_11_2_1 : ok39 11 2 1 = true := by decide +kernel
theorem k39_11_7_1 : ok39 11 7 1 = true := by decide +kernel
theorem k39_11_10_1 : ok39 11 10 1 = true := by decide +kernel
theorem k39_12_0_1 : ok39 12 0 1 = true := by decide +kernel
theorem k39_12_4_0 : ok39 12 4 0 = true := by decide +kernel
theorem k39_12_7_1 : ok39 12 7 1 = true := by decide +kernel
theorem k39_12_8_1 : ok39 12 8 1 = true := by decide +kernel
theorem k39_12_11_0 : ok39 12 11 0 = true := by decide +kernel
end Go.Ev.Gas
end

