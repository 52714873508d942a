import Derived.Test.YtdpegcimhhegmaaTruA
set_option linter.unusedVariables false
set_option linter.unusedSimpArgs false
set_option linter.unusedSectionVars false
noncomputable section
set_option maxRecDepth 1000000
set_option maxHeartbeats 0
namespace Go.Ev.Gas
theorem k39_2_0_1 : ok39 2 0 1 = true := by decide +kernel
theorem k39_3_0_0 : ok39 3 0 0 = true := by decide +kernel
theorem k39_4_3_1 : ok39 4 3 1 = true := by decide +kernel
theorem k39_5_0_1 : ok39 5 0 1 = true := by decide +kernel
theorem k39_5_1_0 : ok39 5 1 0 = true := by decide +kernel
theorem k39_5_2_0 : ok39 5 2 0 = true := by decide +kernel
theorem k39_5_3_0 : ok39 5 3 0 = true := by decide +kernel
theorem k39_5_5 : ok39 5 5 2 = true := by decide +kernel
theorem k39_6_0_1 : ok39 6 0 1 = true := by decide +kernel
theorem k39_6_1_1 : ok39 6 1 1 = true := by decide +kernel
theorem k39_6_5_1 : ok39 6 5 1 = true := by decide +kernel
theorem k39_6_6 : ok39 6 6 2 = true := by decide +kernel
theorem k39_7_0_1 : ok39 7 0 1 = true := by decide +kernel
theorem k39_7_3_1 : ok39 7 3 1 = true := by decide +kernel
theorem k39_7_6_0 : ok39 7 6 0 = true := by decide +kernel
theorem k39_7_7 : ok39 7 7 2 = true := by decide +kernel
theorem k39_8_2_0 : ok39 8 2 0 = true := by decide +kernel
theorem k39_8_7_0 : ok39 8 7 0 = true := by decide +kernel
theorem k39_9_0_1 : ok39 9 0 1 = true := by decide +kernel
theorem k39_9_1_0 : ok39 9 1 0 = true := by decide +kernel
theorem k39_9_3_1 : ok39 9 3 1 = true := by decide +kernel
theorem k39_9_7_0 : ok39 9 7 0 = true := by decide +kernel
theorem k39_9_8_0 : ok39 9 8 0 = true := by decide +kernel
theorem k39_9_9 : ok39 9 9 2 = true := by decide +kernel
theorem k39_10_7_1 : ok39 10 7 1 = true := by decide +kernel
theorem k39_10_10 : ok39 10 10 2 = true := by decide +kernel
theorem k39_11_1_0 : ok39 11 1 0 = true := by decide +kernel
theorem k39_11_4_1 : ok39 11 4 1 = true := by decide +kernel
theorem k39_12_1_0 : ok39 12 1 0 = true := by decide +kernel
theorem k39_12_2_0 : ok39 12 2 0 = true := by decide +kernel
theorem k39_12_3_0 : ok39 12 3 0 = true := by decide +kernel
theorem k39_12_5_1 : ok39 12 5 1 = true := by decide +kernel
theorem k39_12_9_0 : ok39 12 9 0 = true := by decide +kernel
theorem k39_12_11_1 : ok39 12 11 1 = true := by decide +kernel
end Go.Ev.Gas
end

