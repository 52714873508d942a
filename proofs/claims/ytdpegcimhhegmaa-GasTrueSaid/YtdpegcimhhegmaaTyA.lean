import Derived.Test.YtdpegcimhhegmaaTruA
set_option linter.unusedVariables false
set_option linter.unusedSimpArgs false
set_option linter.unusedSectionVars false
noncomputable section
set_option maxRecDepth 1000000
set_option maxHeartbeats 0
namespace Go.Ev.Gas
theorem k39_2_1_0 : ok39 2 1 0 = true := by decide +kernel
theorem k39_3_0_1 : ok39 3 0 1 = true := by decide +kernel
theorem k39_3_1_0 : ok39 3 1 0 = true := by decide +kernel
theorem k39_3_2_0 : ok39 3 2 0 = true := by decide +kernel
theorem k39_4_1_0 : ok39 4 1 0 = true := by decide +kernel
theorem k39_4_2_0 : ok39 4 2 0 = true := by decide +kernel
theorem k39_4_4 : ok39 4 4 2 = true := by decide +kernel
theorem k39_5_4_1 : ok39 5 4 1 = true := by decide +kernel
theorem k39_6_2_1 : ok39 6 2 1 = true := by decide +kernel
theorem k39_6_3_0 : ok39 6 3 0 = true := by decide +kernel
theorem k39_6_4_1 : ok39 6 4 1 = true := by decide +kernel
theorem k39_7_4_1 : ok39 7 4 1 = true := by decide +kernel
theorem k39_7_6_1 : ok39 7 6 1 = true := by decide +kernel
theorem k39_8_4_1 : ok39 8 4 1 = true := by decide +kernel
theorem k39_9_0_0 : ok39 9 0 0 = true := by decide +kernel
theorem k39_9_4_0 : ok39 9 4 0 = true := by decide +kernel
theorem k39_10_0_1 : ok39 10 0 1 = true := by decide +kernel
theorem k39_10_1_1 : ok39 10 1 1 = true := by decide +kernel
theorem k39_10_2_1 : ok39 10 2 1 = true := by decide +kernel
theorem k39_10_4_1 : ok39 10 4 1 = true := by decide +kernel
theorem k39_10_5_0 : ok39 10 5 0 = true := by decide +kernel
theorem k39_10_9_1 : ok39 10 9 1 = true := by decide +kernel
theorem k39_11_0_0 : ok39 11 0 0 = true := by decide +kernel
theorem k39_11_3_0 : ok39 11 3 0 = true := by decide +kernel
theorem k39_11_5_0 : ok39 11 5 0 = true := by decide +kernel
theorem k39_11_6_1 : ok39 11 6 1 = true := by decide +kernel
theorem k39_11_7_0 : ok39 11 7 0 = true := by decide +kernel
theorem k39_11_8_1 : ok39 11 8 1 = true := by decide +kernel
theorem k39_12_5_0 : ok39 12 5 0 = true := by decide +kernel
theorem k39_12_6_1 : ok39 12 6 1 = true := by decide +kernel
theorem k39_12_7_0 : ok39 12 7 0 = true := by decide +kernel
theorem k39_12_9_1 : ok39 12 9 1 = true := by decide +kernel
theorem k39_12_12 : ok39 12 12 2 = true := by decide +kernel
end Go.Ev.Gas
end

