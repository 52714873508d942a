import Derived.Test.YtdpegcimhhegmaaTruA
set_option linter.unusedVariables false
set_option linter.unusedSimpArgs false
set_option linter.unusedSectionVars false
noncomputable section
set_option maxRecDepth 1000000
set_option maxHeartbeats 0
namespace Go.Ev.Gas
theorem k39_1_0_1 : ok39 1 0 1 = true := by decide +kernel
theorem k39_3_3 : ok39 3 3 2 = true := by decide +kernel
theorem k39_4_0_1 : ok39 4 0 1 = true := by decide +kernel
theorem k39_5_0_0 : ok39 5 0 0 = true := by decide +kernel
theorem k39_5_2_1 : ok39 5 2 1 = true := by decide +kernel
theorem k39_6_0_0 : ok39 6 0 0 = true := by decide +kernel
theorem k39_6_3_1 : ok39 6 3 1 = true := by decide +kernel
theorem k39_7_0_0 : ok39 7 0 0 = true := by decide +kernel
theorem k39_7_2_0 : ok39 7 2 0 = true := by decide +kernel
theorem k39_7_5_0 : ok39 7 5 0 = true := by decide +kernel
theorem k39_8_0_1 : ok39 8 0 1 = true := by decide +kernel
theorem k39_8_1_0 : ok39 8 1 0 = true := by decide +kernel
theorem k39_8_3_0 : ok39 8 3 0 = true := by decide +kernel
theorem k39_9_2_0 : ok39 9 2 0 = true := by decide +kernel
theorem k39_9_5_1 : ok39 9 5 1 = true := by decide +kernel
theorem k39_10_3_0 : ok39 10 3 0 = true := by decide +kernel
theorem k39_10_4_0 : ok39 10 4 0 = true := by decide +kernel
theorem k39_10_5_1 : ok39 10 5 1 = true := by decide +kernel
theorem k39_10_6_1 : ok39 10 6 1 = true := by decide +kernel
theorem k39_10_7_0 : ok39 10 7 0 = true := by decide +kernel
theorem k39_10_8_1 : ok39 10 8 1 = true := by decide +kernel
theorem k39_11_0_1 : ok39 11 0 1 = true := by decide +kernel
theorem k39_11_2_0 : ok39 11 2 0 = true := by decide +kernel
theorem k39_11_3_1 : ok39 11 3 1 = true := by decide +kernel
theorem k39_11_5_1 : ok39 11 5 1 = true := by decide +kernel
theorem k39_11_6_0 : ok39 11 6 0 = true := by decide +kernel
theorem k39_11_8_0 : ok39 11 8 0 = true := by decide +kernel
theorem k39_11_9_1 : ok39 11 9 1 = true := by decide +kernel
theorem k39_11_10_0 : ok39 11 10 0 = true := by decide +kernel
theorem k39_11_11 : ok39 11 11 2 = true := by decide +kernel
theorem k39_12_0_0 : ok39 12 0 0 = true := by decide +kernel
theorem k39_12_1_1 : ok39 12 1 1 = true := by decide +kernel
theorem k39_12_2_1 : ok39 12 2 1 = true := by decide +kernel
theorem k39_12_6_0 : ok39 12 6 0 = true := by decide +kernel
end Go.Ev.Gas
end

