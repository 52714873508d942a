import Derived.Test.YtckekpcnpccpmaaGreatTakes
set_option linter.unusedVariables false
set_option linter.unusedSimpArgs false
set_option linter.unusedSectionVars false
namespace Go.Ev.LT
theorem k1_2_0 : allO chk1 2 0 2 = true := by decide +kernel
theorem k1_2_1 : allO chk1 2 1 2 = true := by decide +kernel
theorem k1_3_0 : allO chk1 3 0 3 = true := by decide +kernel
theorem k1_3_1 : allO chk1 3 1 3 = true := by decide +kernel
theorem k1_3_2 : allO chk1 3 2 3 = true := by decide +kernel
theorem k1_4_0 : allO chk1 4 0 4 = true := by decide +kernel
theorem k1_4_1 : allO chk1 4 1 4 = true := by decide +kernel
theorem k1_4_2 : allO chk1 4 2 4 = true := by decide +kernel
theorem k1_4_3 : allO chk1 4 3 4 = true := by decide +kernel
theorem k1_5_0 : allO chk1 5 0 5 = true := by decide +kernel
theorem k1_5_1 : allO chk1 5 1 5 = true := by decide +kernel
theorem k1_5_2 : allO chk1 5 2 5 = true := by decide +kernel
theorem k1_5_3 : allO chk1 5 3 5 = true := by decide +kernel
theorem k1_5_4 : allO chk1 5 4 5 = true := by decide +kernel
theorem k1_6_0 : allO chk1 6 0 6 = true := by decide +kernel
theorem k1_6_1 : allO chk1 6 1 6 = true := by decide +kernel
theorem k1_6_2 : allO chk1 6 2 6 = true := by decide +kernel
theorem k1_6_3 : allO chk1 6 3 6 = true := by decide +kernel
theorem k1_6_4 : allO chk1 6 4 6 = true := by decide +kernel
theorem k1_6_5 : allO chk1 6 5 6 = true := by decide +kernel
theorem k1_7_0 : allO chk1 7 0 7 = true := by decide +kernel
theorem k1_7_1 : allO chk1 7 1 7 = true := by decide +kernel
theorem k1_7_2 : allO chk1 7 2 7 = true := by decide +kernel
theorem k1_7_3 : allO chk1 7 3 7 = true := by decide +kernel
theorem k1_7_4 : allO chk1 7 4 7 = true := by decide +kernel
theorem k1_7_5 : allO chk1 7 5 7 = true := by decide +kernel
theorem k1_7_6 : allO chk1 7 6 7 = true := by decide +kernel
end Go.Ev.LT

