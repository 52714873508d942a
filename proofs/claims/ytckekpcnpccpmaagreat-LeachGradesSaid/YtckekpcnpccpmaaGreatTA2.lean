import Derived.Test.YtckekpcnpccpmaaGreatTakes
set_option linter.unusedVariables false
set_option linter.unusedSimpArgs false
set_option linter.unusedSectionVars false
namespace Go.Ev.LT
theorem k2_2_0 : allO chk2 2 0 2 = true := by decide +kernel
theorem k2_2_1 : allO chk2 2 1 2 = true := by decide +kernel
theorem k2_3_0 : allO chk2 3 0 3 = true := by decide +kernel
theorem k2_3_1 : allO chk2 3 1 3 = true := by decide +kernel
theorem k2_3_2 : allO chk2 3 2 3 = true := by decide +kernel
theorem k2_4_0 : allO chk2 4 0 4 = true := by decide +kernel
theorem k2_4_1 : allO chk2 4 1 4 = true := by decide +kernel
theorem k2_4_2 : allO chk2 4 2 4 = true := by decide +kernel
theorem k2_4_3 : allO chk2 4 3 4 = true := by decide +kernel
theorem k2_5_0 : allO chk2 5 0 5 = true := by decide +kernel
theorem k2_5_1 : allO chk2 5 1 5 = true := by decide +kernel
theorem k2_5_2 : allO chk2 5 2 5 = true := by decide +kernel
theorem k2_5_3 : allO chk2 5 3 5 = true := by decide +kernel
theorem k2_5_4 : allO chk2 5 4 5 = true := by decide +kernel
theorem k2_6_0 : allO chk2 6 0 6 = true := by decide +kernel
theorem k2_6_1 : allO chk2 6 1 6 = true := by decide +kernel
theorem k2_6_2 : allO chk2 6 2 6 = true := by decide +kernel
theorem k2_6_3 : allO chk2 6 3 6 = true := by decide +kernel
theorem k2_6_4 : allO chk2 6 4 6 = true := by decide +kernel
theorem k2_6_5 : allO chk2 6 5 6 = true := by decide +kernel
theorem k2_7_0 : allO chk2 7 0 7 = true := by decide +kernel
theorem k2_7_1 : allO chk2 7 1 7 = true := by decide +kernel
theorem k2_7_2 : allO chk2 7 2 7 = true := by decide +kernel
theorem k2_7_3 : allO chk2 7 3 7 = true := by decide +kernel
theorem k2_7_4 : allO chk2 7 4 7 = true := by decide +kernel
theorem k2_7_5 : allO chk2 7 5 7 = true := by decide +kernel
theorem k2_7_6 : allO chk2 7 6 7 = true := by decide +kernel
end Go.Ev.LT

