import Derived.Test.YtckekpcnpccpmaaGreatTakes
set_option linter.unusedVariables false
set_option linter.unusedSimpArgs false
set_option linter.unusedSectionVars false
namespace Go.Ev.LT
theorem k2_8_0 : allO chk2 8 0 8 = true := by decide +kernel
theorem k2_8_1 : allO chk2 8 1 8 = true := by decide +kernel
theorem k2_8_2 : allO chk2 8 2 8 = true := by decide +kernel
theorem k2_8_3 : allO chk2 8 3 8 = true := by decide +kernel
theorem k2_8_4 : allO chk2 8 4 8 = true := by decide +kernel
theorem k2_8_5 : allO chk2 8 5 8 = true := by decide +kernel
theorem k2_8_6 : allO chk2 8 6 8 = true := by decide +kernel
theorem k2_8_7 : allO chk2 8 7 8 = true := by decide +kernel
theorem k2_9_0 : allO chk2 9 0 9 = true := by decide +kernel
theorem k2_9_1 : allO chk2 9 1 9 = true := by decide +kernel
theorem k2_9_2 : allO chk2 9 2 9 = true := by decide +kernel
theorem k2_9_3 : allO chk2 9 3 9 = true := by decide +kernel
theorem k2_9_4 : allO chk2 9 4 9 = true := by decide +kernel
theorem k2_9_5 : allO chk2 9 5 9 = true := by decide +kernel
theorem k2_9_6 : allO chk2 9 6 9 = true := by decide +kernel
theorem k2_9_7 : allO chk2 9 7 9 = true := by decide +kernel
theorem k2_9_8 : allO chk2 9 8 9 = true := by decide +kernel
theorem k2_10_0 : allO chk2 10 0 10 = true := by decide +kernel
theorem k2_10_1 : allO chk2 10 1 10 = true := by decide +kernel
theorem k2_10_2 : allO chk2 10 2 10 = true := by decide +kernel
theorem k2_10_3 : allO chk2 10 3 10 = true := by decide +kernel
theorem k2_10_4 : allO chk2 10 4 10 = true := by decide +kernel
theorem k2_10_5 : allO chk2 10 5 10 = true := by decide +kernel
theorem k2_10_6 : allO chk2 10 6 10 = true := by decide +kernel
theorem k2_10_7 : allO chk2 10 7 10 = true := by decide +kernel
theorem k2_10_8 : allO chk2 10 8 10 = true := by decide +kernel
theorem k2_10_9 : allO chk2 10 9 10 = true := by decide +kernel
end Go.Ev.LT

