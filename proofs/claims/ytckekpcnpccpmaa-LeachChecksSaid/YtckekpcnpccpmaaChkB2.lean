import Derived.Test.YtckekpcnpccpmaaRates
set_option linter.unusedVariables false
set_option linter.unusedSimpArgs false
set_option linter.unusedSectionVars false
namespace Go.Ev.LR
theorem k2_6_0 : allO chk2 6 0 6 = true := by decide +kernel
theorem k2_6_1 : allO chk2 6 1 6 = true := by decide +kernel
theorem k2_6_2 : allO chk2 6 2 6 = true := by decide +kernel
theorem k2_6_3 : allO chk2 6 3 6 = true := by decide +kernel
theorem k2_6_4 : allO chk2 6 4 6 = true := by decide +kernel
theorem k2_6_5 : allO chk2 6 5 6 = true := by decide +kernel
theorem k2_7_0 : allO chk2 7 0 7 = true := by decide +kernel
theorem k2_7_1 : allO chk2 7 1 7 = true := by decide +kernel
theorem k2_7_2 : allO chk2 7 2 7 = true := by decide +kernel
theorem k2_7_3 : allO chk2 7 3 7 = true := by decide +kernel
theorem k2_7_4 : allO chk2 7 4 7 = true := by decide +kernel
theorem k2_7_5 : allO chk2 7 5 7 = true := by decide +kernel
theorem k2_7_6 : allO chk2 7 6 7 = true := by decide +kernel
end Go.Ev.LR

