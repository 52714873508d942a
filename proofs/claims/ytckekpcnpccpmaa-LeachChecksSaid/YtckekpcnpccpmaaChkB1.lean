import Derived.Test.YtckekpcnpccpmaaRates
set_option linter.unusedVariables false
set_option linter.unusedSimpArgs false
set_option linter.unusedSectionVars false
namespace Go.Ev.LR
theorem k1_6_0 : allO chk1 6 0 6 = true := by decide +kernel
theorem k1_6_1 : allO chk1 6 1 6 = true := by decide +kernel
theorem k1_6_2 : allO chk1 6 2 6 = true := by decide +kernel
theorem k1_6_3 : allO chk1 6 3 6 = true := by decide +kernel
theorem k1_6_4 : allO chk1 6 4 6 = true := by decide +kernel
theorem k1_6_5 : allO chk1 6 5 6 = true := by decide +kernel
theorem k1_7_0 : allO chk1 7 0 7 = true := by decide +kernel
theorem k1_7_1 : allO chk1 7 1 7 = true := by decide +kernel
theorem k1_7_2 : allO chk1 7 2 7 = true := by decide +kernel
theorem k1_7_3 : allO chk1 7 3 7 = true := by decide +kernel
theorem k1_7_4 : allO chk1 7 4 7 = true := by decide +kernel
theorem k1_7_5 : allO chk1 7 5 7 = true := by decide +kernel
theorem k1_7_6 : allO chk1 7 6 7 = true := by decide +kernel
end Go.Ev.LR

