import Derived.Test.YtckekpcnpccpmaaRates
set_option linter.unusedVariables false
set_option linter.unusedSimpArgs false
set_option linter.unusedSectionVars false
namespace Go.Ev.LR
theorem k2_10_0 : allO chk2 10 0 10 = true := by decide +kernel
theorem k2_10_1 : allO chk2 10 1 10 = true := by decide +kernel
theorem k2_10_2 : allO chk2 10 2 10 = true := by decide +kernel
theorem k2_10_3 : allO chk2 10 3 10 = true := by decide +kernel
theorem k2_10_4 : allO chk2 10 4 10 = true := by decide +kernel
theorem k2_10_5 : allO chk2 10 5 10 = true := by decide +kernel
theorem k2_10_6 : allO chk2 10 6 10 = true := by decide +kernel
theorem k2_10_7 : allO chk2 10 7 10 = true := by decide +kernel
theorem k2_10_8 : allO chk2 10 8 10 = true := by decide +kernel
theorem k2_10_9 : allO chk2 10 9 10 = true := by decide +kernel
end Go.Ev.LR

