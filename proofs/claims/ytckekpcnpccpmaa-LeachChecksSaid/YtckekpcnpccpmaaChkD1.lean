import Derived.Test.YtckekpcnpccpmaaRates
set_option linter.unusedVariables false
set_option linter.unusedSimpArgs false
set_option linter.unusedSectionVars false
namespace Go.Ev.LR
theorem k1_9_0 : allO chk1 9 0 9 = true := by decide +kernel
theorem k1_9_1 : allO chk1 9 1 9 = true := by decide +kernel
theorem k1_9_2 : allO chk1 9 2 9 = true := by decide +kernel
theorem k1_9_3 : allO chk1 9 3 9 = true := by decide +kernel
theorem k1_9_4 : allO chk1 9 4 9 = true := by decide +kernel
theorem k1_9_5 : allO chk1 9 5 9 = true := by decide +kernel
theorem k1_9_6 : allO chk1 9 6 9 = true := by decide +kernel
theorem k1_9_7 : allO chk1 9 7 9 = true := by decide +kernel
theorem k1_9_8 : allO chk1 9 8 9 = true := by decide +kernel
end Go.Ev.LR

