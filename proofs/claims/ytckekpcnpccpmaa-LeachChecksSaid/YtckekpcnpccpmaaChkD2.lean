import Derived.Test.YtckekpcnpccpmaaRates
set_option linter.unusedVariables false
set_option linter.unusedSimpArgs false
set_option linter.unusedSectionVars false
namespace Go.Ev.LR
theorem k2_9_0 : allO chk2 9 0 9 = true := by decide +kernel
theorem k2_9_1 : allO chk2 9 1 9 = true := by decide +kernel
theorem k2_9_2 : allO chk2 9 2 9 = true := by decide +kernel
theorem k2_9_3 : allO chk2 9 3 9 = true := by decide +kernel
theorem k2_9_4 : allO chk2 9 4 9 = true := by decide +kernel
theorem k2_9_5 : allO chk2 9 5 9 = true := by decide +kernel
theorem k2_9_6 : allO chk2 9 6 9 = true := by decide +kernel
theorem k2_9_7 : allO chk2 9 7 9 = true := by decide +kernel
theorem k2_9_8 : allO chk2 9 8 9 = true := by decide +kernel
end Go.Ev.LR

