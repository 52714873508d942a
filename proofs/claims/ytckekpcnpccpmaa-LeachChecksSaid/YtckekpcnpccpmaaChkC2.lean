import Derived.Test.YtckekpcnpccpmaaRates
set_option linter.unusedVariables false
set_option linter.unusedSimpArgs false
set_option linter.unusedSectionVars false
namespace Go.Ev.LR
theorem k2_8_0 : allO chk2 8 0 8 = true := by decide +kernel
theorem k2_8_1 : allO chk2 8 1 8 = true := by decide +kernel
theorem k2_8_2 : allO chk2 8 2 8 = true := by decide +kernel
theorem k2_8_3 : allO chk2 8 3 8 = true := by decide +kernel
theorem k2_8_4 : allO chk2 8 4 8 = true := by decide +kernel
theorem k2_8_5 : allO chk2 8 5 8 = true := by decide +kernel
theorem k2_8_6 : allO chk2 8 6 8 = true := by decide +kernel
theorem k2_8_7 : allO chk2 8 7 8 = true := by decide +kernel
end Go.Ev.LR

