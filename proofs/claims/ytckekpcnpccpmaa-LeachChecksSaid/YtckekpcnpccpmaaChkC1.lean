import Derived.Test.YtckekpcnpccpmaaRates
set_option linter.unusedVariables false
set_option linter.unusedSimpArgs false
set_option linter.unusedSectionVars false
namespace Go.Ev.LR
theorem k1_8_0 : allO chk1 8 0 8 = true := by decide +kernel
theorem k1_8_1 : allO chk1 8 1 8 = true := by decide +kernel
theorem k1_8_2 : allO chk1 8 2 8 = true := by decide +kernel
theorem k1_8_3 : allO chk1 8 3 8 = true := by decide +kernel
theorem k1_8_4 : allO chk1 8 4 8 = true := by decide +kernel
theorem k1_8_5 : allO chk1 8 5 8 = true := by decide +kernel
theorem k1_8_6 : allO chk1 8 6 8 = true := by decide +kernel
theorem k1_8_7 : allO chk1 8 7 8 = true := by decide +kernel
end Go.Ev.LR

