import Derived.Test.YtckekpcnpccpmaaRates
set_option linter.unusedVariables false
set_option linter.unusedSimpArgs false
set_option linter.unusedSectionVars false
namespace Go.Ev.LR
theorem k2_2_0 : allO chk2 2 0 2 = true := by decide +kernel
theorem k2_2_1 : allO chk2 2 1 2 = true := by decide +kernel
theorem k2_3_0 : allO chk2 3 0 3 = true := by decide +kernel
theorem k2_3_1 : allO chk2 3 1 3 = true := by decide +kernel
theorem k2_3_2 : allO chk2 3 2 3 = true := by decide +kernel
theorem k2_4_0 : allO chk2 4 0 4 = true := by decide +kernel
theorem k2_4_1 : allO chk2 4 1 4 = true := by decide +kernel
theorem k2_4_2 : allO chk2 4 2 4 = true := by decide +kernel
theorem k2_4_3 : allO chk2 4 3 4 = true := by decide +kernel
theorem k2_5_0 : allO chk2 5 0 5 = true := by decide +kernel
theorem k2_5_1 : allO chk2 5 1 5 = true := by decide +kernel
theorem k2_5_2 : allO chk2 5 2 5 = true := by decide +kernel
theorem k2_5_3 : allO chk2 5 3 5 = true := by decide +kernel
theorem k2_5_4 : allO chk2 5 4 5 = true := by decide +kernel
end Go.Ev.LR

