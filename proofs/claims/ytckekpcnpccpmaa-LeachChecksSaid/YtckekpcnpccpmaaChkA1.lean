import Derived.Test.YtckekpcnpccpmaaRates
set_option linter.unusedVariables false
set_option linter.unusedSimpArgs false
set_option linter.unusedSectionVars false
namespace Go.Ev.LR
theorem k1_2_0 : allO chk1 2 0 2 = true := by decide +kernel
theorem k1_2_1 : allO chk1 2 1 2 = true := by decide +kernel
theorem k1_3_0 : allO chk1 3 0 3 = true := by decide +kernel
theorem k1_3_1 : allO chk1 3 1 3 = true := by decide +kernel
theorem k1_3_2 : allO chk1 3 2 3 = true := by decide +kernel
theorem k1_4_0 : allO chk1 4 0 4 = true := by decide +kernel
theorem k1_4_1 : allO chk1 4 1 4 = true := by decide +kernel
theorem k1_4_2 : allO chk1 4 2 4 = true := by decide +kernel
theorem k1_4_3 : allO chk1 4 3 4 = true := by decide +kernel
theorem k1_5_0 : allO chk1 5 0 5 = true := by decide +kernel
theorem k1_5_1 : allO chk1 5 1 5 = true := by decide +kernel
theorem k1_5_2 : allO chk1 5 2 5 = true := by decide +kernel
theorem k1_5_3 : allO chk1 5 3 5 = true := by decide +kernel
theorem k1_5_4 : allO chk1 5 4 5 = true := by decide +kernel
theorem k3_1 : chk3 1 = true := by decide +kernel
theorem k3_2 : chk3 2 = true := by decide +kernel
theorem k3_3 : chk3 3 = true := by decide +kernel
theorem k3_4 : chk3 4 = true := by decide +kernel
theorem k3_5 : chk3 5 = true := by decide +kernel
theorem k3_6 : chk3 6 = true := by decide +kernel
theorem k3_7 : chk3 7 = true := by decide +kernel
theorem k3_8 : chk3 8 = true := by decide +kernel
theorem k3_9 : chk3 9 = true := by decide +kernel
theorem k3_10 : chk3 10 = true := by decide +kernel
end Go.Ev.LR

