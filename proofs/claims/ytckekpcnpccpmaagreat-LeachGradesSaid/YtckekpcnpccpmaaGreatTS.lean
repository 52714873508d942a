import Derived.Test.YtckekpcnpccpmaaGreatRun
set_option linter.unusedVariables false
set_option linter.unusedSimpArgs false
set_option linter.unusedSectionVars false
namespace Go.Ev.LS
theorem k3_2 : chk3 2 = true := by decide +kernel
theorem k3_3 : chk3 3 = true := by decide +kernel
theorem k3_4 : chk3 4 = true := by decide +kernel
theorem k3_5 : chk3 5 = true := by decide +kernel
theorem k3_6 : chk3 6 = true := by decide +kernel
theorem k3_7 : chk3 7 = true := by decide +kernel
theorem k3_8 : chk3 8 = true := by decide +kernel
theorem k3_9 : chk3 9 = true := by decide +kernel
theorem k3_10 : chk3 10 = true := by decide +kernel
theorem k4_2 : chk4 2 = true := by decide +kernel
theorem k4_3 : chk4 3 = true := by decide +kernel
theorem k4_4 : chk4 4 = true := by decide +kernel
theorem k4_5 : chk4 5 = true := by decide +kernel
theorem k4_6 : chk4 6 = true := by decide +kernel
theorem k4_7 : chk4 7 = true := by decide +kernel
theorem k4_8 : chk4 8 = true := by decide +kernel
theorem k4_9 : chk4 9 = true := by decide +kernel
theorem k4_10 : chk4 10 = true := by decide +kernel
end Go.Ev.LS

