import Derived.Test.YtckekpcnpccpmaaGreatStrength
set_option linter.unusedVariables false
set_option linter.unusedSimpArgs false
set_option linter.unusedSectionVars false
namespace Go.Ev.LG
theorem k5_2 : chk5 2 = true := by decide +kernel
theorem k5_3 : chk5 3 = true := by decide +kernel
theorem k5_4 : chk5 4 = true := by decide +kernel
theorem k5_5 : chk5 5 = true := by decide +kernel
theorem k5_6 : chk5 6 = true := by decide +kernel
theorem k5_7 : chk5 7 = true := by decide +kernel
theorem k5_8 : chk5 8 = true := by decide +kernel
theorem k5_9 : chk5 9 = true := by decide +kernel
theorem k5_10 : chk5 10 = true := by decide +kernel
theorem k6_2 : chk6 2 = true := by decide +kernel
theorem k6_3 : chk6 3 = true := by decide +kernel
theorem k6_4 : chk6 4 = true := by decide +kernel
theorem k6_5 : chk6 5 = true := by decide +kernel
theorem k6_6 : chk6 6 = true := by decide +kernel
theorem k6_7 : chk6 7 = true := by decide +kernel
theorem k6_8 : chk6 8 = true := by decide +kernel
theorem k6_9 : chk6 9 = true := by decide +kernel
theorem k6_10 : chk6 10 = true := by decide +kernel
end Go.Ev.LG

