import Derived.Test.YtdpegcimhhegmaaBigN
set_option linter.unusedVariables false
set_option linter.unusedSimpArgs false
set_option linter.unusedSectionVars false
noncomputable section
set_option maxRecDepth 1000000
set_option maxHeartbeats 0
namespace Go.Ev.Gas
open Go.RowKit Go.Ev.Num
noncomputable def r31_IA : AV plain := .tuple [.agg [.sx (.bin 0 (.v 11) (.v 19)) 0 2000000, .sx (.bin 0 (.v 12) (.v 19)) 0 2000000, .sx (.bin 0 (.v 13) (.v 20)) 0 2000000, .sx (.bin 0 (.v 14) (.v 20)) 0 2000000, .sx (.bin 3 (.v 60) (.v 66)) 2000 5000, .sx (.bin 4 (.v 61) (.v 67)) 2000 5000, .sx (.bin 0 (.v 17) (.v 22)) 0 2000000000, .sx (.bin 0 (.v 18) (.v 22)) 0 2000000000], .agg [.int .i64 0, .int .i64 0, .int .i64 0, .int .i64 0, .int .i64 0, .int .i64 0], .bool true]
noncomputable def k31_IA : KC := { f := 31, args := a_IA, res := .ret r31_IA }
theorem d31_IA : isRes k31_IA.res (runK P L true [] [] G_IA k31_IA) = true := by decide +kernel
theorem c31_IA : Con P (Fence.there P) G_IA.holds k31_IA := con_of_run (H := fun _ => True) fbT (by decide +kernel) no_k no_p (fun _ _ => trivial) d31_IA
noncomputable def r31_IZ0 : AV plain := .tuple [.agg [.sx (.v 11) 0 1000000, .sx (.v 12) 0 1000000, .sx (.v 13) 0 1000000, .sx (.v 14) 0 1000000, .sx (.v 15) 2000 5000, .sx (.v 16) 2000 5000, .sx (.bin 0 (.v 17) (.v 22)) 0 2000000000, .sx (.bin 0 (.v 18) (.v 22)) 0 2000000000], .agg [.int .i64 0, .int .i64 0, .int .i64 0, .int .i64 0, .int .i64 0, .int .i64 0], .bool true]
noncomputable def k31_IZ0 : KC := { f := 31, args := a_IZ0, res := .ret r31_IZ0 }
theorem d31_IZ0 : isRes k31_IZ0.res (runK P L true [] [] G_IZ0 k31_IZ0) = true := by decide +kernel
theorem c31_IZ0 : Con P (Fence.there P) G_IZ0.holds k31_IZ0 := con_of_run (H := fun _ => True) fbT (by decide +kernel) no_k no_p (fun _ _ => trivial) d31_IZ0
noncomputable def r31_IZ1 : AV plain := .tuple [.agg [.sx (.v 11) 0 1000000, .sx (.v 12) 0 1000000, .sx (.v 13) 0 1000000, .sx (.v 14) 0 1000000, .sx (.v 15) 2000 5000, .sx (.v 16) 2000 5000, .sx (.bin 0 (.v 17) (.v 22)) 0 2000000000, .sx (.bin 0 (.v 18) (.v 22)) 0 2000000000], .agg [.int .i64 0, .int .i64 0, .int .i64 0, .int .i64 0, .int .i64 0, .int .i64 0], .bool true]
noncomputable def k31_IZ1 : KC := { f := 31, args := a_IZ1, res := .ret r31_IZ1 }
theorem d31_IZ1 : isRes k31_IZ1.res (runK P L true [] [] G_IZ1 k31_IZ1) = true := by decide +kernel
theorem c31_IZ1 : Con P (Fence.there P) G_IZ1.holds k31_IZ1 := con_of_run (H := fun _ => True) fbT (by decide +kernel) no_k no_p (fun _ _ => trivial) d31_IZ1
noncomputable def r31_IZ2 : AV plain := .tuple [.agg [.sx (.v 11) 0 1000000, .sx (.v 12) 0 1000000, .sx (.v 13) 0 1000000, .sx (.v 14) 0 1000000, .sx (.v 15) 2000 5000, .sx (.v 16) 2000 5000, .sx (.bin 0 (.v 17) (.v 22)) 0 2000000000, .sx (.bin 0 (.v 18) (.v 22)) 0 2000000000], .agg [.int .i64 0, .int .i64 0, .int .i64 0, .int .i64 0, .int .i64 0, .int .i64 0], .bool true]
noncomputable def k31_IZ2 : KC := { f := 31, args := a_IZ2, res := .ret r31_IZ2 }
theorem d31_IZ2 : isRes k31_IZ2.res (runK P L true [] [] G_IZ2 k31_IZ2) = true := by decide +kernel
theorem c31_IZ2 : Con P (Fence.there P) G_IZ2.holds k31_IZ2 := con_of_run (H := fun _ => True) fbT (by decide +kernel) no_k no_p (fun _ _ => trivial) d31_IZ2
noncomputable def r31_JG : AV plain := .tuple [.agg [.sx (.bin 0 (.v 11) (.v 19)) 0 101000000, .sx (.bin 0 (.v 12) (.v 19)) 0 101000000, .sx (.bin 0 (.v 13) (.v 20)) 0 101000000, .sx (.bin 0 (.v 14) (.v 20)) 0 101000000, .sx (.bin 3 (.v 60) (.v 66)) 2000 5000, .sx (.bin 4 (.v 61) (.v 67)) 2000 5000, .sx (.bin 0 (.v 17) (.v 22)) 0 101000000000, .sx (.bin 0 (.v 18) (.v 22)) 0 101000000000], .agg [.int .i64 0, .int .i64 0, .int .i64 0, .int .i64 0, .int .i64 0, .int .i64 0], .bool false]
noncomputable def k31_JG : KC := { f := 31, args := a_JG, res := .ret r31_JG }
theorem d31_JG : isRes k31_JG.res (runK P L true [] [] G_JG k31_JG) = true := by decide +kernel
theorem c31_JG : Con P (Fence.there P) G_JG.holds k31_JG := con_of_run (H := fun _ => True) fbT (by decide +kernel) no_k no_p (fun _ _ => trivial) d31_JG
noncomputable def r31_JH : AV plain := .tuple [.agg [.sx (.bin 0 (.v 11) (.v 19)) 0 101000000, .sx (.bin 0 (.v 12) (.v 19)) 0 101000000, .sx (.bin 0 (.v 13) (.v 20)) 0 101000000, .sx (.bin 0 (.v 14) (.v 20)) 0 101000000, .sx (.bin 3 (.v 60) (.v 66)) 2000 5000, .sx (.bin 4 (.v 61) (.v 67)) 2000 5000, .sx (.bin 0 (.v 17) (.v 22)) 0 101000000000, .sx (.bin 0 (.v 18) (.v 22)) 0 101000000000], .agg [.int .i64 0, .int .i64 0, .int .i64 0, .int .i64 0, .int .i64 0, .int .i64 0], .bool false]
noncomputable def k31_JH : KC := { f := 31, args := a_JH, res := .ret r31_JH }
theorem d31_JH : isRes k31_JH.res (runK P L true [] [] G_JH k31_JH) = true := by decide +kernel
theorem c31_JH : Con P (Fence.there P) G_JH.holds k31_JH := con_of_run (H := fun _ => True) fbT (by decide +kernel) no_k no_p (fun _ _ => trivial) d31_JH
end Go.Ev.Gas
end

noncomputable section
set_option maxRecDepth 1000000
set_option maxHeartbeats 0
namespace Go.Ev.Gas
open Go.RowKit Go.Ev.Num
noncomputable def r31_IZ3 : AV plain := .tuple [.agg [.sx (.v 11) 0 1000000, .sx (.v 12) 0 1000000, .sx (.v 13) 0 1000000, .sx (.v 14) 0 1000000, .sx (.v 15) 2000 5000, .sx (.v 16) 2000 5000, .sx (.bin 0 (.v 17) (.v 22)) 0 2000000000, .sx (.bin 0 (.v 18) (.v 22)) 0 2000000000], .agg [.int .i64 0, .int .i64 0, .int .i64 0, .int .i64 0, .int .i64 0, .int .i64 0], .bool true]
noncomputable def k31_IZ3 : KC := { f := 31, args := a_IZ3, res := .ret r31_IZ3 }
theorem d31_IZ3 : isRes k31_IZ3.res (runK P L true [] [] G_IZ3 k31_IZ3) = true := by decide +kernel
theorem c31_IZ3 : Con P (Fence.there P) G_IZ3.holds k31_IZ3 := con_of_run (H := fun _ => True) fbT (by decide +kernel) no_k no_p (fun _ _ => trivial) d31_IZ3
noncomputable def r31_IZ4 : AV plain := .tuple [.agg [.sx (.v 11) 0 1000000, .sx (.v 12) 0 1000000, .sx (.v 13) 0 1000000, .sx (.v 14) 0 1000000, .sx (.v 15) 2000 5000, .sx (.v 16) 2000 5000, .sx (.bin 0 (.v 17) (.v 22)) 0 2000000000, .sx (.bin 0 (.v 18) (.v 22)) 0 2000000000], .agg [.int .i64 0, .int .i64 0, .int .i64 0, .int .i64 0, .int .i64 0, .int .i64 0], .bool true]
noncomputable def k31_IZ4 : KC := { f := 31, args := a_IZ4, res := .ret r31_IZ4 }
theorem d31_IZ4 : isRes k31_IZ4.res (runK P L true [] [] G_IZ4 k31_IZ4) = true := by decide +kernel
theorem c31_IZ4 : Con P (Fence.there P) G_IZ4.holds k31_IZ4 := con_of_run (H := fun _ => True) fbT (by decide +kernel) no_k no_p (fun _ _ => trivial) d31_IZ4
noncomputable def r31_JW : AV plain := .tuple [.agg [.sx (.bin 0 (.v 11) (.v 19)) 0 101000000, .sx (.bin 0 (.v 12) (.v 19)) 0 101000000, .sx (.bin 0 (.v 13) (.v 20)) 0 101000000, .sx (.bin 0 (.v 14) (.v 20)) 0 101000000, .sx (.bin 3 (.v 60) (.v 66)) 2000 5000, .sx (.bin 4 (.v 61) (.v 67)) 2000 5000, .sx (.bin 0 (.v 17) (.v 22)) 0 101000000000, .sx (.bin 0 (.v 18) (.v 22)) 0 101000000000], .agg [.int .i64 0, .int .i64 0, .int .i64 0, .int .i64 0, .int .i64 0, .int .i64 0], .bool false]
noncomputable def k31_JW : KC := { f := 31, args := a_JW, res := .ret r31_JW }
theorem d31_JW : isRes k31_JW.res (runK P L true [] [] G_JW k31_JW) = true := by decide +kernel
theorem c31_JW : Con P (Fence.there P) G_JW.holds k31_JW := con_of_run (H := fun _ => True) fbT (by decide +kernel) no_k no_p (fun _ _ => trivial) d31_JW
noncomputable def r31_JY0 : AV plain := .tuple [.agg [.sx (.v 11) 0 1000000, .sx (.v 12) 0 1000000, .sx (.v 13) 0 1000000, .sx (.v 14) 0 1000000, .sx (.v 15) 2000 5000, .sx (.v 16) 2000 5000, .sx (.bin 0 (.v 17) (.v 22)) 0 101000000000, .sx (.bin 0 (.v 18) (.v 22)) 0 101000000000], .agg [.int .i64 0, .int .i64 0, .int .i64 0, .int .i64 0, .int .i64 0, .int .i64 0], .bool false]
noncomputable def k31_JY0 : KC := { f := 31, args := a_JY0, res := .ret r31_JY0 }
theorem d31_JY0 : isRes k31_JY0.res (runK P L true [] [] G_JY0 k31_JY0) = true := by decide +kernel
theorem c31_JY0 : Con P (Fence.there P) G_JY0.holds k31_JY0 := con_of_run (H := fun _ => True) fbT (by decide +kernel) no_k no_p (fun _ _ => trivial) d31_JY0
noncomputable def r31_JY1 : AV plain := .tuple [.agg [.sx (.v 11) 0 1000000, .sx (.v 12) 0 1000000, .sx (.v 13) 0 1000000, .sx (.v 14) 0 1000000, .sx (.v 15) 2000 5000, .sx (.v 16) 2000 5000, .sx (.bin 0 (.v 17) (.v 22)) 0 101000000000, .sx (.bin 0 (.v 18) (.v 22)) 0 101000000000], .agg [.int .i64 0, .int .i64 0, .int .i64 0, .int .i64 0, .int .i64 0, .int .i64 0], .bool false]
noncomputable def k31_JY1 : KC := { f := 31, args := a_JY1, res := .ret r31_JY1 }
theorem d31_JY1 : isRes k31_JY1.res (runK P L true [] [] G_JY1 k31_JY1) = true := by decide +kernel
theorem c31_JY1 : Con P (Fence.there P) G_JY1.holds k31_JY1 := con_of_run (H := fun _ => True) fbT (by decide +kernel) no_k no_p (fun _ _ => trivial) d31_JY1
noncomputable def r31_V0 : AV plain := .tuple [.agg [.sx (.v 11) 0 1000000, .sx (.v 12) 0 1000000, .sx (.v 13) 0 1000000, .sx (.v 14) 0 1000000, .sx (.v 15) 2000 5000, .sx (.v 16) 2000 5000, .sx (.v 17) 0 1000000000, .sx (.v 18) 0 1000000000], .agg [.int .i64 0, .int .i64 0, .int .i64 0, .int .i64 0, .int .i64 0, .int .i64 0], .bool false]
noncomputable def k31_V0 : KC := { f := 31, args := a_V0, res := .ret r31_V0 }
theorem d31_V0 : isRes k31_V0.res (runK P L true [] [] G_V0 k31_V0) = true := by decide +kernel
theorem c31_V0 : Con P (Fence.there P) G_V0.holds k31_V0 := con_of_run (H := fun _ => True) fbT (by decide +kernel) no_k no_p (fun _ _ => trivial) d31_V0
end Go.Ev.Gas
end

