import Derived.Test.YtdpegcimhhegmaaBigN
set_option linter.unusedVariables false
set_option linter.unusedSimpArgs false
set_option linter.unusedSectionVars false
noncomputable section
set_option maxRecDepth 1000000
set_option maxHeartbeats 0
namespace Go.Ev.Gas
open Go.RowKit Go.Ev.Num
noncomputable def r31_W1 : AV plain := .tuple [.agg [.sx (.bin 1 (.v 11) (.bin 1 (.v 23) (.v 60))) (-2000000) 2000000, .sx (.bin 1 (.v 12) (.bin 1 (.v 23) (.v 63))) (-2000000) 2000000, .sx (.bin 1 (.v 13) (.v 60)) (-1000000) 1000000, .sx (.bin 1 (.v 14) (.v 63)) (-1000000) 1000000, .sx (.v 15) 2000 5000, .sx (.v 16) 2000 5000, .sx (.bin 1 (.v 17) (.v 70)) (-1000000000) 1000000000, .sx (.bin 1 (.v 18) (.v 77)) (-1000000000) 1000000000], .agg [.sx (.bin 1 (.v 23) (.v 61)) (-1000000) 2000000, .sx (.bin 1 (.v 23) (.v 62)) (-1000000) 2000000, .sx (.v 62) 0 1000000, .sx (.v 61) 0 1000000, .sx (.v 76) 0 1000000000, .sx (.v 71) 0 1000000000], .bool true]
noncomputable def k31_W1 : KC := { f := 31, args := a_W1, res := .ret r31_W1 }
theorem d31_W1 : isRes k31_W1.res (runK P L true [] [] G_W1 k31_W1) = true := by decide +kernel
theorem c31_W1 : Con P (Fence.there P) G_W1.holds k31_W1 := con_of_run (H := fun _ => True) fbT (by decide +kernel) no_k no_p (fun _ _ => trivial) d31_W1
noncomputable def r31_WZ0 : AV plain := .tuple [.agg [.sx (.v 11) 0 0, .sx (.v 12) 1 1000000, .sx (.v 13) 0 0, .sx (.v 14) 1 1000000, .sx (.v 15) 2000 5000, .sx (.v 16) 2000 5000, .sx (.v 17) 0 1000000000, .sx (.v 18) 0 1000000000], .agg [.sx (.v 23) 0 0, .sx (.v 23) 0 0, .sx (.c 0) 0 0, .sx (.c 0) 0 0, .sx (.c 0) 0 0, .int .i64 0], .bool true]
noncomputable def k31_WZ0 : KC := { f := 31, args := a_WZ0, res := .ret r31_WZ0 }
theorem d31_WZ0 : isRes k31_WZ0.res (runK P L true [] [] G_WZ0 k31_WZ0) = true := by decide +kernel
theorem c31_WZ0 : Con P (Fence.there P) G_WZ0.holds k31_WZ0 := con_of_run (H := fun _ => True) fbT (by decide +kernel) no_k no_p (fun _ _ => trivial) d31_WZ0
noncomputable def r31_WZ1 : AV plain := .tuple [.agg [.sx (.v 11) 0 0, .sx (.v 12) 1 1000000, .sx (.v 13) 0 0, .sx (.v 14) 0 0, .sx (.v 15) 2000 5000, .sx (.v 16) 2000 5000, .sx (.v 17) 0 1000000000, .sx (.v 18) 0 1000000000], .agg [.sx (.v 23) 0 0, .sx (.v 23) 0 0, .sx (.c 0) 0 0, .int .i64 0, .sx (.c 0) 0 0, .int .i64 0], .bool true]
noncomputable def k31_WZ1 : KC := { f := 31, args := a_WZ1, res := .ret r31_WZ1 }
theorem d31_WZ1 : isRes k31_WZ1.res (runK P L true [] [] G_WZ1 k31_WZ1) = true := by decide +kernel
theorem c31_WZ1 : Con P (Fence.there P) G_WZ1.holds k31_WZ1 := con_of_run (H := fun _ => True) fbT (by decide +kernel) no_k no_p (fun _ _ => trivial) d31_WZ1
noncomputable def r31_RA : AV plain := .tuple [.agg [.sx (.v 11) 0 1000000, .sx (.v 12) 0 1000000, .sx (.v 13) 0 1000000, .sx (.v 14) 0 1000000, .sx (.bin 3 (.v 60) (.v 61)) 2000 5000, .sx (.bin 4 (.v 62) (.v 63)) 2000 5000, .sx (.bin 0 (.v 17) (.v 26)) 0 1001000000, .sx (.bin 0 (.v 18) (.v 27)) 0 1001000000], .agg [.int .i64 0, .int .i64 0, .int .i64 0, .int .i64 0, .int .i64 0, .int .i64 0], .bool true]
noncomputable def k31_RA : KC := { f := 31, args := a_RA, res := .ret r31_RA }
theorem d31_RA : isRes k31_RA.res (runK P L true [] [] G_RA k31_RA) = true := by decide +kernel
theorem c31_RA : Con P (Fence.there P) G_RA.holds k31_RA := con_of_run (H := fun _ => True) fbT (by decide +kernel) no_k no_p (fun _ _ => trivial) d31_RA
noncomputable def r31_RW : AV plain := .tuple [.agg [.sx (.v 11) 0 1000000, .sx (.v 12) 0 1000000, .sx (.v 13) 0 1000000, .sx (.v 14) 0 1000000, .sx (.bin 3 (.v 60) (.v 61)) 2000 5000, .sx (.bin 4 (.v 62) (.v 63)) 2000 5000, .sx (.bin 0 (.v 17) (.v 26)) 0 1001000000, .sx (.bin 0 (.v 18) (.v 27)) 0 1001000000], .agg [.int .i64 0, .int .i64 0, .int .i64 0, .int .i64 0, .int .i64 0, .int .i64 0], .bool false]
noncomputable def k31_RW : KC := { f := 31, args := a_RW, res := .ret r31_RW }
theorem d31_RW : isRes k31_RW.res (runK P L true [] [] G_RW k31_RW) = true := by decide +kernel
theorem c31_RW : Con P (Fence.there P) G_RW.holds k31_RW := con_of_run (H := fun _ => True) fbT (by decide +kernel) no_k no_p (fun _ _ => trivial) d31_RW
end Go.Ev.Gas
end

noncomputable section
set_option maxRecDepth 1000000
set_option maxHeartbeats 0
namespace Go.Ev.Gas
open Go.RowKit Go.Ev.Num
noncomputable def r31_WZ2 : AV plain := .tuple [.agg [.sx (.v 11) 0 0, .sx (.v 12) 0 0, .sx (.v 13) 0 0, .sx (.v 14) 1 1000000, .sx (.v 15) 2000 5000, .sx (.v 16) 2000 5000, .sx (.v 17) 0 1000000000, .sx (.v 18) 0 1000000000], .agg [.sx (.v 23) 0 0, .sx (.v 23) 0 0, .int .i64 0, .sx (.c 0) 0 0, .sx (.c 0) 0 0, .int .i64 0], .bool true]
noncomputable def k31_WZ2 : KC := { f := 31, args := a_WZ2, res := .ret r31_WZ2 }
theorem d31_WZ2 : isRes k31_WZ2.res (runK P L true [] [] G_WZ2 k31_WZ2) = true := by decide +kernel
theorem c31_WZ2 : Con P (Fence.there P) G_WZ2.holds k31_WZ2 := con_of_run (H := fun _ => True) fbT (by decide +kernel) no_k no_p (fun _ _ => trivial) d31_WZ2
noncomputable def r31_WZ3 : AV plain := .tuple [.agg [.sx (.v 11) 0 0, .sx (.v 12) 0 0, .sx (.v 13) 0 0, .sx (.v 14) 0 0, .sx (.v 15) 2000 5000, .sx (.v 16) 2000 5000, .sx (.v 17) 0 1000000000, .sx (.v 18) 0 1000000000], .agg [.sx (.v 23) 0 0, .sx (.v 23) 0 0, .int .i64 0, .int .i64 0, .int .i64 0, .int .i64 0], .bool true]
noncomputable def k31_WZ3 : KC := { f := 31, args := a_WZ3, res := .ret r31_WZ3 }
theorem d31_WZ3 : isRes k31_WZ3.res (runK P L true [] [] G_WZ3 k31_WZ3) = true := by decide +kernel
theorem c31_WZ3 : Con P (Fence.there P) G_WZ3.holds k31_WZ3 := con_of_run (H := fun _ => True) fbT (by decide +kernel) no_k no_p (fun _ _ => trivial) d31_WZ3
noncomputable def r31_JY2 : AV plain := .tuple [.agg [.sx (.v 11) 0 1000000, .sx (.v 12) 0 1000000, .sx (.v 13) 0 1000000, .sx (.v 14) 0 1000000, .sx (.v 15) 2000 5000, .sx (.v 16) 2000 5000, .sx (.bin 0 (.v 17) (.v 22)) 0 101000000000, .sx (.bin 0 (.v 18) (.v 22)) 0 101000000000], .agg [.int .i64 0, .int .i64 0, .int .i64 0, .int .i64 0, .int .i64 0, .int .i64 0], .bool false]
noncomputable def k31_JY2 : KC := { f := 31, args := a_JY2, res := .ret r31_JY2 }
theorem d31_JY2 : isRes k31_JY2.res (runK P L true [] [] G_JY2 k31_JY2) = true := by decide +kernel
theorem c31_JY2 : Con P (Fence.there P) G_JY2.holds k31_JY2 := con_of_run (H := fun _ => True) fbT (by decide +kernel) no_k no_p (fun _ _ => trivial) d31_JY2
noncomputable def r31_JY3 : AV plain := .tuple [.agg [.sx (.v 11) 0 1000000, .sx (.v 12) 0 1000000, .sx (.v 13) 0 1000000, .sx (.v 14) 0 1000000, .sx (.v 15) 2000 5000, .sx (.v 16) 2000 5000, .sx (.bin 0 (.v 17) (.v 22)) 0 101000000000, .sx (.bin 0 (.v 18) (.v 22)) 0 101000000000], .agg [.int .i64 0, .int .i64 0, .int .i64 0, .int .i64 0, .int .i64 0, .int .i64 0], .bool false]
noncomputable def k31_JY3 : KC := { f := 31, args := a_JY3, res := .ret r31_JY3 }
theorem d31_JY3 : isRes k31_JY3.res (runK P L true [] [] G_JY3 k31_JY3) = true := by decide +kernel
theorem c31_JY3 : Con P (Fence.there P) G_JY3.holds k31_JY3 := con_of_run (H := fun _ => True) fbT (by decide +kernel) no_k no_p (fun _ _ => trivial) d31_JY3
noncomputable def r31_JY4 : AV plain := .tuple [.agg [.sx (.v 11) 0 1000000, .sx (.v 12) 0 1000000, .sx (.v 13) 0 1000000, .sx (.v 14) 0 1000000, .sx (.v 15) 2000 5000, .sx (.v 16) 2000 5000, .sx (.bin 0 (.v 17) (.v 22)) 0 101000000000, .sx (.bin 0 (.v 18) (.v 22)) 0 101000000000], .agg [.int .i64 0, .int .i64 0, .int .i64 0, .int .i64 0, .int .i64 0, .int .i64 0], .bool false]
noncomputable def k31_JY4 : KC := { f := 31, args := a_JY4, res := .ret r31_JY4 }
theorem d31_JY4 : isRes k31_JY4.res (runK P L true [] [] G_JY4 k31_JY4) = true := by decide +kernel
theorem c31_JY4 : Con P (Fence.there P) G_JY4.holds k31_JY4 := con_of_run (H := fun _ => True) fbT (by decide +kernel) no_k no_p (fun _ _ => trivial) d31_JY4
end Go.Ev.Gas
end

