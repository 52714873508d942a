import Derived.Test.YtdpegcimhhegmaaDo1
import Derived.Test.YtdpegcimhhegmaaDo2
import Derived.Test.YtdpegcimhhegmaaDo3
set_option linter.unusedVariables false
set_option linter.unusedSimpArgs false
set_option linter.unusedSectionVars false
noncomputable section
set_option maxRecDepth 1000000
set_option maxHeartbeats 0
namespace Go.Ev.Gas
noncomputable def k68_IH : KC := { f := 68, args := a_IH, res := .ret (.tuple [.agg [.int .i64 0, .int .i64 0, .int .i64 0, .int .i64 0, .int .i64 0, .int .i64 0, .int .i64 0, .int .i64 0], .agg [.int .i64 0, .int .i64 0, .int .i64 0, .int .i64 0, .int .i64 0, .int .i64 0], .bool false]) }
theorem d68_IH : treeK P L true [] sDo k68_IH t_IH G_IH = true := by decide +kernel
theorem c68_IH : Con P (Fence.there P) G_IH.holds k68_IH := con_of_tree (H := fun _ => True) fbT (by decide +kernel) no_k sDo_ok t_IH G_IH (fun _ _ => trivial) d68_IH (fun G' h' => by rw [show outs t_IH G_IH = [] from rfl] at h'; cases h')
noncomputable def k29_IH : KC := { f := 29, args := a_IH, res := .ret (.tuple [.agg [.int .i64 0, .int .i64 0, .int .i64 0, .int .i64 0, .int .i64 0, .int .i64 0, .int .i64 0, .int .i64 0], .agg [.int .i64 0, .int .i64 0, .int .i64 0, .int .i64 0, .int .i64 0, .int .i64 0], .int .i64 7]) }
theorem d29_IH : isRes k29_IH.res (runK P L true [k68_IH] [] G_IH k29_IH) = true := by decide +kernel
theorem c29_IH : Con P (Fence.there P) G_IH.holds k29_IH := con_of_run fbT (by decide +kernel) (List.forall_mem_cons.2 ⟨⟨by decide +kernel, c68_IH⟩, List.forall_mem_nil _⟩) no_p (fun _ h => h) d29_IH
noncomputable def k68_IW : KC := { f := 68, args := a_IW, res := .ret (.tuple [.agg [.int .i64 0, .int .i64 0, .int .i64 0, .int .i64 0, .int .i64 0, .int .i64 0, .int .i64 0, .int .i64 0], .agg [.int .i64 0, .int .i64 0, .int .i64 0, .int .i64 0, .int .i64 0, .int .i64 0], .bool false]) }
theorem d68_IW : treeK P L true [] sDo k68_IW t_IW G_IW = true := by decide +kernel
theorem c68_IW : Con P (Fence.there P) G_IW.holds k68_IW := con_of_tree (H := fun _ => True) fbT (by decide +kernel) no_k sDo_ok t_IW G_IW (fun _ _ => trivial) d68_IW (fun G' h' => by rw [show outs t_IW G_IW = [] from rfl] at h'; cases h')
noncomputable def k29_IW : KC := { f := 29, args := a_IW, res := .ret (.tuple [.agg [.int .i64 0, .int .i64 0, .int .i64 0, .int .i64 0, .int .i64 0, .int .i64 0, .int .i64 0, .int .i64 0], .agg [.int .i64 0, .int .i64 0, .int .i64 0, .int .i64 0, .int .i64 0, .int .i64 0], .int .i64 7]) }
theorem d29_IW : isRes k29_IW.res (runK P L true [k68_IW] [] G_IW k29_IW) = true := by decide +kernel
theorem c29_IW : Con P (Fence.there P) G_IW.holds k29_IW := con_of_run fbT (by decide +kernel) (List.forall_mem_cons.2 ⟨⟨by decide +kernel, c68_IW⟩, List.forall_mem_nil _⟩) no_p (fun _ h => h) d29_IW
noncomputable def k68_IZ1 : KC := { f := 68, args := a_IZ1, res := .ret (.tuple [.agg [.sx (.v 11) 0 1000000, .sx (.v 12) 0 1000000, .sx (.v 13) 0 1000000, .sx (.v 14) 0 1000000, .sx (.v 15) 2000 5000, .sx (.v 16) 2000 5000, .sx (.bin 0 (.v 17) (.v 22)) 0 2000000000, .sx (.bin 0 (.v 18) (.v 22)) 0 2000000000], .agg [.int .i64 0, .int .i64 0, .int .i64 0, .int .i64 0, .int .i64 0, .int .i64 0], .bool true]) }
theorem d68_IZ1 : treeK P L true [] sDo k68_IZ1 t_IZ1 G_IZ1 = true := by decide +kernel
theorem c68_IZ1 : Con P (Fence.there P) G_IZ1.holds k68_IZ1 := con_of_tree (H := fun _ => True) fbT (by decide +kernel) no_k sDo_ok t_IZ1 G_IZ1 (fun _ _ => trivial) d68_IZ1 (fun G' h' => by rw [show outs t_IZ1 G_IZ1 = [] from rfl] at h'; cases h')
noncomputable def k29_IZ1 : KC := { f := 29, args := a_IZ1, res := .ret (.tuple [.agg [.sx (.v 11) 0 1000000, .sx (.v 12) 0 1000000, .sx (.v 13) 0 1000000, .sx (.v 14) 0 1000000, .sx (.v 15) 2000 5000, .sx (.v 16) 2000 5000, .sx (.bin 0 (.v 17) (.v 22)) 0 2000000000, .sx (.bin 0 (.v 18) (.v 22)) 0 2000000000], .agg [.int .i64 0, .int .i64 0, .int .i64 0, .int .i64 0, .int .i64 0, .int .i64 0], .int .i64 0]) }
theorem d29_IZ1 : isRes k29_IZ1.res (runK P L true [k68_IZ1] [] G_IZ1 k29_IZ1) = true := by decide +kernel
theorem c29_IZ1 : Con P (Fence.there P) G_IZ1.holds k29_IZ1 := con_of_run fbT (by decide +kernel) (List.forall_mem_cons.2 ⟨⟨by decide +kernel, c68_IZ1⟩, List.forall_mem_nil _⟩) no_p (fun _ h => h) d29_IZ1
noncomputable def k68_IZ2 : KC := { f := 68, args := a_IZ2, res := .ret (.tuple [.agg [.sx (.v 11) 0 1000000, .sx (.v 12) 0 1000000, .sx (.v 13) 0 1000000, .sx (.v 14) 0 1000000, .sx (.v 15) 2000 5000, .sx (.v 16) 2000 5000, .sx (.bin 0 (.v 17) (.v 22)) 0 2000000000, .sx (.bin 0 (.v 18) (.v 22)) 0 2000000000], .agg [.int .i64 0, .int .i64 0, .int .i64 0, .int .i64 0, .int .i64 0, .int .i64 0], .bool true]) }
theorem d68_IZ2 : treeK P L true [] sDo k68_IZ2 t_IZ2 G_IZ2 = true := by decide +kernel
theorem c68_IZ2 : Con P (Fence.there P) G_IZ2.holds k68_IZ2 := con_of_tree (H := fun _ => True) fbT (by decide +kernel) no_k sDo_ok t_IZ2 G_IZ2 (fun _ _ => trivial) d68_IZ2 (fun G' h' => by rw [show outs t_IZ2 G_IZ2 = [] from rfl] at h'; cases h')
noncomputable def k29_IZ2 : KC := { f := 29, args := a_IZ2, res := .ret (.tuple [.agg [.sx (.v 11) 0 1000000, .sx (.v 12) 0 1000000, .sx (.v 13) 0 1000000, .sx (.v 14) 0 1000000, .sx (.v 15) 2000 5000, .sx (.v 16) 2000 5000, .sx (.bin 0 (.v 17) (.v 22)) 0 2000000000, .sx (.bin 0 (.v 18) (.v 22)) 0 2000000000], .agg [.int .i64 0, .int .i64 0, .int .i64 0, .int .i64 0, .int .i64 0, .int .i64 0], .int .i64 0]) }
theorem d29_IZ2 : isRes k29_IZ2.res (runK P L true [k68_IZ2] [] G_IZ2 k29_IZ2) = true := by decide +kernel
theorem c29_IZ2 : Con P (Fence.there P) G_IZ2.holds k29_IZ2 := con_of_run fbT (by decide +kernel) (List.forall_mem_cons.2 ⟨⟨by decide +kernel, c68_IZ2⟩, List.forall_mem_nil _⟩) no_p (fun _ h => h) d29_IZ2
noncomputable def k68_IY0 : KC := { f := 68, args := a_IY0, res := .ret (.tuple [.agg [.int .i64 0, .int .i64 0, .int .i64 0, .int .i64 0, .int .i64 0, .int .i64 0, .int .i64 0, .int .i64 0], .agg [.int .i64 0, .int .i64 0, .int .i64 0, .int .i64 0, .int .i64 0, .int .i64 0], .bool false]) }
theorem d68_IY0 : treeK P L true [] sDo k68_IY0 t_IY0 G_IY0 = true := by decide +kernel
theorem c68_IY0 : Con P (Fence.there P) G_IY0.holds k68_IY0 := con_of_tree (H := fun _ => True) fbT (by decide +kernel) no_k sDo_ok t_IY0 G_IY0 (fun _ _ => trivial) d68_IY0 (fun G' h' => by rw [show outs t_IY0 G_IY0 = [] from rfl] at h'; cases h')
noncomputable def k29_IY0 : KC := { f := 29, args := a_IY0, res := .ret (.tuple [.agg [.int .i64 0, .int .i64 0, .int .i64 0, .int .i64 0, .int .i64 0, .int .i64 0, .int .i64 0, .int .i64 0], .agg [.int .i64 0, .int .i64 0, .int .i64 0, .int .i64 0, .int .i64 0, .int .i64 0], .int .i64 7]) }
theorem d29_IY0 : isRes k29_IY0.res (runK P L true [k68_IY0] [] G_IY0 k29_IY0) = true := by decide +kernel
theorem c29_IY0 : Con P (Fence.there P) G_IY0.holds k29_IY0 := con_of_run fbT (by decide +kernel) (List.forall_mem_cons.2 ⟨⟨by decide +kernel, c68_IY0⟩, List.forall_mem_nil _⟩) no_p (fun _ h => h) d29_IY0
noncomputable def k68_IY1 : KC := { f := 68, args := a_IY1, res := .ret (.tuple [.agg [.int .i64 0, .int .i64 0, .int .i64 0, .int .i64 0, .int .i64 0, .int .i64 0, .int .i64 0, .int .i64 0], .agg [.int .i64 0, .int .i64 0, .int .i64 0, .int .i64 0, .int .i64 0, .int .i64 0], .bool false]) }
theorem d68_IY1 : treeK P L true [] sDo k68_IY1 t_IY1 G_IY1 = true := by decide +kernel
theorem c68_IY1 : Con P (Fence.there P) G_IY1.holds k68_IY1 := con_of_tree (H := fun _ => True) fbT (by decide +kernel) no_k sDo_ok t_IY1 G_IY1 (fun _ _ => trivial) d68_IY1 (fun G' h' => by rw [show outs t_IY1 G_IY1 = [] from rfl] at h'; cases h')
noncomputable def k29_IY1 : KC := { f := 29, args := a_IY1, res := .ret (.tuple [.agg [.int .i64 0, .int .i64 0, .int .i64 0, .int .i64 0, .int .i64 0, .int .i64 0, .int .i64 0, .int .i64 0], .agg [.int .i64 0, .int .i64 0, .int .i64 0, .int .i64 0, .int .i64 0, .int .i64 0], .int .i64 7]) }
theorem d29_IY1 : isRes k29_IY1.res (runK P L true [k68_IY1] [] G_IY1 k29_IY1) = true := by decide +kernel
theorem c29_IY1 : Con P (Fence.there P) G_IY1.holds k29_IY1 := con_of_run fbT (by decide +kernel) (List.forall_mem_cons.2 ⟨⟨by decide +kernel, c68_IY1⟩, List.forall_mem_nil _⟩) no_p (fun _ h => h) d29_IY1
noncomputable def k68_IY2 : KC := { f := 68, args := a_IY2, res := .ret (.tuple [.agg [.int .i64 0, .int .i64 0, .int .i64 0, .int .i64 0, .int .i64 0, .int .i64 0, .int .i64 0, .int .i64 0], .agg [.int .i64 0, .int .i64 0, .int .i64 0, .int .i64 0, .int .i64 0, .int .i64 0], .bool false]) }
theorem d68_IY2 : treeK P L true [] sDo k68_IY2 t_IY2 G_IY2 = true := by decide +kernel
theorem c68_IY2 : Con P (Fence.there P) G_IY2.holds k68_IY2 := con_of_tree (H := fun _ => True) fbT (by decide +kernel) no_k sDo_ok t_IY2 G_IY2 (fun _ _ => trivial) d68_IY2 (fun G' h' => by rw [show outs t_IY2 G_IY2 = [] from rfl] at h'; cases h')
noncomputable def k29_IY2 : KC := { f := 29, args := a_IY2, res := .ret (.tuple [.agg [.int .i64 0, .int .i64 0, .int .i64 0, .int .i64 0, .int .i64 0, .int .i64 0, .int .i64 0, .int .i64 0], .agg [.int .i64 0, .int .i64 0, .int .i64 0, .int .i64 0, .int .i64 0, .int .i64 0], .int .i64 7]) }
theorem d29_IY2 : isRes k29_IY2.res (runK P L true [k68_IY2] [] G_IY2 k29_IY2) = true := by decide +kernel
theorem c29_IY2 : Con P (Fence.there P) G_IY2.holds k29_IY2 := con_of_run fbT (by decide +kernel) (List.forall_mem_cons.2 ⟨⟨by decide +kernel, c68_IY2⟩, List.forall_mem_nil _⟩) no_p (fun _ h => h) d29_IY2
end Go.Ev.Gas
end

