import Derived.Test.YtdpegcimhhegmaaDo1
import Derived.Test.YtdpegcimhhegmaaDo2
import Derived.Test.YtdpegcimhhegmaaDo3
set_option linter.unusedVariables false
set_option linter.unusedSimpArgs false
set_option linter.unusedSectionVars false
noncomputable section
set_option maxRecDepth 1000000
set_option maxHeartbeats 0
namespace Go.Ev.Gas
noncomputable def k68_IZ3 : KC := { f := 68, args := a_IZ3, res := .ret (.tuple [.agg [.sx (.v 11) 0 1000000, .sx (.v 12) 0 1000000, .sx (.v 13) 0 1000000, .sx (.v 14) 0 1000000, .sx (.v 15) 2000 5000, .sx (.v 16) 2000 5000, .sx (.bin 0 (.v 17) (.v 22)) 0 2000000000, .sx (.bin 0 (.v 18) (.v 22)) 0 2000000000], .agg [.int .i64 0, .int .i64 0, .int .i64 0, .int .i64 0, .int .i64 0, .int .i64 0], .bool true]) }
theorem d68_IZ3 : treeK P L true [] sDo k68_IZ3 t_IZ3 G_IZ3 = true := by decide +kernel
theorem c68_IZ3 : Con P (Fence.there P) G_IZ3.holds k68_IZ3 := con_of_tree (H := fun _ => True) fbT (by decide +kernel) no_k sDo_ok t_IZ3 G_IZ3 (fun _ _ => trivial) d68_IZ3 (fun G' h' => by rw [show outs t_IZ3 G_IZ3 = [] from rfl] at h'; cases h')
noncomputable def k29_IZ3 : KC := { f := 29, args := a_IZ3, res := .ret (.tuple [.agg [.sx (.v 11) 0 1000000, .sx (.v 12) 0 1000000, .sx (.v 13) 0 1000000, .sx (.v 14) 0 1000000, .sx (.v 15) 2000 5000, .sx (.v 16) 2000 5000, .sx (.bin 0 (.v 17) (.v 22)) 0 2000000000, .sx (.bin 0 (.v 18) (.v 22)) 0 2000000000], .agg [.int .i64 0, .int .i64 0, .int .i64 0, .int .i64 0, .int .i64 0, .int .i64 0], .int .i64 0]) }
theorem d29_IZ3 : isRes k29_IZ3.res (runK P L true [k68_IZ3] [] G_IZ3 k29_IZ3) = true := by decide +kernel
theorem c29_IZ3 : Con P (Fence.there P) G_IZ3.holds k29_IZ3 := con_of_run fbT (by decide +kernel) (List.forall_mem_cons.2 ⟨⟨by decide +kernel, c68_IZ3⟩, List.forall_mem_nil _⟩) no_p (fun _ h => h) d29_IZ3
noncomputable def k68_IZ4 : KC := { f := 68, args := a_IZ4, res := .ret (.tuple [.agg [.sx (.v 11) 0 1000000, .sx (.v 12) 0 1000000, .sx (.v 13) 0 1000000, .sx (.v 14) 0 1000000, .sx (.v 15) 2000 5000, .sx (.v 16) 2000 5000, .sx (.bin 0 (.v 17) (.v 22)) 0 2000000000, .sx (.bin 0 (.v 18) (.v 22)) 0 2000000000], .agg [.int .i64 0, .int .i64 0, .int .i64 0, .int .i64 0, .int .i64 0, .int .i64 0], .bool true]) }
theorem d68_IZ4 : treeK P L true [] sDo k68_IZ4 t_IZ4 G_IZ4 = true := by decide +kernel
theorem c68_IZ4 : Con P (Fence.there P) G_IZ4.holds k68_IZ4 := con_of_tree (H := fun _ => True) fbT (by decide +kernel) no_k sDo_ok t_IZ4 G_IZ4 (fun _ _ => trivial) d68_IZ4 (fun G' h' => by rw [show outs t_IZ4 G_IZ4 = [] from rfl] at h'; cases h')
noncomputable def k29_IZ4 : KC := { f := 29, args := a_IZ4, res := .ret (.tuple [.agg [.sx (.v 11) 0 1000000, .sx (.v 12) 0 1000000, .sx (.v 13) 0 1000000, .sx (.v 14) 0 1000000, .sx (.v 15) 2000 5000, .sx (.v 16) 2000 5000, .sx (.bin 0 (.v 17) (.v 22)) 0 2000000000, .sx (.bin 0 (.v 18) (.v 22)) 0 2000000000], .agg [.int .i64 0, .int .i64 0, .int .i64 0, .int .i64 0, .int .i64 0, .int .i64 0], .int .i64 0]) }
theorem d29_IZ4 : isRes k29_IZ4.res (runK P L true [k68_IZ4] [] G_IZ4 k29_IZ4) = true := by decide +kernel
theorem c29_IZ4 : Con P (Fence.there P) G_IZ4.holds k29_IZ4 := con_of_run fbT (by decide +kernel) (List.forall_mem_cons.2 ⟨⟨by decide +kernel, c68_IZ4⟩, List.forall_mem_nil _⟩) no_p (fun _ h => h) d29_IZ4
noncomputable def k68_IY3 : KC := { f := 68, args := a_IY3, res := .ret (.tuple [.agg [.int .i64 0, .int .i64 0, .int .i64 0, .int .i64 0, .int .i64 0, .int .i64 0, .int .i64 0, .int .i64 0], .agg [.int .i64 0, .int .i64 0, .int .i64 0, .int .i64 0, .int .i64 0, .int .i64 0], .bool false]) }
theorem d68_IY3 : treeK P L true [] sDo k68_IY3 t_IY3 G_IY3 = true := by decide +kernel
theorem c68_IY3 : Con P (Fence.there P) G_IY3.holds k68_IY3 := con_of_tree (H := fun _ => True) fbT (by decide +kernel) no_k sDo_ok t_IY3 G_IY3 (fun _ _ => trivial) d68_IY3 (fun G' h' => by rw [show outs t_IY3 G_IY3 = [] from rfl] at h'; cases h')
noncomputable def k29_IY3 : KC := { f := 29, args := a_IY3, res := .ret (.tuple [.agg [.int .i64 0, .int .i64 0, .int .i64 0, .int .i64 0, .int .i64 0, .int .i64 0, .int .i64 0, .int .i64 0], .agg [.int .i64 0, .int .i64 0, .int .i64 0, .int .i64 0, .int .i64 0, .int .i64 0], .int .i64 7]) }
theorem d29_IY3 : isRes k29_IY3.res (runK P L true [k68_IY3] [] G_IY3 k29_IY3) = true := by decide +kernel
theorem c29_IY3 : Con P (Fence.there P) G_IY3.holds k29_IY3 := con_of_run fbT (by decide +kernel) (List.forall_mem_cons.2 ⟨⟨by decide +kernel, c68_IY3⟩, List.forall_mem_nil _⟩) no_p (fun _ h => h) d29_IY3
noncomputable def k68_IY4 : KC := { f := 68, args := a_IY4, res := .ret (.tuple [.agg [.int .i64 0, .int .i64 0, .int .i64 0, .int .i64 0, .int .i64 0, .int .i64 0, .int .i64 0, .int .i64 0], .agg [.int .i64 0, .int .i64 0, .int .i64 0, .int .i64 0, .int .i64 0, .int .i64 0], .bool false]) }
theorem d68_IY4 : treeK P L true [] sDo k68_IY4 t_IY4 G_IY4 = true := by decide +kernel
theorem c68_IY4 : Con P (Fence.there P) G_IY4.holds k68_IY4 := con_of_tree (H := fun _ => True) fbT (by decide +kernel) no_k sDo_ok t_IY4 G_IY4 (fun _ _ => trivial) d68_IY4 (fun G' h' => by rw [show outs t_IY4 G_IY4 = [] from rfl] at h'; cases h')
noncomputable def k29_IY4 : KC := { f := 29, args := a_IY4, res := .ret (.tuple [.agg [.int .i64 0, .int .i64 0, .int .i64 0, .int .i64 0, .int .i64 0, .int .i64 0, .int .i64 0, .int .i64 0], .agg [.int .i64 0, .int .i64 0, .int .i64 0, .int .i64 0, .int .i64 0, .int .i64 0], .int .i64 7]) }
theorem d29_IY4 : isRes k29_IY4.res (runK P L true [k68_IY4] [] G_IY4 k29_IY4) = true := by decide +kernel
theorem c29_IY4 : Con P (Fence.there P) G_IY4.holds k29_IY4 := con_of_run fbT (by decide +kernel) (List.forall_mem_cons.2 ⟨⟨by decide +kernel, c68_IY4⟩, List.forall_mem_nil _⟩) no_p (fun _ h => h) d29_IY4
noncomputable def k68_WZ0 : KC := { f := 68, args := a_WZ0, res := .ret (.tuple [.agg [.sx (.v 11) 0 0, .sx (.v 12) 1 1000000, .sx (.v 13) 0 0, .sx (.v 14) 1 1000000, .sx (.v 15) 2000 5000, .sx (.v 16) 2000 5000, .sx (.v 17) 0 1000000000, .sx (.v 18) 0 1000000000], .agg [.int .i64 0, .int .i64 0, .int .i64 0, .int .i64 0, .int .i64 0, .int .i64 0], .bool true]) }
theorem d68_WZ0 : treeK P L true [] sDo k68_WZ0 t_WZ0 G_WZ0 = true := by decide +kernel
theorem c68_WZ0 : Con P (Fence.there P) G_WZ0.holds k68_WZ0 := con_of_tree (H := fun _ => True) fbT (by decide +kernel) no_k sDo_ok t_WZ0 G_WZ0 (fun _ _ => trivial) d68_WZ0 (fun G' h' => by rw [show outs t_WZ0 G_WZ0 = [] from rfl] at h'; cases h')
noncomputable def k29_WZ0 : KC := { f := 29, args := a_WZ0, res := .ret (.tuple [.agg [.sx (.v 11) 0 0, .sx (.v 12) 1 1000000, .sx (.v 13) 0 0, .sx (.v 14) 1 1000000, .sx (.v 15) 2000 5000, .sx (.v 16) 2000 5000, .sx (.v 17) 0 1000000000, .sx (.v 18) 0 1000000000], .agg [.int .i64 0, .int .i64 0, .int .i64 0, .int .i64 0, .int .i64 0, .int .i64 0], .int .i64 0]) }
theorem d29_WZ0 : isRes k29_WZ0.res (runK P L true [k68_WZ0] [] G_WZ0 k29_WZ0) = true := by decide +kernel
theorem c29_WZ0 : Con P (Fence.there P) G_WZ0.holds k29_WZ0 := con_of_run fbT (by decide +kernel) (List.forall_mem_cons.2 ⟨⟨by decide +kernel, c68_WZ0⟩, List.forall_mem_nil _⟩) no_p (fun _ h => h) d29_WZ0
noncomputable def k68_WZ1 : KC := { f := 68, args := a_WZ1, res := .ret (.tuple [.agg [.sx (.v 11) 0 0, .sx (.v 12) 1 1000000, .sx (.v 13) 0 0, .sx (.v 13) 0 0, .sx (.v 15) 2000 5000, .sx (.v 16) 2000 5000, .sx (.v 17) 0 1000000000, .sx (.v 18) 0 1000000000], .agg [.int .i64 0, .int .i64 0, .int .i64 0, .int .i64 0, .int .i64 0, .int .i64 0], .bool true]) }
theorem d68_WZ1 : treeK P L true [] sDo k68_WZ1 t_WZ1 G_WZ1 = true := by decide +kernel
theorem c68_WZ1 : Con P (Fence.there P) G_WZ1.holds k68_WZ1 := con_of_tree (H := fun _ => True) fbT (by decide +kernel) no_k sDo_ok t_WZ1 G_WZ1 (fun _ _ => trivial) d68_WZ1 (fun G' h' => by rw [show outs t_WZ1 G_WZ1 = [] from rfl] at h'; cases h')
noncomputable def k29_WZ1 : KC := { f := 29, args := a_WZ1, res := .ret (.tuple [.agg [.sx (.v 11) 0 0, .sx (.v 12) 1 1000000, .sx (.v 13) 0 0, .sx (.v 13) 0 0, .sx (.v 15) 2000 5000, .sx (.v 16) 2000 5000, .sx (.v 17) 0 1000000000, .sx (.v 18) 0 1000000000], .agg [.int .i64 0, .int .i64 0, .int .i64 0, .int .i64 0, .int .i64 0, .int .i64 0], .int .i64 0]) }
theorem d29_WZ1 : isRes k29_WZ1.res (runK P L true [k68_WZ1] [] G_WZ1 k29_WZ1) = true := by decide +kernel
theorem c29_WZ1 : Con P (Fence.there P) G_WZ1.holds k29_WZ1 := con_of_run fbT (by decide +kernel) (List.forall_mem_cons.2 ⟨⟨by decide +kernel, c68_WZ1⟩, List.forall_mem_nil _⟩) no_p (fun _ h => h) d29_WZ1
end Go.Ev.Gas
end

noncomputable section
set_option maxRecDepth 1000000
set_option maxHeartbeats 0
namespace Go.Ev.Gas
noncomputable def k68_W1 : KC := { f := 68, args := a_W1, res := .ret (.tuple [.agg [.sx (.bin 1 (.v 11) (.bin 1 (.v 23) (.v 60))) (-2000000) 2000000, .sx (.bin 1 (.v 12) (.bin 1 (.v 23) (.v 63))) (-2000000) 2000000, .sx (.bin 1 (.v 13) (.v 60)) (-1000000) 1000000, .sx (.bin 1 (.v 14) (.v 63)) (-1000000) 1000000, .sx (.v 15) 2000 5000, .sx (.v 16) 2000 5000, .sx (.bin 1 (.v 17) (.v 70)) (-1000000000) 1000000000, .sx (.bin 1 (.v 18) (.v 77)) (-1000000000) 1000000000], .agg [.sx (.bin 1 (.v 23) (.v 61)) (-1000000) 2000000, .sx (.bin 1 (.v 23) (.v 62)) (-1000000) 2000000, .sx (.v 62) 0 1000000, .sx (.v 61) 0 1000000, .sx (.v 76) 0 1000000000, .sx (.v 71) 0 1000000000], .bool true]) }
theorem d68_W1 : treeK P L true [] sDo k68_W1 t_W1 G_W1 = true := by decide +kernel
theorem c68_W1 : Con P (Fence.there P) G_W1.holds k68_W1 := con_of_tree (H := fun _ => True) fbT (by decide +kernel) no_k sDo_ok t_W1 G_W1 (fun _ _ => trivial) d68_W1 (fun G' h' => by rw [show outs t_W1 G_W1 = [] from rfl] at h'; cases h')
noncomputable def k29_W1 : KC := { f := 29, args := a_W1, res := .ret (.tuple [.agg [.sx (.bin 1 (.v 11) (.bin 1 (.v 23) (.v 60))) (-2000000) 2000000, .sx (.bin 1 (.v 12) (.bin 1 (.v 23) (.v 63))) (-2000000) 2000000, .sx (.bin 1 (.v 13) (.v 60)) (-1000000) 1000000, .sx (.bin 1 (.v 14) (.v 63)) (-1000000) 1000000, .sx (.v 15) 2000 5000, .sx (.v 16) 2000 5000, .sx (.bin 1 (.v 17) (.v 70)) (-1000000000) 1000000000, .sx (.bin 1 (.v 18) (.v 77)) (-1000000000) 1000000000], .agg [.sx (.bin 1 (.v 23) (.v 61)) (-1000000) 2000000, .sx (.bin 1 (.v 23) (.v 62)) (-1000000) 2000000, .sx (.v 62) 0 1000000, .sx (.v 61) 0 1000000, .sx (.v 76) 0 1000000000, .sx (.v 71) 0 1000000000], .int .i64 0]) }
theorem d29_W1 : isRes k29_W1.res (runK P L true [k68_W1] [] G_W1 k29_W1) = true := by decide +kernel
theorem c29_W1 : Con P (Fence.there P) G_W1.holds k29_W1 := con_of_run fbT (by decide +kernel) (List.forall_mem_cons.2 ⟨⟨by decide +kernel, c68_W1⟩, List.forall_mem_nil _⟩) no_p (fun _ h => h) d29_W1
noncomputable def k68_RA : KC := { f := 68, args := a_RA, res := .ret (.tuple [.agg [.sx (.v 11) 0 1000000, .sx (.v 12) 0 1000000, .sx (.v 13) 0 1000000, .sx (.v 14) 0 1000000, .sx (.bin 3 (.v 60) (.v 61)) 2000 5000, .sx (.bin 4 (.bin 4 (.bin 4 (.v 60) (.v 61)) (.v 62)) (.v 63)) 2000 5000, .sx (.bin 0 (.v 17) (.v 26)) 0 1001000000, .sx (.bin 0 (.v 18) (.v 27)) 0 1001000000], .agg [.int .i64 0, .int .i64 0, .int .i64 0, .int .i64 0, .int .i64 0, .int .i64 0], .bool true]) }
theorem d68_RA : treeK P L true [] sDo k68_RA t_RA G_RA = true := by decide +kernel
theorem c68_RA : Con P (Fence.there P) G_RA.holds k68_RA := con_of_tree (H := fun _ => True) fbT (by decide +kernel) no_k sDo_ok t_RA G_RA (fun _ _ => trivial) d68_RA (fun G' h' => by rw [show outs t_RA G_RA = [] from rfl] at h'; cases h')
noncomputable def k29_RA : KC := { f := 29, args := a_RA, res := .ret (.tuple [.agg [.sx (.v 11) 0 1000000, .sx (.v 12) 0 1000000, .sx (.v 13) 0 1000000, .sx (.v 14) 0 1000000, .sx (.bin 3 (.v 60) (.v 61)) 2000 5000, .sx (.bin 4 (.bin 4 (.bin 4 (.v 60) (.v 61)) (.v 62)) (.v 63)) 2000 5000, .sx (.bin 0 (.v 17) (.v 26)) 0 1001000000, .sx (.bin 0 (.v 18) (.v 27)) 0 1001000000], .agg [.int .i64 0, .int .i64 0, .int .i64 0, .int .i64 0, .int .i64 0, .int .i64 0], .int .i64 0]) }
theorem d29_RA : isRes k29_RA.res (runK P L true [k68_RA] [] G_RA k29_RA) = true := by decide +kernel
theorem c29_RA : Con P (Fence.there P) G_RA.holds k29_RA := con_of_run fbT (by decide +kernel) (List.forall_mem_cons.2 ⟨⟨by decide +kernel, c68_RA⟩, List.forall_mem_nil _⟩) no_p (fun _ h => h) d29_RA
noncomputable def k68_WZ2 : KC := { f := 68, args := a_WZ2, res := .ret (.tuple [.agg [.sx (.v 11) 0 0, .sx (.v 11) 0 0, .sx (.v 13) 0 0, .sx (.v 14) 1 1000000, .sx (.v 15) 2000 5000, .sx (.v 16) 2000 5000, .sx (.v 17) 0 1000000000, .sx (.v 18) 0 1000000000], .agg [.int .i64 0, .int .i64 0, .int .i64 0, .int .i64 0, .int .i64 0, .int .i64 0], .bool true]) }
theorem d68_WZ2 : treeK P L true [] sDo k68_WZ2 t_WZ2 G_WZ2 = true := by decide +kernel
theorem c68_WZ2 : Con P (Fence.there P) G_WZ2.holds k68_WZ2 := con_of_tree (H := fun _ => True) fbT (by decide +kernel) no_k sDo_ok t_WZ2 G_WZ2 (fun _ _ => trivial) d68_WZ2 (fun G' h' => by rw [show outs t_WZ2 G_WZ2 = [] from rfl] at h'; cases h')
noncomputable def k29_WZ2 : KC := { f := 29, args := a_WZ2, res := .ret (.tuple [.agg [.sx (.v 11) 0 0, .sx (.v 11) 0 0, .sx (.v 13) 0 0, .sx (.v 14) 1 1000000, .sx (.v 15) 2000 5000, .sx (.v 16) 2000 5000, .sx (.v 17) 0 1000000000, .sx (.v 18) 0 1000000000], .agg [.int .i64 0, .int .i64 0, .int .i64 0, .int .i64 0, .int .i64 0, .int .i64 0], .int .i64 0]) }
theorem d29_WZ2 : isRes k29_WZ2.res (runK P L true [k68_WZ2] [] G_WZ2 k29_WZ2) = true := by decide +kernel
theorem c29_WZ2 : Con P (Fence.there P) G_WZ2.holds k29_WZ2 := con_of_run fbT (by decide +kernel) (List.forall_mem_cons.2 ⟨⟨by decide +kernel, c68_WZ2⟩, List.forall_mem_nil _⟩) no_p (fun _ h => h) d29_WZ2
noncomputable def k68_WZ3 : KC := { f := 68, args := a_WZ3, res := .ret (.tuple [.agg [.sx (.v 11) 0 0, .sx (.v 11) 0 0, .sx (.v 13) 0 0, .sx (.v 13) 0 0, .sx (.v 15) 2000 5000, .sx (.v 16) 2000 5000, .sx (.v 17) 0 1000000000, .sx (.v 18) 0 1000000000], .agg [.int .i64 0, .int .i64 0, .int .i64 0, .int .i64 0, .int .i64 0, .int .i64 0], .bool true]) }
theorem d68_WZ3 : treeK P L true [] sDo k68_WZ3 t_WZ3 G_WZ3 = true := by decide +kernel
theorem c68_WZ3 : Con P (Fence.there P) G_WZ3.holds k68_WZ3 := con_of_tree (H := fun _ => True) fbT (by decide +kernel) no_k sDo_ok t_WZ3 G_WZ3 (fun _ _ => trivial) d68_WZ3 (fun G' h' => by rw [show outs t_WZ3 G_WZ3 = [] from rfl] at h'; cases h')
noncomputable def k29_WZ3 : KC := { f := 29, args := a_WZ3, res := .ret (.tuple [.agg [.sx (.v 11) 0 0, .sx (.v 11) 0 0, .sx (.v 13) 0 0, .sx (.v 13) 0 0, .sx (.v 15) 2000 5000, .sx (.v 16) 2000 5000, .sx (.v 17) 0 1000000000, .sx (.v 18) 0 1000000000], .agg [.int .i64 0, .int .i64 0, .int .i64 0, .int .i64 0, .int .i64 0, .int .i64 0], .int .i64 0]) }
theorem d29_WZ3 : isRes k29_WZ3.res (runK P L true [k68_WZ3] [] G_WZ3 k29_WZ3) = true := by decide +kernel
theorem c29_WZ3 : Con P (Fence.there P) G_WZ3.holds k29_WZ3 := con_of_run fbT (by decide +kernel) (List.forall_mem_cons.2 ⟨⟨by decide +kernel, c68_WZ3⟩, List.forall_mem_nil _⟩) no_p (fun _ h => h) d29_WZ3
end Go.Ev.Gas
end

