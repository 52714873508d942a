import Derived.Test.YtdpegcimhhegmaaDo1
import Derived.Test.YtdpegcimhhegmaaDo2
import Derived.Test.YtdpegcimhhegmaaDo3
set_option linter.unusedVariables false
set_option linter.unusedSimpArgs false
set_option linter.unusedSectionVars false
noncomputable section
set_option maxRecDepth 1000000
set_option maxHeartbeats 0
namespace Go.Ev.Gas
noncomputable def k68_IA : KC := { f := 68, args := a_IA, res := .ret (.tuple [.agg [.sx (.bin 0 (.v 11) (.v 19)) 0 2000000, .sx (.bin 0 (.v 12) (.v 19)) 0 2000000, .sx (.bin 0 (.v 13) (.v 20)) 0 2000000, .sx (.bin 0 (.v 14) (.v 20)) 0 2000000, .sx (.bin 3 (.bin 3 (.bin 3 (.v 60) (.v 62)) (.v 64)) (.v 66)) 2000 5000, .sx (.bin 4 (.bin 4 (.bin 4 (.bin 4 (.bin 4 (.bin 4 (.v 61) (.v 62)) (.v 63)) (.v 64)) (.v 65)) (.v 66)) (.v 67)) 2000 5000, .sx (.bin 0 (.v 17) (.v 22)) 0 2000000000, .sx (.bin 0 (.v 18) (.v 22)) 0 2000000000], .agg [.int .i64 0, .int .i64 0, .int .i64 0, .int .i64 0, .int .i64 0, .int .i64 0], .bool true]) }
theorem d68_IA : treeK P L true [] sDo k68_IA t_IA G_IA = true := by decide +kernel
theorem c68_IA : Con P (Fence.there P) G_IA.holds k68_IA := con_of_tree (H := fun _ => True) fbT (by decide +kernel) no_k sDo_ok t_IA G_IA (fun _ _ => trivial) d68_IA (fun G' h' => by rw [show outs t_IA G_IA = [] from rfl] at h'; cases h')
noncomputable def k29_IA : KC := { f := 29, args := a_IA, res := .ret (.tuple [.agg [.sx (.bin 0 (.v 11) (.v 19)) 0 2000000, .sx (.bin 0 (.v 12) (.v 19)) 0 2000000, .sx (.bin 0 (.v 13) (.v 20)) 0 2000000, .sx (.bin 0 (.v 14) (.v 20)) 0 2000000, .sx (.bin 3 (.bin 3 (.bin 3 (.v 60) (.v 62)) (.v 64)) (.v 66)) 2000 5000, .sx (.bin 4 (.bin 4 (.bin 4 (.bin 4 (.bin 4 (.bin 4 (.v 61) (.v 62)) (.v 63)) (.v 64)) (.v 65)) (.v 66)) (.v 67)) 2000 5000, .sx (.bin 0 (.v 17) (.v 22)) 0 2000000000, .sx (.bin 0 (.v 18) (.v 22)) 0 2000000000], .agg [.int .i64 0, .int .i64 0, .int .i64 0, .int .i64 0, .int .i64 0, .int .i64 0], .int .i64 0]) }
theorem d29_IA : isRes k29_IA.res (runK P L true [k68_IA] [] G_IA k29_IA) = true := by decide +kernel
theorem c29_IA : Con P (Fence.there P) G_IA.holds k29_IA := con_of_run fbT (by decide +kernel) (List.forall_mem_cons.2 ⟨⟨by decide +kernel, c68_IA⟩, List.forall_mem_nil _⟩) no_p (fun _ h => h) d29_IA
noncomputable def k68_IG : KC := { f := 68, args := a_IG, res := .ret (.tuple [.agg [.int .i64 0, .int .i64 0, .int .i64 0, .int .i64 0, .int .i64 0, .int .i64 0, .int .i64 0, .int .i64 0], .agg [.int .i64 0, .int .i64 0, .int .i64 0, .int .i64 0, .int .i64 0, .int .i64 0], .bool false]) }
theorem d68_IG : treeK P L true [] sDo k68_IG t_IG G_IG = true := by decide +kernel
theorem c68_IG : Con P (Fence.there P) G_IG.holds k68_IG := con_of_tree (H := fun _ => True) fbT (by decide +kernel) no_k sDo_ok t_IG G_IG (fun _ _ => trivial) d68_IG (fun G' h' => by rw [show outs t_IG G_IG = [] from rfl] at h'; cases h')
noncomputable def k29_IG : KC := { f := 29, args := a_IG, res := .ret (.tuple [.agg [.int .i64 0, .int .i64 0, .int .i64 0, .int .i64 0, .int .i64 0, .int .i64 0, .int .i64 0, .int .i64 0], .agg [.int .i64 0, .int .i64 0, .int .i64 0, .int .i64 0, .int .i64 0, .int .i64 0], .int .i64 7]) }
theorem d29_IG : isRes k29_IG.res (runK P L true [k68_IG] [] G_IG k29_IG) = true := by decide +kernel
theorem c29_IG : Con P (Fence.there P) G_IG.holds k29_IG := con_of_run fbT (by decide +kernel) (List.forall_mem_cons.2 ⟨⟨by decide +kernel, c68_IG⟩, List.forall_mem_nil _⟩) no_p (fun _ h => h) d29_IG
noncomputable def k68_IZ0 : KC := { f := 68, args := a_IZ0, res := .ret (.tuple [.agg [.sx (.v 11) 0 1000000, .sx (.v 12) 0 1000000, .sx (.v 13) 0 1000000, .sx (.v 14) 0 1000000, .sx (.v 15) 2000 5000, .sx (.v 16) 2000 5000, .sx (.bin 0 (.v 17) (.v 22)) 0 2000000000, .sx (.bin 0 (.v 18) (.v 22)) 0 2000000000], .agg [.int .i64 0, .int .i64 0, .int .i64 0, .int .i64 0, .int .i64 0, .int .i64 0], .bool true]) }
theorem d68_IZ0 : treeK P L true [] sDo k68_IZ0 t_IZ0 G_IZ0 = true := by decide +kernel
theorem c68_IZ0 : Con P (Fence.there P) G_IZ0.holds k68_IZ0 := con_of_tree (H := fun _ => True) fbT (by decide +kernel) no_k sDo_ok t_IZ0 G_IZ0 (fun _ _ => trivial) d68_IZ0 (fun G' h' => by rw [show outs t_IZ0 G_IZ0 = [] from rfl] at h'; cases h')
noncomputable def k29_IZ0 : KC := { f := 29, args := a_IZ0, res := .ret (.tuple [.agg [.sx (.v 11) 0 1000000, .sx (.v 12) 0 1000000, .sx (.v 13) 0 1000000, .sx (.v 14) 0 1000000, .sx (.v 15) 2000 5000, .sx (.v 16) 2000 5000, .sx (.bin 0 (.v 17) (.v 22)) 0 2000000000, .sx (.bin 0 (.v 18) (.v 22)) 0 2000000000], .agg [.int .i64 0, .int .i64 0, .int .i64 0, .int .i64 0, .int .i64 0, .int .i64 0], .int .i64 0]) }
theorem d29_IZ0 : isRes k29_IZ0.res (runK P L true [k68_IZ0] [] G_IZ0 k29_IZ0) = true := by decide +kernel
theorem c29_IZ0 : Con P (Fence.there P) G_IZ0.holds k29_IZ0 := con_of_run fbT (by decide +kernel) (List.forall_mem_cons.2 ⟨⟨by decide +kernel, c68_IZ0⟩, List.forall_mem_nil _⟩) no_p (fun _ h => h) d29_IZ0
noncomputable def k68_W0 : KC := { f := 68, args := a_W0, res := .ret (.tuple [.agg [.int .i64 0, .int .i64 0, .int .i64 0, .int .i64 0, .int .i64 0, .int .i64 0, .int .i64 0, .int .i64 0], .agg [.int .i64 0, .int .i64 0, .int .i64 0, .int .i64 0, .int .i64 0, .int .i64 0], .bool false]) }
theorem d68_W0 : treeK P L true [] sDo k68_W0 t_W0 G_W0 = true := by decide +kernel
theorem c68_W0 : Con P (Fence.there P) G_W0.holds k68_W0 := con_of_tree (H := fun _ => True) fbT (by decide +kernel) no_k sDo_ok t_W0 G_W0 (fun _ _ => trivial) d68_W0 (fun G' h' => by rw [show outs t_W0 G_W0 = [] from rfl] at h'; cases h')
noncomputable def k29_W0 : KC := { f := 29, args := a_W0, res := .ret (.tuple [.agg [.int .i64 0, .int .i64 0, .int .i64 0, .int .i64 0, .int .i64 0, .int .i64 0, .int .i64 0, .int .i64 0], .agg [.int .i64 0, .int .i64 0, .int .i64 0, .int .i64 0, .int .i64 0, .int .i64 0], .int .i64 7]) }
theorem d29_W0 : isRes k29_W0.res (runK P L true [k68_W0] [] G_W0 k29_W0) = true := by decide +kernel
theorem c29_W0 : Con P (Fence.there P) G_W0.holds k29_W0 := con_of_run fbT (by decide +kernel) (List.forall_mem_cons.2 ⟨⟨by decide +kernel, c68_W0⟩, List.forall_mem_nil _⟩) no_p (fun _ h => h) d29_W0
noncomputable def k68_RW : KC := { f := 68, args := a_RW, res := .ret (.tuple [.agg [.int .i64 0, .int .i64 0, .int .i64 0, .int .i64 0, .int .i64 0, .int .i64 0, .int .i64 0, .int .i64 0], .agg [.int .i64 0, .int .i64 0, .int .i64 0, .int .i64 0, .int .i64 0, .int .i64 0], .bool false]) }
theorem d68_RW : treeK P L true [] sDo k68_RW t_RW G_RW = true := by decide +kernel
theorem c68_RW : Con P (Fence.there P) G_RW.holds k68_RW := con_of_tree (H := fun _ => True) fbT (by decide +kernel) no_k sDo_ok t_RW G_RW (fun _ _ => trivial) d68_RW (fun G' h' => by rw [show outs t_RW G_RW = [] from rfl] at h'; cases h')
noncomputable def k29_RW : KC := { f := 29, args := a_RW, res := .ret (.tuple [.agg [.int .i64 0, .int .i64 0, .int .i64 0, .int .i64 0, .int .i64 0, .int .i64 0, .int .i64 0, .int .i64 0], .agg [.int .i64 0, .int .i64 0, .int .i64 0, .int .i64 0, .int .i64 0, .int .i64 0], .int .i64 7]) }
theorem d29_RW : isRes k29_RW.res (runK P L true [k68_RW] [] G_RW k29_RW) = true := by decide +kernel
theorem c29_RW : Con P (Fence.there P) G_RW.holds k29_RW := con_of_run fbT (by decide +kernel) (List.forall_mem_cons.2 ⟨⟨by decide +kernel, c68_RW⟩, List.forall_mem_nil _⟩) no_p (fun _ h => h) d29_RW
end Go.Ev.Gas
end

