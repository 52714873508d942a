import Derived.Test.YtdpegcimhhegmaaKeepC
set_option linter.unusedVariables false
set_option linter.unusedSimpArgs false
set_option linter.unusedSectionVars false
noncomputable section
set_option maxRecDepth 1000000
set_option maxHeartbeats 0
namespace Go.Ev.Gas
open Go.RowKit Go.Ev.Num
/-! ### The rule of a state, from Low and from Thin -/
noncomputable def k57 (f r : Int) : KC := { f := 57, args := [cavA, stA, .int .i64 f], res := .ret (.int .i64 r) }
noncomputable def ntL : List (SX × SX × Bool) := [((.bin 2 (.v 13) (.c 1000)), (.bin 2 (.v 9) (.bin 0 (.v 11) (.v 13))), false), ((.bin 2 (.v 14) (.c 1000)), (.bin 2 (.v 9) (.bin 0 (.v 11) (.v 14))), false), ((.bin 2 (.v 13) (.c 1000)), (.bin 2 (.v 9) (.bin 0 (.v 12) (.v 13))), false), ((.bin 2 (.v 14) (.c 1000)), (.bin 2 (.v 9) (.bin 0 (.v 12) (.v 14))), false)]
noncomputable def nrL : List (SX × SX × Bool) := [((.bin 2 (.v 10) (.bin 0 (.v 11) (.v 13))), (.bin 2 (.v 13) (.c 1000)), false), ((.bin 2 (.v 10) (.bin 0 (.v 11) (.v 14))), (.bin 2 (.v 14) (.c 1000)), false), ((.bin 2 (.v 10) (.bin 0 (.v 12) (.v 13))), (.bin 2 (.v 13) (.c 1000)), false), ((.bin 2 (.v 10) (.bin 0 (.v 12) (.v 14))), (.bin 2 (.v 14) (.c 1000)), false)]
noncomputable def thinF : SX × SX × Bool := ((.bin 2 (.v 13) (.c 1000)), (.bin 2 (.v 9) (.bin 0 (.v 12) (.v 13))), true)
noncomputable def richF : SX × SX × Bool := ((.bin 2 (.v 10) (.bin 0 (.v 11) (.v 14))), (.bin 2 (.v 14) (.c 1000)), true)
noncomputable def GT0 : Ctx := ⟨[], cavL ++ stL ++ (ntL ++ nrL), [], fun _ => True⟩
noncomputable def GT1 : Ctx := ⟨[], cavL ++ stL ++ [thinF], [], fun _ => True⟩
noncomputable def GT2 : Ctx := ⟨[], cavL ++ stL ++ (ntL ++ [richF]), [], fun _ => True⟩
theorem dR0 : treeK P L true [] [] (k57 2 1) tQ0 GQ0 = true := by decide +kernel
theorem cR0 : Con P (Fence.there P) GQ0.holds (k57 2 1) := con_of_tree (H := fun _ => True) fbT rfl no_k no_p tQ0 GQ0 (fun _ _ => trivial) dR0 (fun G' h' => by rw [show outs tQ0 GQ0 = [] from rfl] at h'; cases h')
theorem dR1 : treeK P L true [] [] (k57 2 2) tQ1 GQ1 = true := by decide +kernel
theorem cR1 : Con P (Fence.there P) GQ1.holds (k57 2 2) := con_of_tree (H := fun _ => True) fbT rfl no_k no_p tQ1 GQ1 (fun _ _ => trivial) dR1 (fun G' h' => by rw [show outs tQ1 GQ1 = [] from rfl] at h'; cases h')
theorem dR2 : treeK P L true [] [] (k57 2 3) tQ2 GQ2 = true := by decide +kernel
theorem cR2 : Con P (Fence.there P) GQ2.holds (k57 2 3) := con_of_tree (H := fun _ => True) fbT rfl no_k no_p tQ2 GQ2 (fun _ _ => trivial) dR2 (fun G' h' => by rw [show outs tQ2 GQ2 = [] from rfl] at h'; cases h')
theorem dR3 : treeK P L true [] [] (k57 2 4) tQ3 GQ3 = true := by decide +kernel
theorem cR3 : Con P (Fence.there P) GQ3.holds (k57 2 4) := con_of_tree (H := fun _ => True) fbT rfl no_k no_p tQ3 GQ3 (fun _ _ => trivial) dR3 (fun G' h' => by rw [show outs tQ3 GQ3 = [] from rfl] at h'; cases h')
theorem dR4 : treeK P L true [] [] (k57 2 5) tQ4 GQ4 = true := by decide +kernel
theorem cR4 : Con P (Fence.there P) GQ4.holds (k57 2 5) := con_of_tree (H := fun _ => True) fbT rfl no_k no_p tQ4 GQ4 (fun _ _ => trivial) dR4 (fun G' h' => by rw [show outs tQ4 GQ4 = [] from rfl] at h'; cases h')
theorem dT0 : treeK P L true [] [] (k57 4 1) (.leaf) GT0 = true := by decide +kernel
theorem cT0 : Con P (Fence.there P) GT0.holds (k57 4 1) := con_of_tree (H := fun _ => True) fbT rfl no_k no_p (.leaf) GT0 (fun _ _ => trivial) dT0 (fun G' h' => by rw [show outs (.leaf) GT0 = [] from rfl] at h'; cases h')
theorem dT1 : treeK P L true [] [] (k57 4 4) (tQ3) GT1 = true := by decide +kernel
theorem cT1 : Con P (Fence.there P) GT1.holds (k57 4 4) := con_of_tree (H := fun _ => True) fbT rfl no_k no_p (tQ3) GT1 (fun _ _ => trivial) dT1 (fun G' h' => by rw [show outs (tQ3) GT1 = [] from rfl] at h'; cases h')
theorem dT2 : treeK P L true [] [] (k57 4 5) (tQ4) GT2 = true := by decide +kernel
theorem cT2 : Con P (Fence.there P) GT2.holds (k57 4 5) := con_of_tree (H := fun _ => True) fbT rfl no_k no_p (tQ4) GT2 (fun _ _ => trivial) dT2 (fun G' h' => by rw [show outs (tQ4) GT2 = [] from rfl] at h'; cases h')
end Go.Ev.Gas
end

