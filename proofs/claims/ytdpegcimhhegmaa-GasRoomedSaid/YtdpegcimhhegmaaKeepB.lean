import Derived.Test.YtdpegcimhhegmaaKeepA
set_option linter.unusedVariables false
set_option linter.unusedSimpArgs false
set_option linter.unusedSectionVars false
noncomputable section
set_option maxRecDepth 1000000
set_option maxHeartbeats 0
namespace Go.Ev.Gas
noncomputable def tK0 : CT := .leaf
theorem dK0 : treeK P L true [k18 1, k21] [] (kYes 4 a4) tK0 GK0 = true := by decide +kernel
theorem cK0 : Con P (Fence.there P) GK0.holds (kYes 4 a4) :=
  con_of_tree (H := GQ0.holds) fbT rfl (List.forall_mem_cons.2 ⟨⟨by decide +kernel, cQ0⟩, kn_ok⟩) no_p tK0 GK0 (fun o h => sub_holds (GK0.lts.drop GQ0.lts.length) rfl rfl rfl rfl o h) dK0 (fun G' h' => by rw [show outs tK0 GK0 = [] from rfl] at h'; cases h')
end Go.Ev.Gas
end

noncomputable section
set_option maxRecDepth 1000000
set_option maxHeartbeats 0
namespace Go.Ev.Gas
noncomputable def tK1 : CT := (.lt (.bin 2 (.bin 2 (.bin 0 (.bin 2 (.v 30) (.v 4)) (.bin 2 (.v 31) (.v 5))) (.v 32)) (.c 8314)) (.bin 2 (.bin 2 (.v 2) (.v 36)) (.c 10000000)) .leaf (.lt (.bin 2 (.bin 2 (.v 3) (.v 36)) (.c 10000000)) (.bin 2 (.bin 2 (.bin 0 (.bin 2 (.v 30) (.v 4)) (.bin 2 (.v 31) (.v 5))) (.v 32)) (.c 8314)) .leaf (.lt (.bin 2 (.c 1000) (.v 31)) (.bin 2 (.v 9) (.bin 0 (.v 30) (.v 31))) .leaf (.lt (.bin 2 (.v 10) (.bin 0 (.v 30) (.v 31))) (.bin 2 (.c 1000) (.v 31)) .leaf .leaf))))
theorem dK1 : treeK P L true [k18 2, k21] [] (kYes 4 a4) tK1 GK1 = true := by decide +kernel
theorem cK1 : Con P (Fence.there P) GK1.holds (kYes 4 a4) :=
  con_of_tree (H := GQ1.holds) fbT rfl (List.forall_mem_cons.2 ⟨⟨by decide +kernel, cQ1⟩, kn_ok⟩) no_p tK1 GK1 (fun o h => sub_holds (GK1.lts.drop GQ1.lts.length) rfl rfl rfl rfl o h) dK1 (fun G' h' => by rw [show outs tK1 GK1 = [] from rfl] at h'; cases h')
end Go.Ev.Gas
end

noncomputable section
set_option maxRecDepth 1000000
set_option maxHeartbeats 0
namespace Go.Ev.Gas
noncomputable def tK2 : CT := (.lt (.bin 2 (.bin 2 (.v 3) (.v 36)) (.c 10000000)) (.bin 2 (.bin 2 (.bin 0 (.bin 2 (.v 30) (.v 4)) (.bin 2 (.v 31) (.v 5))) (.v 32)) (.c 8314)) (.lt (.bin 2 (.bin 2 (.v 3) (.v 1)) (.c 10000000)) (.bin 2 (.bin 2 (.bin 0 (.bin 2 (.v 11) (.v 4)) (.bin 2 (.v 13) (.v 5))) (.v 15)) (.c 8314)) .leaf (.lt (.bin 2 (.bin 2 (.v 3) (.v 0)) (.c 10000000)) (.bin 2 (.bin 2 (.bin 0 (.bin 2 (.v 11) (.v 4)) (.bin 2 (.v 13) (.v 5))) (.v 15)) (.c 8314)) .leaf (.lt (.bin 2 (.bin 2 (.v 3) (.v 1)) (.c 10000000)) (.bin 2 (.bin 2 (.bin 0 (.bin 2 (.v 12) (.v 4)) (.bin 2 (.v 14) (.v 5))) (.v 16)) (.c 8314)) .leaf .leaf))) (.lt (.bin 2 (.c 1000) (.v 31)) (.bin 2 (.v 9) (.bin 0 (.v 30) (.v 31))) (.lt (.bin 2 (.bin 2 (.v 3) (.v 1)) (.c 10000000)) (.bin 2 (.bin 2 (.bin 0 (.bin 2 (.v 11) (.v 4)) (.bin 2 (.v 13) (.v 5))) (.v 15)) (.c 8314)) .leaf (.lt (.bin 2 (.bin 2 (.v 3) (.v 0)) (.c 10000000)) (.bin 2 (.bin 2 (.bin 0 (.bin 2 (.v 11) (.v 4)) (.bin 2 (.v 13) (.v 5))) (.v 15)) (.c 8314)) .leaf (.lt (.bin 2 (.bin 2 (.v 3) (.v 1)) (.c 10000000)) (.bin 2 (.bin 2 (.bin 0 (.bin 2 (.v 12) (.v 4)) (.bin 2 (.v 14) (.v 5))) (.v 16)) (.c 8314)) .leaf .leaf))) (.lt (.bin 2 (.v 10) (.bin 0 (.v 30) (.v 31))) (.bin 2 (.c 1000) (.v 31)) (.lt (.bin 2 (.bin 2 (.v 3) (.v 1)) (.c 10000000)) (.bin 2 (.bin 2 (.bin 0 (.bin 2 (.v 11) (.v 4)) (.bin 2 (.v 13) (.v 5))) (.v 15)) (.c 8314)) .leaf (.lt (.bin 2 (.bin 2 (.v 3) (.v 0)) (.c 10000000)) (.bin 2 (.bin 2 (.bin 0 (.bin 2 (.v 11) (.v 4)) (.bin 2 (.v 13) (.v 5))) (.v 15)) (.c 8314)) .leaf (.lt (.bin 2 (.bin 2 (.v 3) (.v 1)) (.c 10000000)) (.bin 2 (.bin 2 (.bin 0 (.bin 2 (.v 12) (.v 4)) (.bin 2 (.v 14) (.v 5))) (.v 16)) (.c 8314)) .leaf .leaf))) (.lt (.bin 2 (.bin 2 (.v 3) (.v 1)) (.c 10000000)) (.bin 2 (.bin 2 (.bin 0 (.bin 2 (.v 11) (.v 4)) (.bin 2 (.v 13) (.v 5))) (.v 15)) (.c 8314)) .leaf (.lt (.bin 2 (.bin 2 (.v 3) (.v 0)) (.c 10000000)) (.bin 2 (.bin 2 (.bin 0 (.bin 2 (.v 11) (.v 4)) (.bin 2 (.v 13) (.v 5))) (.v 15)) (.c 8314)) .leaf (.lt (.bin 2 (.bin 2 (.v 3) (.v 1)) (.c 10000000)) (.bin 2 (.bin 2 (.bin 0 (.bin 2 (.v 12) (.v 4)) (.bin 2 (.v 14) (.v 5))) (.v 16)) (.c 8314)) .leaf .leaf))))))
theorem dK2 : treeK P L true [k18 3, k21] [] (kYes 4 a4) tK2 GK2 = true := by decide +kernel
theorem cK2 : Con P (Fence.there P) GK2.holds (kYes 4 a4) :=
  con_of_tree (H := GQ2.holds) fbT rfl (List.forall_mem_cons.2 ⟨⟨by decide +kernel, cQ2⟩, kn_ok⟩) no_p tK2 GK2 (fun o h => sub_holds (GK2.lts.drop GQ2.lts.length) rfl rfl rfl rfl o h) dK2 (fun G' h' => by rw [show outs tK2 GK2 = [] from rfl] at h'; cases h')
end Go.Ev.Gas
end

noncomputable section
set_option maxRecDepth 1000000
set_option maxHeartbeats 0
namespace Go.Ev.Gas
noncomputable def tK3 : CT := (.lt (.bin 2 (.c 1000) (.v 31)) (.bin 2 (.v 9) (.bin 0 (.v 30) (.v 31))) (.lt (.bin 2 (.c 1000) (.v 13)) (.bin 2 (.v 9) (.bin 0 (.v 11) (.v 13))) .leaf (.lt (.bin 2 (.c 1000) (.v 14)) (.bin 2 (.v 9) (.bin 0 (.v 12) (.v 14))) .leaf .leaf)) (.lt (.bin 2 (.v 10) (.bin 0 (.v 30) (.v 31))) (.bin 2 (.c 1000) (.v 31)) (.lt (.bin 2 (.c 1000) (.v 13)) (.bin 2 (.v 9) (.bin 0 (.v 11) (.v 13))) .leaf (.lt (.bin 2 (.c 1000) (.v 14)) (.bin 2 (.v 9) (.bin 0 (.v 12) (.v 14))) .leaf .leaf)) (.lt (.bin 2 (.c 1000) (.v 13)) (.bin 2 (.v 9) (.bin 0 (.v 11) (.v 13))) .leaf (.lt (.bin 2 (.c 1000) (.v 14)) (.bin 2 (.v 9) (.bin 0 (.v 12) (.v 14))) .leaf .leaf))))
theorem dK3 : treeK P L true [k18 4, k21] [] (kYes 4 a4) tK3 GK3 = true := by decide +kernel
theorem cK3 : Con P (Fence.there P) GK3.holds (kYes 4 a4) :=
  con_of_tree (H := GQ3.holds) fbT rfl (List.forall_mem_cons.2 ⟨⟨by decide +kernel, cQ3⟩, kn_ok⟩) no_p tK3 GK3 (fun o h => sub_holds (GK3.lts.drop GQ3.lts.length) rfl rfl rfl rfl o h) dK3 (fun G' h' => by rw [show outs tK3 GK3 = [] from rfl] at h'; cases h')
end Go.Ev.Gas
end

noncomputable section
set_option maxRecDepth 1000000
set_option maxHeartbeats 0
namespace Go.Ev.Gas
noncomputable def tK4 : CT := (.lt (.bin 2 (.v 10) (.bin 0 (.v 30) (.v 31))) (.bin 2 (.c 1000) (.v 31)) (.lt (.bin 2 (.v 10) (.bin 0 (.v 11) (.v 13))) (.bin 2 (.c 1000) (.v 13)) .leaf (.lt (.bin 2 (.v 10) (.bin 0 (.v 12) (.v 14))) (.bin 2 (.c 1000) (.v 14)) .leaf (.lt (.bin 2 (.v 10) (.bin 0 (.v 12) (.v 13))) (.bin 2 (.c 1000) (.v 13)) .leaf .leaf))) (.lt (.bin 2 (.v 10) (.bin 0 (.v 11) (.v 13))) (.bin 2 (.c 1000) (.v 13)) .leaf (.lt (.bin 2 (.v 10) (.bin 0 (.v 12) (.v 14))) (.bin 2 (.c 1000) (.v 14)) .leaf (.lt (.bin 2 (.v 10) (.bin 0 (.v 12) (.v 13))) (.bin 2 (.c 1000) (.v 13)) .leaf .leaf))))
theorem dK4 : treeK P L true [k18 5, k21] [] (kYes 4 a4) tK4 GK4 = true := by decide +kernel
theorem cK4 : Con P (Fence.there P) GK4.holds (kYes 4 a4) :=
  con_of_tree (H := GQ4.holds) fbT rfl (List.forall_mem_cons.2 ⟨⟨by decide +kernel, cQ4⟩, kn_ok⟩) no_p tK4 GK4 (fun o h => sub_holds (GK4.lts.drop GQ4.lts.length) rfl rfl rfl rfl o h) dK4 (fun G' h' => by rw [show outs tK4 GK4 = [] from rfl] at h'; cases h')
end Go.Ev.Gas
end

