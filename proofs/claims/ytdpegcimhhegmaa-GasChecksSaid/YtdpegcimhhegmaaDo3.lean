import Derived.Test.YtdpegcimhhegmaaNots1
set_option linter.unusedVariables false
set_option linter.unusedSimpArgs false
set_option linter.unusedSectionVars false
noncomputable section
set_option maxRecDepth 1000000
set_option maxHeartbeats 0
namespace Go.Ev.Gas
noncomputable def G_IZ3 : Ctx := (⟨[((.bin 0 (.bin 2 (.v 11) (.v 6)) (.bin 2 (.v 13) (.v 7))), 98, 0, 0), ((.bin 0 (.bin 2 (.v 11) (.v 6)) (.bin 2 (.v 14) (.v 7))), 51, 1, 200000000), ((.bin 0 (.bin 2 (.v 12) (.v 6)) (.bin 2 (.v 13) (.v 7))), 98, 0, 0), ((.bin 0 (.bin 2 (.v 12) (.v 6)) (.bin 2 (.v 14) (.v 7))), 53, 1, 200000000), ((.bin 5 (.bin 2 (.v 51) (.v 15)) (.v 51)), 15, 2000, 5000), ((.bin 5 (.bin 2 (.v 51) (.v 16)) (.v 51)), 16, 2000, 5000), ((.bin 5 (.bin 2 (.v 53) (.v 15)) (.v 53)), 15, 2000, 5000), ((.bin 5 (.bin 2 (.v 53) (.v 16)) (.v 53)), 16, 2000, 5000)], [((.v 1), (.v 0), false), ((.v 3), (.v 2), false), ((.v 10), (.v 9), false), ((.v 12), (.v 11), false), ((.v 14), (.v 13), false), ((.v 16), (.v 15), false), ((.v 18), (.v 17), false), ((.c 1000000000), (.bin 0 (.v 17) (.v 22)), false), ((.c 1000000000), (.bin 0 (.v 18) (.v 22)), false), ((.bin 0 (.v 18) (.v 22)), (.bin 0 (.v 17) (.v 22)), false)], [], fun _ => True⟩ : Ctx)
noncomputable def a_IZ3 : List (AV plain) := [cavA, (.agg [iv 11 0 1000000, iv 12 0 1000000, iv 13 0 1000000, iv 14 0 1000000, iv 15 2000 5000, iv 16 2000 5000, iv 17 0 1000000000, iv 18 0 1000000000]), (.agg [one 1, iv 19 0 0, iv 20 0 0, iv 21 2000 5000, iv 22 0 1000000000, Z, Z, Z, Z, Z])]
noncomputable def t_IZ3 : CT := .leaf
theorem d_IZ3 : treeK P L true [k21] sDo (kYes 5 a_IZ3) t_IZ3 G_IZ3 = true := by decide +kernel
theorem c_IZ3 : Con P (Fence.there P) G_IZ3.holds (kYes 5 a_IZ3) := con_yes d_IZ3 rfl
noncomputable def G_IY3 : Ctx := (⟨[((.bin 0 (.bin 2 (.v 11) (.v 6)) (.bin 2 (.v 13) (.v 7))), 98, 0, 0), ((.bin 0 (.bin 2 (.v 11) (.v 6)) (.bin 2 (.v 14) (.v 7))), 51, 1, 200000000), ((.bin 0 (.bin 2 (.v 12) (.v 6)) (.bin 2 (.v 13) (.v 7))), 98, 0, 0), ((.bin 0 (.bin 2 (.v 12) (.v 6)) (.bin 2 (.v 14) (.v 7))), 53, 1, 200000000), ((.bin 5 (.bin 2 (.v 51) (.v 15)) (.v 51)), 15, 2000, 5000), ((.bin 5 (.bin 2 (.v 51) (.v 16)) (.v 51)), 16, 2000, 5000), ((.bin 5 (.bin 2 (.v 53) (.v 15)) (.v 53)), 15, 2000, 5000), ((.bin 5 (.bin 2 (.v 53) (.v 16)) (.v 53)), 16, 2000, 5000)], [((.v 1), (.v 0), false), ((.v 3), (.v 2), false), ((.v 10), (.v 9), false), ((.v 12), (.v 11), false), ((.v 14), (.v 13), false), ((.v 16), (.v 15), false), ((.v 18), (.v 17), false), ((.c 1000000000), (.bin 0 (.v 18) (.v 22)), true)], [], fun _ => True⟩ : Ctx)
noncomputable def a_IY3 : List (AV plain) := [cavA, (.agg [iv 11 0 1000000, iv 12 0 1000000, iv 13 0 1000000, iv 14 0 1000000, iv 15 2000 5000, iv 16 2000 5000, iv 17 0 1000000000, iv 18 0 1000000000]), (.agg [one 1, iv 19 0 0, iv 20 0 0, iv 21 2000 5000, iv 22 0 1000000000, Z, Z, Z, Z, Z])]
noncomputable def t_IY3 : CT := (.lt (.c 1000000000) (.bin 0 (.v 17) (.v 22)) .leaf .leaf)
theorem d_IY3 : treeK P L true [k21] sDo (kYes 5 a_IY3) t_IY3 G_IY3 = true := by decide +kernel
theorem c_IY3 : Con P (Fence.there P) G_IY3.holds (kYes 5 a_IY3) := con_yes d_IY3 rfl
noncomputable def G_IZ4 : Ctx := (⟨[((.bin 0 (.bin 2 (.v 11) (.v 6)) (.bin 2 (.v 13) (.v 7))), 98, 0, 0), ((.bin 0 (.bin 2 (.v 11) (.v 6)) (.bin 2 (.v 14) (.v 7))), 98, 0, 0), ((.bin 0 (.bin 2 (.v 12) (.v 6)) (.bin 2 (.v 13) (.v 7))), 98, 0, 0), ((.bin 0 (.bin 2 (.v 12) (.v 6)) (.bin 2 (.v 14) (.v 7))), 98, 0, 0)], [((.v 1), (.v 0), false), ((.v 3), (.v 2), false), ((.v 10), (.v 9), false), ((.v 12), (.v 11), false), ((.v 14), (.v 13), false), ((.v 16), (.v 15), false), ((.v 18), (.v 17), false), ((.c 1000000000), (.bin 0 (.v 17) (.v 22)), false), ((.c 1000000000), (.bin 0 (.v 18) (.v 22)), false), ((.bin 0 (.v 18) (.v 22)), (.bin 0 (.v 17) (.v 22)), false)], [], fun _ => True⟩ : Ctx)
noncomputable def a_IZ4 : List (AV plain) := [cavA, (.agg [iv 11 0 1000000, iv 12 0 1000000, iv 13 0 1000000, iv 14 0 1000000, iv 15 2000 5000, iv 16 2000 5000, iv 17 0 1000000000, iv 18 0 1000000000]), (.agg [one 1, iv 19 0 0, iv 20 0 0, iv 21 2000 5000, iv 22 0 1000000000, Z, Z, Z, Z, Z])]
noncomputable def t_IZ4 : CT := .leaf
theorem d_IZ4 : treeK P L true [k21] sDo (kYes 5 a_IZ4) t_IZ4 G_IZ4 = true := by decide +kernel
theorem c_IZ4 : Con P (Fence.there P) G_IZ4.holds (kYes 5 a_IZ4) := con_yes d_IZ4 rfl
noncomputable def G_IY4 : Ctx := (⟨[((.bin 0 (.bin 2 (.v 11) (.v 6)) (.bin 2 (.v 13) (.v 7))), 98, 0, 0), ((.bin 0 (.bin 2 (.v 11) (.v 6)) (.bin 2 (.v 14) (.v 7))), 98, 0, 0), ((.bin 0 (.bin 2 (.v 12) (.v 6)) (.bin 2 (.v 13) (.v 7))), 98, 0, 0), ((.bin 0 (.bin 2 (.v 12) (.v 6)) (.bin 2 (.v 14) (.v 7))), 98, 0, 0)], [((.v 1), (.v 0), false), ((.v 3), (.v 2), false), ((.v 10), (.v 9), false), ((.v 12), (.v 11), false), ((.v 14), (.v 13), false), ((.v 16), (.v 15), false), ((.v 18), (.v 17), false), ((.c 1000000000), (.bin 0 (.v 18) (.v 22)), true)], [], fun _ => True⟩ : Ctx)
noncomputable def a_IY4 : List (AV plain) := [cavA, (.agg [iv 11 0 1000000, iv 12 0 1000000, iv 13 0 1000000, iv 14 0 1000000, iv 15 2000 5000, iv 16 2000 5000, iv 17 0 1000000000, iv 18 0 1000000000]), (.agg [one 1, iv 19 0 0, iv 20 0 0, iv 21 2000 5000, iv 22 0 1000000000, Z, Z, Z, Z, Z])]
noncomputable def t_IY4 : CT := (.lt (.c 1000000000) (.bin 0 (.v 17) (.v 22)) .leaf .leaf)
theorem d_IY4 : treeK P L true [k21] sDo (kYes 5 a_IY4) t_IY4 G_IY4 = true := by decide +kernel
theorem c_IY4 : Con P (Fence.there P) G_IY4.holds (kYes 5 a_IY4) := con_yes d_IY4 rfl
noncomputable def G_WZ0 : Ctx := (⟨[], [((.v 1), (.v 0), false), ((.v 3), (.v 2), false), ((.v 10), (.v 9), false), ((.v 12), (.v 11), false), ((.v 14), (.v 13), false), ((.v 16), (.v 15), false), ((.v 18), (.v 17), false)], [], fun _ => True⟩ : Ctx)
noncomputable def a_WZ0 : List (AV plain) := [cavA, (.agg [iv 11 0 0, iv 12 1 1000000, iv 13 0 0, iv 14 1 1000000, iv 15 2000 5000, iv 16 2000 5000, iv 17 0 1000000000, iv 18 0 1000000000]), (.agg [one 2, Z, Z, Z, Z, iv 23 0 0, Z, Z, Z, Z])]
noncomputable def t_WZ0 : CT := .leaf
theorem d_WZ0 : treeK P L true [k21] sDo (kYes 5 a_WZ0) t_WZ0 G_WZ0 = true := by decide +kernel
theorem c_WZ0 : Con P (Fence.there P) G_WZ0.holds (kYes 5 a_WZ0) := con_yes d_WZ0 rfl
noncomputable def G_WZ1 : Ctx := (⟨[], [((.v 1), (.v 0), false), ((.v 3), (.v 2), false), ((.v 10), (.v 9), false), ((.v 12), (.v 11), false), ((.v 14), (.v 13), false), ((.v 16), (.v 15), false), ((.v 18), (.v 17), false)], [], fun _ => True⟩ : Ctx)
noncomputable def a_WZ1 : List (AV plain) := [cavA, (.agg [iv 11 0 0, iv 12 1 1000000, iv 13 0 0, iv 14 0 0, iv 15 2000 5000, iv 16 2000 5000, iv 17 0 1000000000, iv 18 0 1000000000]), (.agg [one 2, Z, Z, Z, Z, iv 23 0 0, Z, Z, Z, Z])]
noncomputable def t_WZ1 : CT := .leaf
theorem d_WZ1 : treeK P L true [k21] sDo (kYes 5 a_WZ1) t_WZ1 G_WZ1 = true := by decide +kernel
theorem c_WZ1 : Con P (Fence.there P) G_WZ1.holds (kYes 5 a_WZ1) := con_yes d_WZ1 rfl
end Go.Ev.Gas
end

