import Derived.Test.YtdpegcimhhegmaaLoopX
set_option linter.unusedVariables false
set_option linter.unusedSimpArgs false
set_option linter.unusedSectionVars false
noncomputable section
set_option maxRecDepth 1000000
set_option maxHeartbeats 0
namespace Go.Ev.Gas
open Go.RowKit Go.Ev.Num Go.Proofs
noncomputable def K_mi : List (Nat × AV plain) := [(2, .func (.func 97) [] [.ptr 0 0]), (3, .ptr 1 0), (4, .ptr 2 0)]
noncomputable def S_mi : List (Option (AV plain)) := slotsFrom (K_mi ++ [(11, kk)]) 35 0
noncomputable def A_mi : List (AV plain) := [cavA, stA, .func (.func 97) [] [.ptr 0 0]] ++ List.replicate 32 undefA
noncomputable def rin_mi : List (List (AV plain)) := [[iv 30 0 1000000, iv 31 0 1000000, iv 32 2000 5000, iv 33 0 1000000000]]
noncomputable def rows_mi : List (List (AV plain)) := [[iv 30 0 1000000, iv 31 0 1000000, iv 32 2000 5000, iv 33 0 1000000000], [iv 0 1 1000000, iv 1 1 1000000, iv 2 0 100000, iv 3 0 100000, iv 4 500 2000, iv 5 500 2000, iv 6 1 100, iv 7 1 100, iv 8 2000 5000, iv 9 0 1000, iv 10 0 1000], [iv 11 0 1000000, iv 12 0 1000000, iv 13 0 1000000, iv 14 0 1000000, iv 15 2000 5000, iv 16 2000 5000, iv 17 0 1000000000, iv 18 0 1000000000]]
noncomputable def pre_mi : Option (Res plain) := run2 P L true [] [] plain (pre1 c79) (run1 P L true [] [] plain A_mi 35 rin_mi (pre0 c79))
noncomputable def F_mi : List (AV plain) := nextL (frameOf pre_mi) S_mi 100000
theorem dPre_mi : pieceOk 35 .normal (K_mi ++ [(11, .int .i64 0)]) S_mi F_mi 100000 (numbered rows_mi 0) pre_mi = true := by decide +kernel
noncomputable def go_mi (F : List (AV plain)) : Option (Res (Ggo okL)) := run1 P L true [kGo, kFine] [] (Ggo okL) F 35 rows_mi (round c79)
noncomputable def E_mi : List (AV plain) := nextL (frameOf (go_mi F_mi)) S_mi 100000
theorem dGoF_mi : pieceOk 35 .normal (K_mi ++ [(11, kn)]) S_mi E_mi 100000 (numbered rows_mi 0) (go_mi F_mi) = true := by decide +kernel
theorem dGoE_mi : pieceOk 35 .normal (K_mi ++ [(11, kn)]) S_mi E_mi 100000 (numbered rows_mi 0) (go_mi E_mi) = true := by decide +kernel
noncomputable def no_mi (F : List (AV plain)) : Option (Res (Ggo notCan)) := run1 P L true [kNoDo] [] (Ggo notCan) F 35 rows_mi (round c79)
noncomputable def BnoF_mi : List (AV plain) := nextL (frameOf (no_mi F_mi)) (slotsFrom [] 35 0) 100000
theorem dnoF_mi : pieceOk 35 .ret [(6, .sx (.v 200) 0 100)] (slotsFrom [] 35 0) BnoF_mi 100000 [] (no_mi F_mi) = true := by decide +kernel
noncomputable def BnoE_mi : List (AV plain) := nextL (frameOf (no_mi E_mi)) (slotsFrom [] 35 0) 100000
theorem dnoE_mi : pieceOk 35 .ret [(6, .sx (.v 200) 0 100)] (slotsFrom [] 35 0) BnoE_mi 100000 [] (no_mi E_mi) = true := by decide +kernel
noncomputable def bad_mi (F : List (AV plain)) : Option (Res (Ggo badL)) := run1 P L true [kGo, kBad] [] (Ggo badL) F 35 rows_mi (round c79)
noncomputable def BbadF_mi : List (AV plain) := nextL (frameOf (bad_mi F_mi)) (slotsFrom [] 35 0) 100000
theorem dbadF_mi : pieceOk 35 .ret [(6, .sx (.v 200) 0 100)] (slotsFrom [] 35 0) BbadF_mi 100000 [] (bad_mi F_mi) = true := by decide +kernel
noncomputable def BbadE_mi : List (AV plain) := nextL (frameOf (bad_mi E_mi)) (slotsFrom [] 35 0) 100000
theorem dbadE_mi : pieceOk 35 .ret [(6, .sx (.v 200) 0 100)] (slotsFrom [] 35 0) BbadE_mi 100000 [] (bad_mi E_mi) = true := by decide +kernel
noncomputable def end_mi (F : List (AV plain)) : Option (Res Gend) := run1 P L true [] [] Gend F 35 rows_mi (round c79)
noncomputable def X_mi : List (AV plain) := nextL (frameOf (end_mi E_mi)) S_mi 100000
theorem dEnd_mi : pieceOk 35 (.exit 0) (K_mi ++ [(11, kk)]) S_mi X_mi 100000 (numbered rows_mi 0) (end_mi E_mi) = true := by decide +kernel
noncomputable def rest_mi : Option (Res plain) := run1 P L true [] [] plain X_mi 35 rows_mi (rest c79)
noncomputable def Y_mi : List (AV plain) := nextL (frameOf rest_mi) (slotsFrom [] 35 0) 100000
theorem dRest_mi : pieceOk 35 .ret [(6, .int .i64 100)] (slotsFrom [] 35 0) Y_mi 100000 [] rest_mi = true := by decide +kernel
theorem lens_mi : A_mi.length = 35 ∧ F_mi.length = 35 ∧ E_mi.length = 35 ∧ X_mi.length = 35 := ⟨by decide +kernel, by decide +kernel, by decide +kernel, by decide +kernel⟩
theorem fit_mi : rowsFit rows_mi.length 200 rows_mi = true ∧ kfit rows_mi.length 200 K_mi = true := ⟨by decide +kernel, by decide +kernel⟩
end Go.Ev.Gas
end

