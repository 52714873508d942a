import Derived.Test.YtdpegcimhhegmaaRoA
import Derived.Test.YtdpegcimhhegmaaPurB
set_option linter.unusedVariables false
set_option linter.unusedSimpArgs false
set_option linter.unusedSectionVars false
noncomputable section
set_option maxRecDepth 1000000
set_option maxHeartbeats 0
namespace Go.Ev.Gas
open Go.RowKit Go.Ev.Num Go.Proofs
noncomputable def K_rw : List (Nat × AV plain) := [(2, iv 34 1 1000000), (3, .ptr 0 0), (4, .ptr 1 0)]
noncomputable def kc_rw : AV plain := .sx (.v 200) 0 101
noncomputable def kn_rw : AV plain := .sx (.bin 0 (.v 200) (.c 1)) 1 102
noncomputable def S_rw : List (Option (AV plain)) := slotsFrom (K_rw ++ [(7, kc_rw)]) 36 0
noncomputable def Rg_rw (q : (Nat → Int) → Prop) : Ctx := ⟨[], [(.v 200, .c 101, true), (.c 100, .v 200, false)], [], fun o => ∃ y, NumZ y o ∧ Rd false 0 q y⟩
noncomputable def Re_rw : Ctx := ⟨[], [(.v 200, .c 101, false), (.c 100, .v 200, true)], [], fun _ => True⟩
noncomputable def A_rw : List (AV plain) := [cavA, stA, iv 34 1 1000000] ++ List.replicate 33 undefA
noncomputable def rin_rw : List (List (AV plain)) := []
noncomputable def rows_rw : List (List (AV plain)) := [[iv 0 1 1000000, iv 1 1 1000000, iv 2 0 100000, iv 3 0 100000, iv 4 500 2000, iv 5 500 2000, iv 6 1 100, iv 7 1 100, iv 8 2000 5000, iv 9 0 1000, iv 10 0 1000], [iv 11 0 1000000, iv 12 0 1000000, iv 13 0 1000000, iv 14 0 1000000, iv 15 2000 5000, iv 16 2000 5000, iv 17 0 1000000000, iv 18 0 1000000000]]
noncomputable def pre_rw : Option (Res plain) := run2 P L true [] [] plain (pre1 c45) (run1 P L true [] [] plain A_rw 36 rin_rw (pre0 c45))
noncomputable def F_rw : List (AV plain) := nextL (frameOf pre_rw) S_rw 100000
theorem dPre_rw : pieceOk 36 .normal (K_rw ++ [(7, .int .i64 1)]) S_rw F_rw 100000 (numbered rows_rw 0) pre_rw = true := by decide +kernel
noncomputable def go_rw (F : List (AV plain)) : Option (Res (Rg_rw okL)) := run1 P L true [kGo_U0, kFine_U0] [] (Rg_rw okL) F 36 rows_rw (round c45)
noncomputable def E_rw : List (AV plain) := nextL (frameOf (go_rw F_rw)) S_rw 100000
theorem dGoF_rw : pieceOk 36 .normal (K_rw ++ [(7, kn_rw)]) S_rw E_rw 100000 (numbered rows_rw 0) (go_rw F_rw) = true := by decide +kernel
theorem dGoE_rw : pieceOk 36 .normal (K_rw ++ [(7, kn_rw)]) S_rw E_rw 100000 (numbered rows_rw 0) (go_rw E_rw) = true := by decide +kernel
noncomputable def no_rw (F : List (AV plain)) : Option (Res (Rg_rw notCan)) := run1 P L true [kNo_U0] [] (Rg_rw notCan) F 36 rows_rw (round c45)
noncomputable def BnoF_rw : List (AV plain) := nextL (frameOf (no_rw F_rw)) (slotsFrom [] 36 0) 100000
theorem dnoF_rw : pieceOk 36 .ret [(6, .sx (.bin 1 (.v 200) (.c 1)) (-1) 100)] (slotsFrom [] 36 0) BnoF_rw 100000 [] (no_rw F_rw) = true := by decide +kernel
noncomputable def BnoE_rw : List (AV plain) := nextL (frameOf (no_rw E_rw)) (slotsFrom [] 36 0) 100000
theorem dnoE_rw : pieceOk 36 .ret [(6, .sx (.bin 1 (.v 200) (.c 1)) (-1) 100)] (slotsFrom [] 36 0) BnoE_rw 100000 [] (no_rw E_rw) = true := by decide +kernel
noncomputable def bad_rw (F : List (AV plain)) : Option (Res (Rg_rw badL)) := run1 P L true [kGo_U0, kBad_U0] [] (Rg_rw badL) F 36 rows_rw (round c45)
noncomputable def BbadF_rw : List (AV plain) := nextL (frameOf (bad_rw F_rw)) (slotsFrom [] 36 0) 100000
theorem dbadF_rw : pieceOk 36 .ret [(6, .sx (.bin 1 (.v 200) (.c 1)) (-1) 100)] (slotsFrom [] 36 0) BbadF_rw 100000 [] (bad_rw F_rw) = true := by decide +kernel
noncomputable def BbadE_rw : List (AV plain) := nextL (frameOf (bad_rw E_rw)) (slotsFrom [] 36 0) 100000
theorem dbadE_rw : pieceOk 36 .ret [(6, .sx (.bin 1 (.v 200) (.c 1)) (-1) 100)] (slotsFrom [] 36 0) BbadE_rw 100000 [] (bad_rw E_rw) = true := by decide +kernel
noncomputable def end_rw (F : List (AV plain)) : Option (Res Re_rw) := run1 P L true [] [] Re_rw F 36 rows_rw (round c45)
noncomputable def X_rw : List (AV plain) := nextL (frameOf (end_rw E_rw)) S_rw 100000
theorem dEnd_rw : pieceOk 36 (.exit 0) (K_rw ++ [(7, kc_rw)]) S_rw X_rw 100000 (numbered rows_rw 0) (end_rw E_rw) = true := by decide +kernel
noncomputable def rest_rw : Option (Res plain) := run1 P L true [] [] plain X_rw 36 rows_rw (rest c45)
noncomputable def Y_rw : List (AV plain) := nextL (frameOf rest_rw) (slotsFrom [] 36 0) 100000
theorem dRest_rw : pieceOk 36 .ret [(6, .int .i64 100)] (slotsFrom [] 36 0) Y_rw 100000 [] rest_rw = true := by decide +kernel
theorem lens_rw : A_rw.length = 36 ∧ F_rw.length = 36 ∧ E_rw.length = 36 ∧ X_rw.length = 36 := ⟨by decide +kernel, by decide +kernel, by decide +kernel, by decide +kernel⟩
theorem fit_rw : rowsFit rows_rw.length 200 rows_rw = true ∧ kfit rows_rw.length 200 K_rw = true := ⟨by decide +kernel, by decide +kernel⟩
end Go.Ev.Gas
end

