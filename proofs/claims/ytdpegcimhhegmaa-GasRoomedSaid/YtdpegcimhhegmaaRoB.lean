import Derived.Test.YtdpegcimhhegmaaRoA
import Derived.Test.YtdpegcimhhegmaaPurB
set_option linter.unusedVariables false
set_option linter.unusedSimpArgs false
set_option linter.unusedSectionVars false
noncomputable section
set_option maxRecDepth 1000000
set_option maxHeartbeats 0
namespace Go.Ev.Gas
open Go.RowKit Go.Ev.Num Go.Proofs
noncomputable def K_mw : List (Nat × AV plain) := [(2, .func (.func 98) [] [.ptr 0 0]), (3, .ptr 1 0), (4, .ptr 2 0)]
noncomputable def kc_mw : AV plain := .sx (.v 200) 0 100
noncomputable def kn_mw : AV plain := .sx (.bin 0 (.v 200) (.c 1)) 1 101
noncomputable def S_mw : List (Option (AV plain)) := slotsFrom (K_mw ++ [(11, kc_mw)]) 35 0
noncomputable def Rg_mw (q : (Nat → Int) → Prop) : Ctx := ⟨[], [(.v 200, .c 100, true)], [], fun o => ∃ y, NumZ y o ∧ Rd false 1 q y⟩
noncomputable def Re_mw : Ctx := ⟨[], [(.v 200, .c 100, false)], [], fun _ => True⟩
noncomputable def A_mw : List (AV plain) := [cavA, stA, .func (.func 98) [] [.ptr 0 0]] ++ List.replicate 32 undefA
noncomputable def rin_mw : List (List (AV plain)) := [[iv 34 1 1000000]]
noncomputable def rows_mw : List (List (AV plain)) := [[iv 34 1 1000000], [iv 0 1 1000000, iv 1 1 1000000, iv 2 0 100000, iv 3 0 100000, iv 4 500 2000, iv 5 500 2000, iv 6 1 100, iv 7 1 100, iv 8 2000 5000, iv 9 0 1000, iv 10 0 1000], [iv 11 0 1000000, iv 12 0 1000000, iv 13 0 1000000, iv 14 0 1000000, iv 15 2000 5000, iv 16 2000 5000, iv 17 0 1000000000, iv 18 0 1000000000]]
noncomputable def pre_mw : Option (Res plain) := run2 P L true [] [] plain (pre1 c79) (run1 P L true [] [] plain A_mw 35 rin_mw (pre0 c79))
noncomputable def F_mw : List (AV plain) := nextL (frameOf pre_mw) S_mw 100000
theorem dPre_mw : pieceOk 35 .normal (K_mw ++ [(11, .int .i64 0)]) S_mw F_mw 100000 (numbered rows_mw 0) pre_mw = true := by decide +kernel
noncomputable def go_mw (F : List (AV plain)) : Option (Res (Rg_mw okL)) := run1 P L true [kGo_U1, kFine_U1] [] (Rg_mw okL) F 35 rows_mw (round c79)
noncomputable def E_mw : List (AV plain) := nextL (frameOf (go_mw F_mw)) S_mw 100000
theorem dGoF_mw : pieceOk 35 .normal (K_mw ++ [(11, kn_mw)]) S_mw E_mw 100000 (numbered rows_mw 0) (go_mw F_mw) = true := by decide +kernel
theorem dGoE_mw : pieceOk 35 .normal (K_mw ++ [(11, kn_mw)]) S_mw E_mw 100000 (numbered rows_mw 0) (go_mw E_mw) = true := by decide +kernel
noncomputable def no_mw (F : List (AV plain)) : Option (Res (Rg_mw notCan)) := run1 P L true [kNo_U1] [] (Rg_mw notCan) F 35 rows_mw (round c79)
noncomputable def BnoF_mw : List (AV plain) := nextL (frameOf (no_mw F_mw)) (slotsFrom [] 35 0) 100000
theorem dnoF_mw : pieceOk 35 .ret [(6, .sx (.v 200) 0 100)] (slotsFrom [] 35 0) BnoF_mw 100000 [] (no_mw F_mw) = true := by decide +kernel
noncomputable def BnoE_mw : List (AV plain) := nextL (frameOf (no_mw E_mw)) (slotsFrom [] 35 0) 100000
theorem dnoE_mw : pieceOk 35 .ret [(6, .sx (.v 200) 0 100)] (slotsFrom [] 35 0) BnoE_mw 100000 [] (no_mw E_mw) = true := by decide +kernel
noncomputable def bad_mw (F : List (AV plain)) : Option (Res (Rg_mw badL)) := run1 P L true [kGo_U1, kBad_U1] [] (Rg_mw badL) F 35 rows_mw (round c79)
noncomputable def BbadF_mw : List (AV plain) := nextL (frameOf (bad_mw F_mw)) (slotsFrom [] 35 0) 100000
theorem dbadF_mw : pieceOk 35 .ret [(6, .sx (.v 200) 0 100)] (slotsFrom [] 35 0) BbadF_mw 100000 [] (bad_mw F_mw) = true := by decide +kernel
noncomputable def BbadE_mw : List (AV plain) := nextL (frameOf (bad_mw E_mw)) (slotsFrom [] 35 0) 100000
theorem dbadE_mw : pieceOk 35 .ret [(6, .sx (.v 200) 0 100)] (slotsFrom [] 35 0) BbadE_mw 100000 [] (bad_mw E_mw) = true := by decide +kernel
noncomputable def end_mw (F : List (AV plain)) : Option (Res Re_mw) := run1 P L true [] [] Re_mw F 35 rows_mw (round c79)
noncomputable def X_mw : List (AV plain) := nextL (frameOf (end_mw E_mw)) S_mw 100000
theorem dEnd_mw : pieceOk 35 (.exit 0) (K_mw ++ [(11, kc_mw)]) S_mw X_mw 100000 (numbered rows_mw 0) (end_mw E_mw) = true := by decide +kernel
noncomputable def rest_mw : Option (Res plain) := run1 P L true [] [] plain X_mw 35 rows_mw (rest c79)
noncomputable def Y_mw : List (AV plain) := nextL (frameOf rest_mw) (slotsFrom [] 35 0) 100000
theorem dRest_mw : pieceOk 35 .ret [(6, .int .i64 100)] (slotsFrom [] 35 0) Y_mw 100000 [] rest_mw = true := by decide +kernel
theorem lens_mw : A_mw.length = 35 ∧ F_mw.length = 35 ∧ E_mw.length = 35 ∧ X_mw.length = 35 := ⟨by decide +kernel, by decide +kernel, by decide +kernel, by decide +kernel⟩
theorem fit_mw : rowsFit rows_mw.length 200 rows_mw = true ∧ kfit rows_mw.length 200 K_mw = true := ⟨by decide +kernel, by decide +kernel⟩
end Go.Ev.Gas
end

