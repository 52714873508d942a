import Derived.Test.YtdpegcimhhegmaaRoA
import Derived.Test.YtdpegcimhhegmaaPurB
set_option linter.unusedVariables false
set_option linter.unusedSimpArgs false
set_option linter.unusedSectionVars false
noncomputable section
set_option maxRecDepth 1000000
set_option maxHeartbeats 0
namespace Go.Ev.Gas
open Go.RowKit Go.Ev.Num Go.Proofs
noncomputable def K_rr : List (Nat × AV plain) := [(3, .ptr 0 0), (4, .ptr 1 0), (5, .ptr 2 0)]
noncomputable def kc_rr : AV plain := .sx (.v 200) 0 101
noncomputable def kn_rr : AV plain := .sx (.bin 0 (.v 200) (.c 1)) 1 102
noncomputable def S_rr : List (Option (AV plain)) := slotsFrom (K_rr ++ [(7, kc_rr)]) 35 0
noncomputable def Rg_rr (q : (Nat → Int) → Prop) : Ctx := ⟨[], [(.v 200, .c 101, true), (.c 100, .v 200, false)], [], fun o => ∃ y, NumZ y o ∧ Rd true 0 q y⟩
noncomputable def Re_rr : Ctx := ⟨[], [(.v 200, .c 101, false), (.c 100, .v 200, true)], [], fun _ => True⟩
noncomputable def A_rr : List (AV plain) := [cavA, stA, .agg [iv 30 0 1000000, iv 31 0 1000000, iv 32 2000 5000, iv 33 0 1000000000]] ++ List.replicate 32 undefA
noncomputable def rin_rr : List (List (AV plain)) := []
noncomputable def rows_rr : List (List (AV plain)) := [[iv 0 1 1000000, iv 1 1 1000000, iv 2 0 100000, iv 3 0 100000, iv 4 500 2000, iv 5 500 2000, iv 6 1 100, iv 7 1 100, iv 8 2000 5000, iv 9 0 1000, iv 10 0 1000], [iv 11 0 1000000, iv 12 0 1000000, iv 13 0 1000000, iv 14 0 1000000, iv 15 2000 5000, iv 16 2000 5000, iv 17 0 1000000000, iv 18 0 1000000000], [iv 30 0 1000000, iv 31 0 1000000, iv 32 2000 5000, iv 33 0 1000000000]]
noncomputable def pre_rr : Option (Res plain) := run2 P L true [] [] plain (pre1 c46) (run1 P L true [] [] plain A_rr 35 rin_rr (pre0 c46))
noncomputable def F_rr : List (AV plain) := nextL (frameOf pre_rr) S_rr 100000
theorem dPre_rr : pieceOk 35 .normal (K_rr ++ [(7, .int .i64 1)]) S_rr F_rr 100000 (numbered rows_rr 0) pre_rr = true := by decide +kernel
noncomputable def go_rr (F : List (AV plain)) : Option (Res (Rg_rr okL)) := run1 P L true [kGo_L0, kFine_L0] [] (Rg_rr okL) F 35 rows_rr (round c46)
noncomputable def E_rr : List (AV plain) := nextL (frameOf (go_rr F_rr)) S_rr 100000
theorem dGoF_rr : pieceOk 35 .normal (K_rr ++ [(7, kn_rr)]) S_rr E_rr 100000 (numbered rows_rr 0) (go_rr F_rr) = true := by decide +kernel
theorem dGoE_rr : pieceOk 35 .normal (K_rr ++ [(7, kn_rr)]) S_rr E_rr 100000 (numbered rows_rr 0) (go_rr E_rr) = true := by decide +kernel
noncomputable def no_rr (F : List (AV plain)) : Option (Res (Rg_rr notCan)) := run1 P L true [kNo_L0] [] (Rg_rr notCan) F 35 rows_rr (round c46)
noncomputable def BnoF_rr : List (AV plain) := nextL (frameOf (no_rr F_rr)) (slotsFrom [] 35 0) 100000
theorem dnoF_rr : pieceOk 35 .ret [(6, .sx (.bin 1 (.v 200) (.c 1)) (-1) 100)] (slotsFrom [] 35 0) BnoF_rr 100000 [] (no_rr F_rr) = true := by decide +kernel
noncomputable def BnoE_rr : List (AV plain) := nextL (frameOf (no_rr E_rr)) (slotsFrom [] 35 0) 100000
theorem dnoE_rr : pieceOk 35 .ret [(6, .sx (.bin 1 (.v 200) (.c 1)) (-1) 100)] (slotsFrom [] 35 0) BnoE_rr 100000 [] (no_rr E_rr) = true := by decide +kernel
noncomputable def bad_rr (F : List (AV plain)) : Option (Res (Rg_rr badL)) := run1 P L true [kGo_L0, kBad_L0] [] (Rg_rr badL) F 35 rows_rr (round c46)
noncomputable def BbadF_rr : List (AV plain) := nextL (frameOf (bad_rr F_rr)) (slotsFrom [] 35 0) 100000
theorem dbadF_rr : pieceOk 35 .ret [(6, .sx (.bin 1 (.v 200) (.c 1)) (-1) 100)] (slotsFrom [] 35 0) BbadF_rr 100000 [] (bad_rr F_rr) = true := by decide +kernel
noncomputable def BbadE_rr : List (AV plain) := nextL (frameOf (bad_rr E_rr)) (slotsFrom [] 35 0) 100000
theorem dbadE_rr : pieceOk 35 .ret [(6, .sx (.bin 1 (.v 200) (.c 1)) (-1) 100)] (slotsFrom [] 35 0) BbadE_rr 100000 [] (bad_rr E_rr) = true := by decide +kernel
noncomputable def end_rr (F : List (AV plain)) : Option (Res Re_rr) := run1 P L true [] [] Re_rr F 35 rows_rr (round c46)
noncomputable def X_rr : List (AV plain) := nextL (frameOf (end_rr E_rr)) S_rr 100000
theorem dEnd_rr : pieceOk 35 (.exit 0) (K_rr ++ [(7, kc_rr)]) S_rr X_rr 100000 (numbered rows_rr 0) (end_rr E_rr) = true := by decide +kernel
noncomputable def rest_rr : Option (Res plain) := run1 P L true [] [] plain X_rr 35 rows_rr (rest c46)
noncomputable def Y_rr : List (AV plain) := nextL (frameOf rest_rr) (slotsFrom [] 35 0) 100000
theorem dRest_rr : pieceOk 35 .ret [(6, .int .i64 100)] (slotsFrom [] 35 0) Y_rr 100000 [] rest_rr = true := by decide +kernel
theorem lens_rr : A_rr.length = 35 ∧ F_rr.length = 35 ∧ E_rr.length = 35 ∧ X_rr.length = 35 := ⟨by decide +kernel, by decide +kernel, by decide +kernel, by decide +kernel⟩
theorem fit_rr : rowsFit rows_rr.length 200 rows_rr = true ∧ kfit rows_rr.length 200 K_rr = true := ⟨by decide +kernel, by decide +kernel⟩
end Go.Ev.Gas
end

