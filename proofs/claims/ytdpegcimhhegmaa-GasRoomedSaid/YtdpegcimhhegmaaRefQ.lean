import Derived.Test.YtdpegcimhhegmaaRuleN
set_option linter.unusedVariables false
set_option linter.unusedSimpArgs false
set_option linter.unusedSectionVars false
noncomputable section
set_option maxRecDepth 1000000
set_option maxHeartbeats 0
namespace Go.Ev.Gas
open Go.RowKit Go.Ev.Num
/-! ### The specification's rule of a state -/
noncomputable def fL (b : Bool) : SX × SX × Bool := ((.bin 2 (.bin 2 (.bin 0 (.bin 2 (.v 11) (.v 4)) (.bin 2 (.v 13) (.v 5))) (.v 15)) (.c 8314)), (.bin 2 (.bin 2 (.v 2) (.v 1)) (.c 10000000)), b)
noncomputable def fH (b : Bool) : SX × SX × Bool := ((.bin 2 (.bin 2 (.v 3) (.v 0)) (.c 10000000)), (.bin 2 (.bin 2 (.bin 0 (.bin 2 (.v 12) (.v 4)) (.bin 2 (.v 14) (.v 5))) (.v 16)) (.c 8314)), b)
noncomputable def fT (b : Bool) : SX × SX × Bool := ((.bin 2 (.c 1000) (.v 13)), (.bin 2 (.v 9) (.bin 0 (.v 12) (.v 13))), b)
noncomputable def fR (b : Bool) : SX × SX × Bool := ((.bin 2 (.v 10) (.bin 0 (.v 11) (.v 14))), (.bin 2 (.c 1000) (.v 14)), b)
noncomputable def gR (l : List (SX × SX × Bool)) : Ctx := ⟨[], cavL ++ stL ++ l, [], fun _ => True⟩
noncomputable def k25 (r : Int) : KC := { f := 25, args := a18, res := .ret (.int .i64 r) }
noncomputable def k65 (b : Bool) : KC := { f := 65, args := a18, res := .ret (.bool b) }
noncomputable def k66 (b : Bool) : KC := { f := 66, args := a18, res := .ret (.bool b) }
theorem con_plain {G : Ctx} {k : KC} (hf : k.res.free = true) (h : isRes k.res (runK P L true [] [] G k) = true) : Con P (Fence.there P) G.holds k := con_of_run (H := fun _ => True) fbT hf no_k no_p (fun _ _ => trivial) h
theorem c25_2 : Con P (Fence.there P) (gR [fL true]).holds (k25 2) := con_plain (by decide +kernel) (by decide +kernel)
theorem c25_3 : Con P (Fence.there P) (gR [fL false, fH true]).holds (k25 3) := con_plain (by decide +kernel) (by decide +kernel)
theorem c25_4 : Con P (Fence.there P) (gR [fL false, fH false, fT true]).holds (k25 4) := con_plain (by decide +kernel) (by decide +kernel)
theorem c25_5 : Con P (Fence.there P) (gR [fL false, fH false, fT false, fR true]).holds (k25 5) := con_plain (by decide +kernel) (by decide +kernel)
theorem c25_1 : Con P (Fence.there P) (gR [fL false, fH false, fT false, fR false]).holds (k25 1) := con_plain (by decide +kernel) (by decide +kernel)
theorem c65 (b : Bool) : Con P (Fence.there P) (gR [fT b]).holds (k65 b) := by
  cases b
  · exact con_plain (by decide +kernel) (by decide +kernel)
  · exact con_plain (by decide +kernel) (by decide +kernel)
theorem c66 (b : Bool) : Con P (Fence.there P) (gR [fR b]).holds (k66 b) := by
  cases b
  · exact con_plain (by decide +kernel) (by decide +kernel)
  · exact con_plain (by decide +kernel) (by decide +kernel)
section
variable {z : Nat → Int} (hc : cavP z) (hs : stP z)
include hc hs
theorem two_vr : VRs (envZ z) a18 (#[cavV z, stV z] : Array Value).toList := vrs_cons (vr_cav hc) (vrs_cons (vr_st hs) vrs_nil)
theorem ref_sure : Gives (Fence.there P) 25 #[cavV z, stV z] (vi (sureN z)) := by
  have hv := two_vr hc hs
  have base := lts_cs hc hs
  have e1 : thr z 2 1 = z 2 * z 1 * 10000000 := (Int.mul_assoc _ _ _).symm
  have e2 : thr z 3 0 = z 3 * z 0 * 10000000 := (Int.mul_assoc _ _ _).symm
  unfold sureN pureN
  by_cases a : lowP z
  · rw [if_pos a]
    simp only [lowP, e1] at a
    exact gives_of c25_2 rfl rfl rfl z (holds_of (G := gR [fL true]) trivial (lts_app base ⟨a, trivial⟩) trivial trivial) _ hv
  rw [if_neg a]
  simp only [lowP, e1] at a
  have a' : z 2 * z 1 * 10000000 ≤ fo z (z 11) (z 13) (z 15) * 8314 := by omega
  by_cases b : highP z
  · rw [if_pos b]
    simp only [highP, e2] at b
    exact gives_of c25_3 rfl rfl rfl z (holds_of (G := gR [fL false, fH true]) trivial (lts_app base ⟨a', b, trivial⟩) trivial trivial) _ hv
  rw [if_neg b]
  simp only [highP, e2] at b
  have b' : fo z (z 12) (z 14) (z 16) * 8314 ≤ z 3 * z 0 * 10000000 := by omega
  by_cases c : thinP z
  · rw [if_pos c]
    simp only [thinP] at c
    exact gives_of c25_4 rfl rfl rfl z (holds_of (G := gR [fL false, fH false, fT true]) trivial (lts_app base ⟨a', b', (show 1000 * z 13 < z 9 * (z 12 + z 13) by omega), trivial⟩) trivial trivial) _ hv
  rw [if_neg c]
  simp only [thinP] at c
  have c' : z 9 * (z 12 + z 13) ≤ 1000 * z 13 := by omega
  by_cases d : richP z
  · rw [if_pos d]
    simp only [richP] at d
    exact gives_of c25_5 rfl rfl rfl z (holds_of (G := gR [fL false, fH false, fT false, fR true]) trivial (lts_app base ⟨a', b', c', (show z 10 * (z 11 + z 14) < 1000 * z 14 by omega), trivial⟩) trivial trivial) _ hv
  · rw [if_neg d]
    simp only [richP] at d
    exact gives_of c25_1 rfl rfl rfl z (holds_of (G := gR [fL false, fH false, fT false, fR false]) trivial (lts_app base ⟨a', b', c', (show 1000 * z 14 ≤ z 10 * (z 11 + z 14) by omega), trivial⟩) trivial trivial) _ hv
theorem ref_thin : Gives (Fence.there P) 65 #[cavV z, stV z] (.bool (decide (thinP z))) := by
  have hv := two_vr hc hs
  have base := lts_cs hc hs
  by_cases c : thinP z
  · rw [decide_eq_true c]
    simp only [thinP] at c
    exact gives_of (c65 true) rfl rfl rfl z (holds_of (G := gR [fT true]) trivial (lts_app base ⟨(show 1000 * z 13 < z 9 * (z 12 + z 13) by omega), trivial⟩) trivial trivial) _ hv
  · rw [decide_eq_false c]
    simp only [thinP] at c
    exact gives_of (c65 false) rfl rfl rfl z (holds_of (G := gR [fT false]) trivial (lts_app base ⟨(show z 9 * (z 12 + z 13) ≤ 1000 * z 13 by omega), trivial⟩) trivial trivial) _ hv
theorem ref_rich : Gives (Fence.there P) 66 #[cavV z, stV z] (.bool (decide (richP z))) := by
  have hv := two_vr hc hs
  have base := lts_cs hc hs
  by_cases c : richP z
  · rw [decide_eq_true c]
    simp only [richP] at c
    exact gives_of (c66 true) rfl rfl rfl z (holds_of (G := gR [fR true]) trivial (lts_app base ⟨(show z 10 * (z 11 + z 14) < 1000 * z 14 by omega), trivial⟩) trivial trivial) _ hv
  · rw [decide_eq_false c]
    simp only [richP] at c
    exact gives_of (c66 false) rfl rfl rfl z (holds_of (G := gR [fR false]) trivial (lts_app base ⟨(show 1000 * z 14 ≤ z 10 * (z 11 + z 14) by omega), trivial⟩) trivial trivial) _ hv
end
end Go.Ev.Gas
end

