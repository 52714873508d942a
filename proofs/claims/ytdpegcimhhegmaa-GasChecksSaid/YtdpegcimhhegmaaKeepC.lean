import Derived.Test.YtdpegcimhhegmaaKeepA
set_option linter.unusedVariables false
set_option linter.unusedSimpArgs false
set_option linter.unusedSectionVars false
noncomputable section
set_option maxRecDepth 1000000
set_option maxHeartbeats 0
namespace Go.Ev.Gas
noncomputable def tK3 : CT := (.lt (.bin 2 (.c 1000) (.v 31)) (.bin 2 (.v 9) (.bin 0 (.v 30) (.v 31))) (.lt (.bin 2 (.c 1000) (.v 13)) (.bin 2 (.v 9) (.bin 0 (.v 11) (.v 13))) .leaf (.lt (.bin 2 (.c 1000) (.v 14)) (.bin 2 (.v 9) (.bin 0 (.v 12) (.v 14))) .leaf .leaf)) (.lt (.bin 2 (.v 10) (.bin 0 (.v 30) (.v 31))) (.bin 2 (.c 1000) (.v 31)) (.lt (.bin 2 (.c 1000) (.v 13)) (.bin 2 (.v 9) (.bin 0 (.v 11) (.v 13))) .leaf (.lt (.bin 2 (.c 1000) (.v 14)) (.bin 2 (.v 9) (.bin 0 (.v 12) (.v 14))) .leaf .leaf)) (.lt (.bin 2 (.c 1000) (.v 13)) (.bin 2 (.v 9) (.bin 0 (.v 11) (.v 13))) .leaf (.lt (.bin 2 (.c 1000) (.v 14)) (.bin 2 (.v 9) (.bin 0 (.v 12) (.v 14))) .leaf .leaf))))
theorem dK3 : treeK P L true [k18 4, k21] [] (kYes 4 a4) tK3 GK3 = true := by decide +kernel
theorem cK3 : Con P (Fence.there P) GK3.holds (kYes 4 a4) :=
  con_of_tree (H := GQ3.holds) fbT rfl (List.forall_mem_cons.2 ⟨⟨by decide +kernel, cQ3⟩, kn_ok⟩) no_p tK3 GK3 (fun o h => sub_holds (GK3.lts.drop GQ3.lts.length) rfl rfl rfl rfl o h) dK3 (fun G' h' => by rw [show outs tK3 GK3 = [] from rfl] at h'; cases h')
end Go.Ev.Gas
end

noncomputable section
set_option maxRecDepth 1000000
set_option maxHeartbeats 0
namespace Go.Ev.Gas
noncomputable def tK4 : CT := (.lt (.bin 2 (.v 10) (.bin 0 (.v 30) (.v 31))) (.bin 2 (.c 1000) (.v 31)) (.lt (.bin 2 (.v 10) (.bin 0 (.v 11) (.v 13))) (.bin 2 (.c 1000) (.v 13)) .leaf (.lt (.bin 2 (.v 10) (.bin 0 (.v 12) (.v 14))) (.bin 2 (.c 1000) (.v 14)) .leaf (.lt (.bin 2 (.v 10) (.bin 0 (.v 12) (.v 13))) (.bin 2 (.c 1000) (.v 13)) .leaf .leaf))) (.lt (.bin 2 (.v 10) (.bin 0 (.v 11) (.v 13))) (.bin 2 (.c 1000) (.v 13)) .leaf (.lt (.bin 2 (.v 10) (.bin 0 (.v 12) (.v 14))) (.bin 2 (.c 1000) (.v 14)) .leaf (.lt (.bin 2 (.v 10) (.bin 0 (.v 12) (.v 13))) (.bin 2 (.c 1000) (.v 13)) .leaf .leaf))))
theorem dK4 : treeK P L true [k18 5, k21] [] (kYes 4 a4) tK4 GK4 = true := by decide +kernel
theorem cK4 : Con P (Fence.there P) GK4.holds (kYes 4 a4) :=
  con_of_tree (H := GQ4.holds) fbT rfl (List.forall_mem_cons.2 ⟨⟨by decide +kernel, cQ4⟩, kn_ok⟩) no_p tK4 GK4 (fun o h => sub_holds (GK4.lts.drop GQ4.lts.length) rfl rfl rfl rfl o h) dK4 (fun G' h' => by rw [show outs tK4 GK4 = [] from rfl] at h'; cases h')
end Go.Ev.Gas
end

noncomputable section
set_option maxRecDepth 1000000
set_option maxHeartbeats 0
namespace Go.Ev.Gas
def hasP (z : Nat → Int) : Prop := (z 11 ≤ z 30 ∧ z 30 ≤ z 12) ∧ (z 13 ≤ z 31 ∧ z 31 ≤ z 14) ∧ (z 15 ≤ z 32 ∧ z 32 ≤ z 16) ∧ (z 17 ≤ z 33 ∧ z 33 ≤ z 18)
noncomputable def gHas : Ctx := gValid (cavL ++ stL) (fun o => ¬ hasP (zo o))
noncomputable def kHas : KC := { f := 26, args := [stA, rawP], res := .ret (.bool false) }
noncomputable def tH : CT := (.lt (.v 30) (.v 11) .leaf (.lt (.v 12) (.v 30) .leaf (.lt (.v 31) (.v 13) .leaf (.lt (.v 14) (.v 31) .leaf (.lt (.v 32) (.v 15) .leaf (.lt (.v 16) (.v 32) .leaf (.lt (.v 33) (.v 17) .leaf (.lt (.v 18) (.v 33) .leaf .out))))))))
theorem dH : treeK P L true [] [] kHas tH gHas = true := by decide +kernel
theorem cHas : Con P (Fence.there P) gHas.holds kHas := by
  refine con_of_tree (H := fun _ => True) fbT rfl no_k no_p tH gHas (fun _ _ => trivial) dH (fun G' hG' o _ hh => absurd ?_ (show ¬ hasP (zo o) from ?_))
  · simp only [tH, outs, addLt, gHas, gValid, List.mem_append, List.mem_singleton, List.not_mem_nil, false_or, or_false] at hG'
    have hl := LtsP.of hh _ (fun _ h => h)
    subst hG'
    simp only [cavL, stL, List.cons_append, List.nil_append, LtsP, SX.eval] at hl
    simp only [hasP, zo]; omega
  · have := hh.extra
    simp only [tH, outs, addLt, gHas, gValid, List.mem_append, List.mem_singleton, List.not_mem_nil, false_or, or_false] at hG'
    subst hG'; exact this
theorem d4_1 : isRes (kYes 4 [rawC, rawS, rawP, rv 36]).res (runK P L true [kNo 19 rawC, k21] [] (gNo cavP) (kYes 4 [rawC, rawS, rawP, rv 36])) = true := by decide +kernel
theorem c4_1 : Con P (Fence.there P) (gNo cavP).holds (kYes 4 [rawC, rawS, rawP, rv 36]) := con_no (H := fun o => ¬ cavP (zo o)) (List.forall_mem_cons.2 ⟨⟨by decide +kernel, no19⟩, kn_ok⟩) (fun o h => h.extra) d4_1
theorem d4_2 : isRes (kYes 4 [cavA, rawS, rawP, rv 36]).res (runK P L true [kNo 20 rawS, k21] [] (gValid cavL (fun o => ¬ stP (zo o))) (kYes 4 [cavA, rawS, rawP, rv 36])) = true := by decide +kernel
theorem c4_2 : Con P (Fence.there P) (gValid cavL (fun o => ¬ stP (zo o))).holds (kYes 4 [cavA, rawS, rawP, rv 36]) := con_no (H := fun o => ¬ stP (zo o)) (List.forall_mem_cons.2 ⟨⟨by decide +kernel, no20⟩, kn_ok⟩) (fun o h => h.extra) d4_2
theorem d4_3 : isRes (kYes 4 [cavA, stA, rawP, rv 36]).res (runK P L true [kHas, k21] [] gHas (kYes 4 [cavA, stA, rawP, rv 36])) = true := by decide +kernel
theorem c4_3 : Con P (Fence.there P) gHas.holds (kYes 4 [cavA, stA, rawP, rv 36]) := con_no (H := gHas.holds) (List.forall_mem_cons.2 ⟨⟨by decide +kernel, cHas⟩, kn_ok⟩) (fun o h => h) d4_3
noncomputable def hasL : List (SX × SX × Bool) := [((.v 30), (.v 11), false), ((.v 12), (.v 30), false), ((.v 31), (.v 13), false), ((.v 14), (.v 31), false), ((.v 32), (.v 15), false), ((.v 16), (.v 32), false), ((.v 33), (.v 17), false), ((.v 18), (.v 33), false)]
noncomputable def poiK : AV plain := .agg [iv 30 0 1000000, iv 31 0 1000000, iv 32 2000 5000, iv 33 0 1000000000]
noncomputable def g4_4 : Ctx := ⟨[], (cavL ++ stL ++ hasL) ++ [((.v 36), (.v 0), true)], [], fun _ => True⟩
noncomputable def g4_5 : Ctx := ⟨[], (cavL ++ stL ++ hasL) ++ [((.v 36), (.v 0), false), ((.v 1), (.v 36), true)], [], fun _ => True⟩
theorem d4_4 : isRes (kYes 4 [cavA, stA, poiK, rv 36]).res (runK P L true [k21] [] g4_4 (kYes 4 [cavA, stA, poiK, rv 36])) = true := by decide +kernel
theorem c4_4 : Con P (Fence.there P) g4_4.holds (kYes 4 [cavA, stA, poiK, rv 36]) := con_no (H := fun _ => True) kn_ok (fun o h => trivial) d4_4
theorem d4_5 : isRes (kYes 4 [cavA, stA, poiK, rv 36]).res (runK P L true [k21] [] g4_5 (kYes 4 [cavA, stA, poiK, rv 36])) = true := by decide +kernel
theorem c4_5 : Con P (Fence.there P) g4_5.holds (kYes 4 [cavA, stA, poiK, rv 36]) := con_no (H := fun _ => True) kn_ok (fun o h => trivial) d4_5
end Go.Ev.Gas
end

