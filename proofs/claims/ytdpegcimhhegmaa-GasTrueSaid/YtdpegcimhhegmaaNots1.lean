import Derived.Test.YtdpegcimhhegmaaSeat
import Derived.Test.YtdpegcimhhegmaaEvE
set_option linter.unusedVariables false
set_option linter.unusedSimpArgs false
set_option linter.unusedSectionVars false
noncomputable section
set_option maxRecDepth 1000000
set_option maxHeartbeats 0
namespace Go.Ev.Gas
noncomputable def rv (i : Nat) : AV plain := .sx (.v i) (-9223372036854775808) 9223372036854775807
noncomputable def rawC : AV plain := .agg [rv 0, rv 1, rv 2, rv 3, rv 4, rv 5, rv 6, rv 7, rv 8, rv 9, rv 10]
noncomputable def rawS : AV plain := .agg [rv 11, rv 12, rv 13, rv 14, rv 15, rv 16, rv 17, rv 18]
noncomputable def rawO : AV plain := .agg [rv 28, rv 19, rv 20, rv 21, rv 22, rv 23, rv 24, rv 25, rv 26, rv 27]
noncomputable def rawP : AV plain := .agg [rv 30, rv 31, rv 32, rv 33]
def cavP (z : Nat → Int) : Prop := (500 ≤ z 4 ∧ z 4 ≤ 2000) ∧ (500 ≤ z 5 ∧ z 5 ≤ 2000) ∧ (1 ≤ z 6 ∧ z 6 ≤ 100) ∧ (1 ≤ z 7 ∧ z 7 ≤ 100) ∧ (1 ≤ z 0 ∧ z 0 ≤ z 1 ∧ z 1 ≤ 1000000) ∧ (0 ≤ z 2 ∧ z 2 ≤ z 3 ∧ z 3 ≤ 100000) ∧ (2000 ≤ z 8 ∧ z 8 ≤ 5000) ∧ (0 ≤ z 9 ∧ z 9 ≤ z 10 ∧ z 10 ≤ 1000)
def stP (z : Nat → Int) : Prop := (0 ≤ z 11 ∧ z 11 ≤ z 12 ∧ z 12 ≤ 1000000) ∧ (0 ≤ z 13 ∧ z 13 ≤ z 14 ∧ z 14 ≤ 1000000) ∧ (2000 ≤ z 15 ∧ z 15 ≤ z 16 ∧ z 16 ≤ 5000) ∧ (0 ≤ z 17 ∧ z 17 ≤ z 18 ∧ z 18 ≤ 1000000000)
def poiP (z : Nat → Int) : Prop := (0 ≤ z 30 ∧ z 30 ≤ 1000000) ∧ (0 ≤ z 31 ∧ z 31 ≤ 1000000) ∧ (2000 ≤ z 32 ∧ z 32 ≤ 5000) ∧ (0 ≤ z 33 ∧ z 33 ≤ 1000000000)
def op1 (z : Nat → Int) : Prop := z 28 = 1 ∧ (0 ≤ z 19 ∧ z 19 ≤ 1000000) ∧ (0 ≤ z 20 ∧ z 20 ≤ 1000000) ∧ (2000 ≤ z 21 ∧ z 21 ≤ 5000) ∧ (0 ≤ z 22 ∧ z 22 ≤ 1000000000) ∧ z 23 = 0 ∧ z 24 = 0 ∧ z 25 = 0 ∧ z 26 = 0 ∧ z 27 = 0
def op2 (z : Nat → Int) : Prop := z 28 = 2 ∧ z 19 = 0 ∧ z 20 = 0 ∧ z 21 = 0 ∧ z 22 = 0 ∧ (0 ≤ z 23 ∧ z 23 ≤ 2000000) ∧ z 24 = 0 ∧ z 25 = 0 ∧ z 26 = 0 ∧ z 27 = 0
def op3 (z : Nat → Int) : Prop := z 28 = 3 ∧ z 19 = 0 ∧ z 20 = 0 ∧ z 21 = 0 ∧ z 22 = 0 ∧ z 23 = 0 ∧ (0 ≤ z 24 ∧ z 24 ≤ z 25 ∧ z 25 ≤ 1000) ∧ (0 ≤ z 26 ∧ z 26 ≤ z 27 ∧ z 27 ≤ 1000000)
def opP (z : Nat → Int) : Prop := op1 z ∨ op2 z ∨ op3 z
def zo (o : Nat → Value) (i : Nat) : Int := valI (o i)
/-- A check that says no. -/
noncomputable def kNo (f : Nat) (a : AV plain) : KC := { f := f, args := [a], res := .ret (.bool false) }
noncomputable def gNo (p : (Nat → Int) → Prop) : Ctx := ⟨[], [], [], fun o => ¬ p (zo o)⟩
theorem conNo {p : (Nat → Int) → Prop} {f : Nat} {a : AV plain} (t : CT) (h : treeK P L true [] [] (kNo f a) t (gNo p) = true)
    (ho : ∀ G' ∈ outs t (gNo p), ∀ o, LtsP o G'.lts → EqsP o G'.eqs → p (zo o)) (hx : ∀ G' ∈ outs t (gNo p), G'.extra = (gNo p).extra) : Con P (Fence.there P) (fun o => ¬ p (zo o)) (kNo f a) := by
  have c := con_of_tree (H := fun _ => True) fbT (k := kNo f a) rfl no_k no_p t (gNo p) (fun _ _ => trivial) h (fun G' hG' o _ hh => absurd (ho G' hG' o (LtsP.of hh _ (fun _ h => h)) (EqsP.of hh _ (fun _ h => h))) (by have := hh.extra; rw [hx G' hG'] at this; exact this))
  exact c.mono fun o h => ⟨(by intro _ _ _ _ h; cases h), (by intro _ _ _ h; cases h), (by intro _ _ _ h; cases h), h⟩
noncomputable def t54 : CT := (.lt (.v 4) (.c 500) .leaf (.lt (.c 2000) (.v 4) .leaf (.lt (.v 6) (.c 1) .leaf (.lt (.c 100) (.v 6) .leaf (.lt (.v 5) (.c 500) .leaf (.lt (.c 2000) (.v 5) .leaf (.lt (.v 7) (.c 1) .leaf (.lt (.c 100) (.v 7) .leaf (.lt (.v 0) (.c 1) .leaf (.lt (.v 1) (.v 0) .leaf (.lt (.c 1000000) (.v 1) .leaf (.lt (.v 2) (.c 0) .leaf (.lt (.v 3) (.v 2) .leaf (.lt (.c 100000) (.v 3) .leaf (.lt (.v 8) (.c 2000) .leaf (.lt (.c 5000) (.v 8) .leaf (.lt (.v 9) (.c 0) .leaf (.lt (.v 10) (.v 9) .leaf (.lt (.c 1000) (.v 10) .leaf .out)))))))))))))))))))
theorem t54_run : treeK P L true [] [] (kNo 54 rawC) t54 (gNo cavP) = true := by decide +kernel
theorem no54 : Con P (Fence.there P) (fun o => ¬ cavP (zo o)) (kNo 54 rawC) := by
  refine conNo t54 t54_run ?_ ?_
  · intro G' h o hl he
    simp only [t54, outs, addLt, addEq, gNo, List.mem_append, List.mem_singleton, List.not_mem_nil, false_or, or_false] at h
    first
      | (subst h; simp only [LtsP, EqsP, SX.eval] at hl he; simp only [cavP, opP, op1, op2, op3, zo]; omega)
      | (rcases h with h | h | h <;> (subst h; simp only [LtsP, EqsP, SX.eval] at hl he; simp only [cavP, opP, op1, op2, op3, zo]; omega))
  · intro G' h
    simp only [t54, outs, addLt, addEq, gNo, List.mem_append, List.mem_singleton, List.not_mem_nil, false_or, or_false] at h
    first
      | (subst h; rfl)
      | (rcases h with h | h | h <;> (subst h; rfl))
noncomputable def t19 : CT := (.lt (.v 4) (.c 500) .leaf (.lt (.c 2000) (.v 4) .leaf (.lt (.v 6) (.c 1) .leaf (.lt (.c 100) (.v 6) .leaf (.lt (.v 5) (.c 500) .leaf (.lt (.c 2000) (.v 5) .leaf (.lt (.v 7) (.c 1) .leaf (.lt (.c 100) (.v 7) .leaf (.lt (.v 0) (.c 1) .leaf (.lt (.v 1) (.v 0) .leaf (.lt (.c 1000000) (.v 1) .leaf (.lt (.v 2) (.c 0) .leaf (.lt (.v 3) (.v 2) .leaf (.lt (.c 100000) (.v 3) .leaf (.lt (.v 8) (.c 2000) .leaf (.lt (.c 5000) (.v 8) .leaf (.lt (.v 9) (.c 0) .leaf (.lt (.v 10) (.v 9) .leaf (.lt (.c 1000) (.v 10) .leaf .out)))))))))))))))))))
theorem t19_run : treeK P L true [] [] (kNo 19 rawC) t19 (gNo cavP) = true := by decide +kernel
theorem no19 : Con P (Fence.there P) (fun o => ¬ cavP (zo o)) (kNo 19 rawC) := by
  refine conNo t19 t19_run ?_ ?_
  · intro G' h o hl he
    simp only [t19, outs, addLt, addEq, gNo, List.mem_append, List.mem_singleton, List.not_mem_nil, false_or, or_false] at h
    first
      | (subst h; simp only [LtsP, EqsP, SX.eval] at hl he; simp only [cavP, opP, op1, op2, op3, zo]; omega)
      | (rcases h with h | h | h <;> (subst h; simp only [LtsP, EqsP, SX.eval] at hl he; simp only [cavP, opP, op1, op2, op3, zo]; omega))
  · intro G' h
    simp only [t19, outs, addLt, addEq, gNo, List.mem_append, List.mem_singleton, List.not_mem_nil, false_or, or_false] at h
    first
      | (subst h; rfl)
      | (rcases h with h | h | h <;> (subst h; rfl))
noncomputable def t55 : CT := (.lt (.v 11) (.c 0) .leaf (.lt (.v 12) (.v 11) .leaf (.lt (.c 1000000) (.v 12) .leaf (.lt (.v 13) (.c 0) .leaf (.lt (.v 14) (.v 13) .leaf (.lt (.c 1000000) (.v 14) .leaf (.lt (.v 15) (.c 2000) .leaf (.lt (.v 16) (.v 15) .leaf (.lt (.c 5000) (.v 16) .leaf (.lt (.v 17) (.c 0) .leaf (.lt (.v 18) (.v 17) .leaf (.lt (.c 1000000000) (.v 18) .leaf .out))))))))))))
theorem t55_run : treeK P L true [] [] (kNo 55 rawS) t55 (gNo stP) = true := by decide +kernel
theorem no55 : Con P (Fence.there P) (fun o => ¬ stP (zo o)) (kNo 55 rawS) := by
  refine conNo t55 t55_run ?_ ?_
  · intro G' h o hl he
    simp only [t55, outs, addLt, addEq, gNo, List.mem_append, List.mem_singleton, List.not_mem_nil, false_or, or_false] at h
    first
      | (subst h; simp only [LtsP, EqsP, SX.eval] at hl he; simp only [stP, opP, op1, op2, op3, zo]; omega)
      | (rcases h with h | h | h <;> (subst h; simp only [LtsP, EqsP, SX.eval] at hl he; simp only [stP, opP, op1, op2, op3, zo]; omega))
  · intro G' h
    simp only [t55, outs, addLt, addEq, gNo, List.mem_append, List.mem_singleton, List.not_mem_nil, false_or, or_false] at h
    first
      | (subst h; rfl)
      | (rcases h with h | h | h <;> (subst h; rfl))
noncomputable def t20 : CT := (.lt (.v 11) (.c 0) .leaf (.lt (.v 12) (.v 11) .leaf (.lt (.c 1000000) (.v 12) .leaf (.lt (.v 13) (.c 0) .leaf (.lt (.v 14) (.v 13) .leaf (.lt (.c 1000000) (.v 14) .leaf (.lt (.v 15) (.c 2000) .leaf (.lt (.v 16) (.v 15) .leaf (.lt (.c 5000) (.v 16) .leaf (.lt (.v 17) (.c 0) .leaf (.lt (.v 18) (.v 17) .leaf (.lt (.c 1000000000) (.v 18) .leaf .out))))))))))))
theorem t20_run : treeK P L true [] [] (kNo 20 rawS) t20 (gNo stP) = true := by decide +kernel
theorem no20 : Con P (Fence.there P) (fun o => ¬ stP (zo o)) (kNo 20 rawS) := by
  refine conNo t20 t20_run ?_ ?_
  · intro G' h o hl he
    simp only [t20, outs, addLt, addEq, gNo, List.mem_append, List.mem_singleton, List.not_mem_nil, false_or, or_false] at h
    first
      | (subst h; simp only [LtsP, EqsP, SX.eval] at hl he; simp only [stP, opP, op1, op2, op3, zo]; omega)
      | (rcases h with h | h | h <;> (subst h; simp only [LtsP, EqsP, SX.eval] at hl he; simp only [stP, opP, op1, op2, op3, zo]; omega))
  · intro G' h
    simp only [t20, outs, addLt, addEq, gNo, List.mem_append, List.mem_singleton, List.not_mem_nil, false_or, or_false] at h
    first
      | (subst h; rfl)
      | (rcases h with h | h | h <;> (subst h; rfl))
noncomputable def t67 : CT := (.eq (.v 28) (.c 1) (.lt (.v 19) (.c 0) .leaf (.lt (.c 1000000) (.v 19) .leaf (.lt (.v 20) (.c 0) .leaf (.lt (.c 1000000) (.v 20) .leaf (.lt (.v 21) (.c 2000) .leaf (.lt (.c 5000) (.v 21) .leaf (.lt (.v 22) (.c 0) .leaf (.lt (.c 1000000000) (.v 22) .leaf (.eq (.v 23) (.c 0) (.eq (.v 24) (.c 0) (.eq (.v 25) (.c 0) (.eq (.v 26) (.c 0) (.eq (.v 27) (.c 0) .out .leaf) .leaf) .leaf) .leaf) .leaf))))))))) (.eq (.v 28) (.c 2) (.lt (.v 23) (.c 0) .leaf (.lt (.c 2000000) (.v 23) .leaf (.eq (.v 19) (.c 0) (.eq (.v 20) (.c 0) (.eq (.v 21) (.c 0) (.eq (.v 22) (.c 0) (.eq (.v 24) (.c 0) (.eq (.v 25) (.c 0) (.eq (.v 26) (.c 0) (.eq (.v 27) (.c 0) .out .leaf) .leaf) .leaf) .leaf) .leaf) .leaf) .leaf) .leaf))) (.eq (.v 28) (.c 3) (.lt (.v 24) (.c 0) .leaf (.lt (.v 25) (.v 24) .leaf (.lt (.c 1000) (.v 25) .leaf (.lt (.v 26) (.c 0) .leaf (.lt (.v 27) (.v 26) .leaf (.lt (.c 1000000) (.v 27) .leaf (.eq (.v 19) (.c 0) (.eq (.v 20) (.c 0) (.eq (.v 21) (.c 0) (.eq (.v 22) (.c 0) (.eq (.v 23) (.c 0) .out .leaf) .leaf) .leaf) .leaf) .leaf))))))) .leaf)))
theorem t67_run : treeK P L true [] [] (kNo 67 rawO) t67 (gNo opP) = true := by decide +kernel
theorem no67 : Con P (Fence.there P) (fun o => ¬ opP (zo o)) (kNo 67 rawO) := by
  refine conNo t67 t67_run ?_ ?_
  · intro G' h o hl he
    simp only [t67, outs, addLt, addEq, gNo, List.mem_append, List.mem_singleton, List.not_mem_nil, false_or, or_false] at h
    first
      | (subst h; simp only [LtsP, EqsP, SX.eval] at hl he; simp only [opP, opP, op1, op2, op3, zo]; omega)
      | (rcases h with h | h | h <;> (subst h; simp only [LtsP, EqsP, SX.eval] at hl he; simp only [opP, opP, op1, op2, op3, zo]; omega))
  · intro G' h
    simp only [t67, outs, addLt, addEq, gNo, List.mem_append, List.mem_singleton, List.not_mem_nil, false_or, or_false] at h
    first
      | (subst h; rfl)
      | (rcases h with h | h | h <;> (subst h; rfl))
noncomputable def t30 : CT := (.eq (.v 28) (.c 1) (.lt (.v 19) (.c 0) .leaf (.lt (.c 1000000) (.v 19) .leaf (.lt (.v 20) (.c 0) .leaf (.lt (.c 1000000) (.v 20) .leaf (.lt (.v 21) (.c 2000) .leaf (.lt (.c 5000) (.v 21) .leaf (.lt (.v 22) (.c 0) .leaf (.lt (.c 1000000000) (.v 22) .leaf (.eq (.v 23) (.c 0) (.eq (.v 24) (.c 0) (.eq (.v 25) (.c 0) (.eq (.v 26) (.c 0) (.eq (.v 27) (.c 0) .out .leaf) .leaf) .leaf) .leaf) .leaf))))))))) (.eq (.v 28) (.c 2) (.eq (.v 19) (.c 0) (.eq (.v 20) (.c 0) (.eq (.v 21) (.c 0) (.eq (.v 22) (.c 0) (.lt (.v 23) (.c 0) .leaf (.lt (.c 2000000) (.v 23) .leaf (.eq (.v 24) (.c 0) (.eq (.v 25) (.c 0) (.eq (.v 26) (.c 0) (.eq (.v 27) (.c 0) .out .leaf) .leaf) .leaf) .leaf))) .leaf) .leaf) .leaf) .leaf) (.eq (.v 28) (.c 3) (.eq (.v 19) (.c 0) (.eq (.v 20) (.c 0) (.eq (.v 21) (.c 0) (.eq (.v 22) (.c 0) (.eq (.v 23) (.c 0) (.lt (.v 24) (.c 0) .leaf (.lt (.v 25) (.v 24) .leaf (.lt (.c 1000) (.v 25) .leaf (.lt (.v 26) (.c 0) .leaf (.lt (.v 27) (.v 26) .leaf (.lt (.c 1000000) (.v 27) .leaf .out)))))) .leaf) .leaf) .leaf) .leaf) .leaf) .leaf)))
theorem t30_run : treeK P L true [] [] (kNo 30 rawO) t30 (gNo opP) = true := by decide +kernel
theorem no30 : Con P (Fence.there P) (fun o => ¬ opP (zo o)) (kNo 30 rawO) := by
  refine conNo t30 t30_run ?_ ?_
  · intro G' h o hl he
    simp only [t30, outs, addLt, addEq, gNo, List.mem_append, List.mem_singleton, List.not_mem_nil, false_or, or_false] at h
    first
      | (subst h; simp only [LtsP, EqsP, SX.eval] at hl he; simp only [opP, opP, op1, op2, op3, zo]; omega)
      | (rcases h with h | h | h <;> (subst h; simp only [LtsP, EqsP, SX.eval] at hl he; simp only [opP, opP, op1, op2, op3, zo]; omega))
  · intro G' h
    simp only [t30, outs, addLt, addEq, gNo, List.mem_append, List.mem_singleton, List.not_mem_nil, false_or, or_false] at h
    first
      | (subst h; rfl)
      | (rcases h with h | h | h <;> (subst h; rfl))
noncomputable def t73 : CT := (.lt (.v 30) (.c 0) .leaf (.lt (.c 1000000) (.v 30) .leaf (.lt (.v 31) (.c 0) .leaf (.lt (.c 1000000) (.v 31) .leaf (.lt (.v 32) (.c 2000) .leaf (.lt (.c 5000) (.v 32) .leaf (.lt (.v 33) (.c 0) .leaf (.lt (.c 1000000000) (.v 33) .leaf .out))))))))
theorem t73_run : treeK P L true [] [] (kNo 73 rawP) t73 (gNo poiP) = true := by decide +kernel
theorem no73 : Con P (Fence.there P) (fun o => ¬ poiP (zo o)) (kNo 73 rawP) := by
  refine conNo t73 t73_run ?_ ?_
  · intro G' h o hl he
    simp only [t73, outs, addLt, addEq, gNo, List.mem_append, List.mem_singleton, List.not_mem_nil, false_or, or_false] at h
    first
      | (subst h; simp only [LtsP, EqsP, SX.eval] at hl he; simp only [poiP, opP, op1, op2, op3, zo]; omega)
      | (rcases h with h | h | h <;> (subst h; simp only [LtsP, EqsP, SX.eval] at hl he; simp only [poiP, opP, op1, op2, op3, zo]; omega))
  · intro G' h
    simp only [t73, outs, addLt, addEq, gNo, List.mem_append, List.mem_singleton, List.not_mem_nil, false_or, or_false] at h
    first
      | (subst h; rfl)
      | (rcases h with h | h | h <;> (subst h; rfl))
noncomputable def t40 : CT := (.lt (.v 30) (.c 0) .leaf (.lt (.c 1000000) (.v 30) .leaf (.lt (.v 31) (.c 0) .leaf (.lt (.c 1000000) (.v 31) .leaf (.lt (.v 32) (.c 2000) .leaf (.lt (.c 5000) (.v 32) .leaf (.lt (.v 33) (.c 0) .leaf (.lt (.c 1000000000) (.v 33) .leaf .out))))))))
theorem t40_run : treeK P L true [] [] (kNo 40 rawP) t40 (gNo poiP) = true := by decide +kernel
theorem no40 : Con P (Fence.there P) (fun o => ¬ poiP (zo o)) (kNo 40 rawP) := by
  refine conNo t40 t40_run ?_ ?_
  · intro G' h o hl he
    simp only [t40, outs, addLt, addEq, gNo, List.mem_append, List.mem_singleton, List.not_mem_nil, false_or, or_false] at h
    first
      | (subst h; simp only [LtsP, EqsP, SX.eval] at hl he; simp only [poiP, opP, op1, op2, op3, zo]; omega)
      | (rcases h with h | h | h <;> (subst h; simp only [LtsP, EqsP, SX.eval] at hl he; simp only [poiP, opP, op1, op2, op3, zo]; omega))
  · intro G' h
    simp only [t40, outs, addLt, addEq, gNo, List.mem_append, List.mem_singleton, List.not_mem_nil, false_or, or_false] at h
    first
      | (subst h; rfl)
      | (rcases h with h | h | h <;> (subst h; rfl))
end Go.Ev.Gas
end

noncomputable section
set_option maxRecDepth 1000000
set_option maxHeartbeats 0
namespace Go.Ev.Gas
noncomputable def k21 : KC := { f := 21, args := [], res := .ret (.bool true) }
theorem k21_run : isRes k21.res (runK P L true [] sDo plain k21) = true := by decide +kernel
theorem k21_con (H : (Nat → Value) → Prop) : Con P (Fence.there P) H k21 :=
  (con_of_run (H := fun _ => True) fbT (k := k21) rfl no_k sDo_ok (fun _ _ => trivial) k21_run).mono (fun o _ => plain_holds o)
theorem kn_ok {H : (Nat → Value) → Prop} : ∀ k ∈ [k21], k.free = true ∧ Con P (Fence.there P) H k := List.forall_mem_cons.2 ⟨⟨by decide +kernel, k21_con H⟩, List.forall_mem_nil _⟩
/-- A law that says yes. -/
noncomputable def kYes (f : Nat) (a : List (AV plain)) : KC := { f := f, args := a, res := .ret (.bool true) }
noncomputable def gValid (l : List (SX × SX × Bool)) (p : (Nat → Value) → Prop) : Ctx := ⟨[], l, [], p⟩
noncomputable def cavL : List (SX × SX × Bool) := [((.v 1), (.v 0), false), ((.v 3), (.v 2), false), ((.v 10), (.v 9), false)]
noncomputable def stL : List (SX × SX × Bool) := [((.v 12), (.v 11), false), ((.v 14), (.v 13), false), ((.v 16), (.v 15), false), ((.v 18), (.v 17), false)]
noncomputable def stA : AV plain := .agg [iv 11 0 1000000, iv 12 0 1000000, iv 13 0 1000000, iv 14 0 1000000, iv 15 2000 5000, iv 16 2000 5000, iv 17 0 1000000000, iv 18 0 1000000000]
theorem con_yes {f : Nat} {a : List (AV plain)} {t : CT} {G : Ctx} (h : treeK P L true [k21] sDo (kYes f a) t G = true) (ho : outs t G = []) : Con P (Fence.there P) G.holds (kYes f a) :=
  con_of_tree (H := fun _ => True) fbT rfl kn_ok sDo_ok t G (fun _ _ => trivial) h (fun G' h' => by rw [ho] at h'; cases h')
theorem con_no {H : (Nat → Value) → Prop} {f : Nat} {a : List (AV plain)} {T : List KC} {G : Ctx} (hT : ∀ k ∈ T, k.free = true ∧ Con P (Fence.there P) H k) (hG : ∀ o, G.holds o → H o) (h : isRes (kYes f a).res (runK P L true T [] G (kYes f a)) = true) : Con P (Fence.there P) G.holds (kYes f a) :=
  con_of_run fbT rfl hT no_p hG h
theorem two_ok {H : (Nat → Value) → Prop} {f g : Nat} {a : AV plain} (hf : (kNo f a).free = true) (hg : (kNo g a).free = true) (h1 : Con P (Fence.there P) H (kNo f a)) (h2 : Con P (Fence.there P) H (kNo g a)) : ∀ k ∈ [kNo f a, kNo g a, k21], k.free = true ∧ Con P (Fence.there P) H k :=
  List.forall_mem_cons.2 ⟨⟨hf, h1⟩, List.forall_mem_cons.2 ⟨⟨hg, h2⟩, kn_ok⟩⟩
end Go.Ev.Gas
end

