import Derived.Test.YtdpegcimhhegmaaTruA
import Derived.Test.YtdpegcimhhegmaaStD
set_option linter.unusedVariables false
set_option linter.unusedSimpArgs false
set_option linter.unusedSectionVars false
section
set_option maxRecDepth 100000
namespace Go.Ev.Gas
open Go.RowKit Go.Ev.Num Go.Proofs
/-! ### Has, where it says no; Truth, where the lists are not as long -/
noncomputable def t26 : CT := .lt (.v 44) (.v 11) .leaf (.lt (.v 12) (.v 44) .leaf (.lt (.v 45) (.v 13) .leaf (.lt (.v 14) (.v 45) .leaf (.lt (.v 46) (.v 15) .leaf (.lt (.v 16) (.v 46) .leaf (.lt (.v 47) (.v 17) .leaf (.lt (.v 18) (.v 47) .leaf .out)))))))
noncomputable def rawQx : AV plain := .agg [rv 44, rv 45, rv 46, rv 47]
noncomputable def k26n : KC := { f := 26, args := [rawS, rawQx], res := .ret (.bool false) }
noncomputable def g26n : Ctx := ⟨[], [], [], fun o => ¬ hasQ (zo o)⟩
theorem t26_run : treeK P L true [] [] k26n t26 g26n = true := by decide +kernel
theorem no26 : Con P (Fence.there P) (fun o => ¬ hasQ (zo o)) k26n := by
  have c := con_of_tree (H := fun _ => True) fbT (k := k26n) rfl no_k no_p t26 g26n (fun _ _ => trivial) t26_run (fun G' hG' o _ hh => by
    have hl := LtsP.of hh _ (fun _ h => h)
    have hx := hh.extra
    simp only [t26, outs, addLt, g26n, List.mem_append, List.mem_singleton, List.not_mem_nil, false_or, or_false] at hG'
    subst hG'
    simp only [LtsP, SX.eval] at hl
    have hx' : ¬ hasQ (zo o) := hx
    refine absurd ?_ hx'
    simp only [hasQ, zo]
    omega)
  exact c.mono fun o h => ⟨(by intro _ _ _ _ h; cases h), (by intro _ _ _ h; cases h), (by intro _ _ _ h; cases h), h⟩
theorem says26 {s p : Nat → Int} (is : ints s) (ip : ints p) (h : ¬ HasP s p) : Ret 26 #[sV s, pV p] (.bool false) := by
  have iy : ∀ i, inB (yy zeros s zeros p 0 0 i) := fun i => by
    have z0 : inB 0 := ⟨by omega, by omega⟩
    have iz : ints zeros := fun i => by show _ ≤ (0 : Int) ∧ (0 : Int) ≤ _; omega
    unfold yy
    split
    · exact zz_ints iz is iz i
    split
    · exact z0
    split
    · exact z0
    split
    · exact z0
    split
    · exact ip _
    · exact z0
  have r : ∀ i, VR (envZ (yy zeros s zeros p 0 0)) (rv i) (vi (yy zeros s zeros p 0 0 i)) := fun i => vr_iv _ (iy i).1 (iy i).2
  refine ret_of (gives_of (k := k26n) (a := .bool false) no26 rfl rfl rfl (yy zeros s zeros p 0 0) h _ (vrs_cons (v := sV s) (vr_agg (vrs_cons (r 11) (vrs_cons (r 12) (vrs_cons (r 13) (vrs_cons (r 14) (vrs_cons (r 15) (vrs_cons (r 16) (vrs_cons (r 17) (vrs_cons (r 18) vrs_nil))))))))) (vrs_cons (v := pV p) (vr_agg (vrs_cons (r 44) (vrs_cons (r 45) (vrs_cons (r 46) (vrs_cons (r 47) vrs_nil))))) vrs_nil)))
set_option maxHeartbeats 1000000 in
theorem truth_len1 (a a' a'' : Option Addr) (n n' n'' cap cap' cap'' : Nat) (h : ¬ n' = n) (w : World) : Calls Try.prog 39 #[.slice a n cap, .slice a' n' cap', .slice a'' n'' cap''] w fun e w' => e = .returned (.bool false) ∧ Below w.heap.size w w' := by
  have h1 : ¬ (n' : Int) = (n : Int) := by omega
  go_enter Try.func39, Try.ntmps39
  go_wp2
  go_ret
  exact ⟨rfl, Below.refl _ _⟩
set_option maxHeartbeats 1000000 in
theorem truth_len2 (a a' a'' : Option Addr) (n n'' cap cap' cap'' : Nat) (h : ¬ n'' = n) (w : World) : Calls Try.prog 39 #[.slice a n cap, .slice a' n cap', .slice a'' n'' cap''] w fun e w' => e = .returned (.bool false) ∧ Below w.heap.size w w' := by
  have h1 : ¬ (n'' : Int) = (n : Int) := by omega
  go_enter Try.func39, Try.ntmps39
  go_wp2
  go_ret
  exact ⟨rfl, Below.refl _ _⟩
set_option maxHeartbeats 1000000 in
theorem truth_zero (a a' a'' : Option Addr) (cap cap' cap'' : Nat) (w : World) : Calls Try.prog 39 #[.slice a 0 cap, .slice a' 0 cap', .slice a'' 0 cap''] w fun e w' => e = .returned (.bool true) ∧ Below w.heap.size w w' := by
  go_enter Try.func39, Try.ntmps39
  go_wp2
  refine wp_loop_rounds 1 ?_
  rw [rounds_succ]
  go_wp2
  go_ret
  exact ⟨rfl, Below.refl _ _⟩
end Go.Ev.Gas
end

section
set_option maxRecDepth 100000
namespace Go.Ev.Gas
open Go.RowKit Go.Ev.Num Go.Proofs
/-! ### GasTrue: the early ways out -/
set_option maxHeartbeats 2000000 in
theorem law8_a (c s p : Nat → Int) (w : World) (a a' a'' : Option Addr) (n n' n'' cap cap' cap'' : Nat) (h : 12 < n) : Calls Try.prog 8 #[cavV c, sV s, .slice a n cap, pV p, .slice a' n' cap', .slice a'' n'' cap''] w fun e w' => e = .returned (.bool true) ∧ Below w.heap.size w w' := by
  have g1 : (12 : Int) < (n : Int) := by omega
  have HB := Lib.hid (fun O O' O'' => (((Below.refl w.heap.size w).alloc (Nat.le_refl _) O).alloc (by simp) O').alloc (by simp; omega) O'')
  have HK := Lib.hid known_says
  simp only [cavV, sV, pV]
  go_enter Try.func8, Try.ntmps8
  go_wp2_with fail
  refine (HK.out _).mono ?_
  rintro e x1 ⟨rfl, hb1⟩
  obtain ⟨hc1, hf1⟩ := bcell hb1
  have hz1 := hb1.size
  simp at hz1
  have n1 : w.heap.size < x1.heap.size := by omega
  have o1 : w.heap.size + 1 < x1.heap.size := by omega
  have q1 : w.heap.size + 1 + 1 < x1.heap.size := by omega
  have B1 := (HB.out _ _ _).trans (hb1.mono (by simp; omega))
  go_wp2
  go_ret
  exact ⟨rfl, B1⟩
set_option maxHeartbeats 2000000 in
theorem law8_b (c s p : Nat → Int) (w : World) (a a' a'' : Option Addr) (n n' n'' cap cap' cap'' : Nat) (h : n ≤ 12) (h' : 20 < n') : Calls Try.prog 8 #[cavV c, sV s, .slice a n cap, pV p, .slice a' n' cap', .slice a'' n'' cap''] w fun e w' => e = .returned (.bool true) ∧ Below w.heap.size w w' := by
  have g1 : ¬ (12 : Int) < (n : Int) := by omega
  have g2 : (20 : Int) < (n' : Int) := by omega
  have HB := Lib.hid (fun O O' O'' => (((Below.refl w.heap.size w).alloc (Nat.le_refl _) O).alloc (by simp) O').alloc (by simp; omega) O'')
  have HK := Lib.hid known_says
  simp only [cavV, sV, pV]
  go_enter Try.func8, Try.ntmps8
  go_wp2_with fail
  refine (HK.out _).mono ?_
  rintro e x1 ⟨rfl, hb1⟩
  obtain ⟨hc1, hf1⟩ := bcell hb1
  have hz1 := hb1.size
  simp at hz1
  have n1 : w.heap.size < x1.heap.size := by omega
  have o1 : w.heap.size + 1 < x1.heap.size := by omega
  have q1 : w.heap.size + 1 + 1 < x1.heap.size := by omega
  have B1 := (HB.out _ _ _).trans (hb1.mono (by simp; omega))
  go_wp2
  go_ret
  exact ⟨rfl, B1⟩
set_option maxHeartbeats 2000000 in
theorem law8_w (c s p : Nat → Int) (w : World) (a a' a'' : Option Addr) (n n' n'' cap cap' cap'' : Nat) (h : n ≤ 12) (h' : n' ≤ 20) (h'' : 20 < n'') : Calls Try.prog 8 #[cavV c, sV s, .slice a n cap, pV p, .slice a' n' cap', .slice a'' n'' cap''] w fun e w' => e = .returned (.bool true) ∧ Below w.heap.size w w' := by
  have g1 : ¬ (12 : Int) < (n : Int) := by omega
  have g2 : ¬ (20 : Int) < (n' : Int) := by omega
  have g3 : (20 : Int) < (n'' : Int) := by omega
  have HB := Lib.hid (fun O O' O'' => (((Below.refl w.heap.size w).alloc (Nat.le_refl _) O).alloc (by simp) O').alloc (by simp; omega) O'')
  have HK := Lib.hid known_says
  simp only [cavV, sV, pV]
  go_enter Try.func8, Try.ntmps8
  go_wp2_with fail
  refine (HK.out _).mono ?_
  rintro e x1 ⟨rfl, hb1⟩
  obtain ⟨hc1, hf1⟩ := bcell hb1
  have hz1 := hb1.size
  simp at hz1
  have n1 : w.heap.size < x1.heap.size := by omega
  have o1 : w.heap.size + 1 < x1.heap.size := by omega
  have q1 : w.heap.size + 1 + 1 < x1.heap.size := by omega
  have B1 := (HB.out _ _ _).trans (hb1.mono (by simp; omega))
  go_wp2
  go_ret
  exact ⟨rfl, B1⟩
set_option maxHeartbeats 2000000 in
theorem law8_c (c s p : Nat → Int) (w : World) (a a' a'' : Option Addr) (n n' n'' cap cap' cap'' : Nat) (hn : n ≤ 12) (hn' : n' ≤ 20) (hn'' : n'' ≤ 20) (h2 : Says 19 (cavV c) false) : Calls Try.prog 8 #[cavV c, sV s, .slice a n cap, pV p, .slice a' n' cap', .slice a'' n'' cap''] w fun e w' => e = .returned (.bool true) ∧ Below w.heap.size w w' := by
  have g1 : ¬ (12 : Int) < (n : Int) := by omega
  have g2 : ¬ (20 : Int) < (n' : Int) := by omega
  have g3 : ¬ (20 : Int) < (n'' : Int) := by omega
  have H2 := Lib.hid h2
  have HB := Lib.hid (fun O O' O'' => (((Below.refl w.heap.size w).alloc (Nat.le_refl _) O).alloc (by simp) O').alloc (by simp; omega) O'')
  have HK := Lib.hid known_says
  clear h2
  simp only [Says, Ret, cavV, sV, pV] at H2 ⊢
  go_enter Try.func8, Try.ntmps8
  go_wp2_with fail
  refine (H2.out _).mono ?_
  rintro e x1 ⟨rfl, hb1⟩
  obtain ⟨hc1, hf1⟩ := bcell hb1
  have hz1 := hb1.size
  simp at hz1
  have n1 : w.heap.size < x1.heap.size := by omega
  have o1 : w.heap.size + 1 < x1.heap.size := by omega
  have q1 : w.heap.size + 1 + 1 < x1.heap.size := by omega
  have B1 := (HB.out _ _ _).trans (hb1.mono (by simp; omega))
  go_wp2_with fail
  refine (HK.out _).mono ?_
  rintro e x2 ⟨rfl, hb2⟩
  obtain ⟨hc2, hf2⟩ := bcell hb2
  have hz2 := hb2.size
  have n2 : w.heap.size < x2.heap.size := by omega
  have o2 : w.heap.size + 1 < x2.heap.size := by omega
  have q2 : w.heap.size + 1 + 1 < x2.heap.size := by omega
  have B2 := B1.trans (hb2.mono (by omega))
  go_wp2
  go_ret
  exact ⟨rfl, B2⟩
set_option maxHeartbeats 2000000 in
theorem law8_s (c s p : Nat → Int) (w : World) (a a' a'' : Option Addr) (n n' n'' cap cap' cap'' : Nat) (hn : n ≤ 12) (hn' : n' ≤ 20) (hn'' : n'' ≤ 20) (h2 : Says 19 (cavV c) true) (h3 : Says 20 (sV s) false) : Calls Try.prog 8 #[cavV c, sV s, .slice a n cap, pV p, .slice a' n' cap', .slice a'' n'' cap''] w fun e w' => e = .returned (.bool true) ∧ Below w.heap.size w w' := by
  have g1 : ¬ (12 : Int) < (n : Int) := by omega
  have g2 : ¬ (20 : Int) < (n' : Int) := by omega
  have g3 : ¬ (20 : Int) < (n'' : Int) := by omega
  have H2 := Lib.hid h2
  have H3 := Lib.hid h3
  have HB := Lib.hid (fun O O' O'' => (((Below.refl w.heap.size w).alloc (Nat.le_refl _) O).alloc (by simp) O').alloc (by simp; omega) O'')
  have HK := Lib.hid known_says
  clear h2 h3
  simp only [Says, Ret, cavV, sV, pV] at H2 H3 ⊢
  go_enter Try.func8, Try.ntmps8
  go_wp2_with fail
  refine (H2.out _).mono ?_
  rintro e x1 ⟨rfl, hb1⟩
  obtain ⟨hc1, hf1⟩ := bcell hb1
  have hz1 := hb1.size
  simp at hz1
  have n1 : w.heap.size < x1.heap.size := by omega
  have o1 : w.heap.size + 1 < x1.heap.size := by omega
  have q1 : w.heap.size + 1 + 1 < x1.heap.size := by omega
  have B1 := (HB.out _ _ _).trans (hb1.mono (by simp; omega))
  go_wp2_with fail
  refine (H3.out _).mono ?_
  rintro e x2 ⟨rfl, hb2⟩
  obtain ⟨hc2, hf2⟩ := bcell hb2
  have hz2 := hb2.size
  have n2 : w.heap.size < x2.heap.size := by omega
  have o2 : w.heap.size + 1 < x2.heap.size := by omega
  have q2 : w.heap.size + 1 + 1 < x2.heap.size := by omega
  have B2 := B1.trans (hb2.mono (by omega))
  go_wp2_with fail
  refine (HK.out _).mono ?_
  rintro e x3 ⟨rfl, hb3⟩
  obtain ⟨hc3, hf3⟩ := bcell hb3
  have hz3 := hb3.size
  have n3 : w.heap.size < x3.heap.size := by omega
  have o3 : w.heap.size + 1 < x3.heap.size := by omega
  have q3 : w.heap.size + 1 + 1 < x3.heap.size := by omega
  have B3 := B2.trans (hb3.mono (by omega))
  go_wp2
  go_ret
  exact ⟨rfl, B3⟩
set_option maxHeartbeats 2000000 in
theorem law8_o (c s p : Nat → Int) (w : World) (a a' a'' : Option Addr) (n n' n'' cap cap' cap'' : Nat) (hn : n ≤ 12) (hn' : n' ≤ 20) (hn'' : n'' ≤ 20) (h2 : Says 19 (cavV c) true) (h3 : Says 20 (sV s) true) (h4 : ∀ w', Below w.heap.size w w' → Calls Try.prog 36 #[.slice a n cap] w' fun e w'' => e = .returned (.bool false) ∧ Below w'.heap.size w' w'')  : Calls Try.prog 8 #[cavV c, sV s, .slice a n cap, pV p, .slice a' n' cap', .slice a'' n'' cap''] w fun e w' => e = .returned (.bool true) ∧ Below w.heap.size w w' := by
  have g1 : ¬ (12 : Int) < (n : Int) := by omega
  have g2 : ¬ (20 : Int) < (n' : Int) := by omega
  have g3 : ¬ (20 : Int) < (n'' : Int) := by omega
  have H2 := Lib.hid h2
  have H3 := Lib.hid h3
  have H4 := Lib.hid h4
  have HB := Lib.hid (fun O O' O'' => (((Below.refl w.heap.size w).alloc (Nat.le_refl _) O).alloc (by simp) O').alloc (by simp; omega) O'')
  have HK := Lib.hid known_says
  clear h2 h3 h4
  simp only [Says, Ret, cavV, sV, pV] at H2 H3 ⊢
  go_enter Try.func8, Try.ntmps8
  go_wp2_with fail
  refine (H2.out _).mono ?_
  rintro e x1 ⟨rfl, hb1⟩
  obtain ⟨hc1, hf1⟩ := bcell hb1
  have hz1 := hb1.size
  simp at hz1
  have n1 : w.heap.size < x1.heap.size := by omega
  have o1 : w.heap.size + 1 < x1.heap.size := by omega
  have q1 : w.heap.size + 1 + 1 < x1.heap.size := by omega
  have B1 := (HB.out _ _ _).trans (hb1.mono (by simp; omega))
  go_wp2_with fail
  refine (H3.out _).mono ?_
  rintro e x2 ⟨rfl, hb2⟩
  obtain ⟨hc2, hf2⟩ := bcell hb2
  have hz2 := hb2.size
  have n2 : w.heap.size < x2.heap.size := by omega
  have o2 : w.heap.size + 1 < x2.heap.size := by omega
  have q2 : w.heap.size + 1 + 1 < x2.heap.size := by omega
  have B2 := B1.trans (hb2.mono (by omega))
  go_wp2_with fail
  refine (H4.out _ B2).mono ?_
  rintro e x3 ⟨rfl, hb3⟩
  obtain ⟨hc3, hf3⟩ := bcell hb3
  have hz3 := hb3.size
  have n3 : w.heap.size < x3.heap.size := by omega
  have o3 : w.heap.size + 1 < x3.heap.size := by omega
  have q3 : w.heap.size + 1 + 1 < x3.heap.size := by omega
  have B3 := B2.trans (hb3.mono (by omega))
  go_wp2_with fail
  refine (HK.out _).mono ?_
  rintro e x4 ⟨rfl, hb4⟩
  obtain ⟨hc4, hf4⟩ := bcell hb4
  have hz4 := hb4.size
  have n4 : w.heap.size < x4.heap.size := by omega
  have o4 : w.heap.size + 1 < x4.heap.size := by omega
  have q4 : w.heap.size + 1 + 1 < x4.heap.size := by omega
  have B4 := B3.trans (hb4.mono (by omega))
  go_wp2
  go_ret
  exact ⟨rfl, B4⟩
set_option maxHeartbeats 2000000 in
theorem law8_h (c s p : Nat → Int) (w : World) (a a' a'' : Option Addr) (n n' n'' cap cap' cap'' : Nat) (hn : n ≤ 12) (hn' : n' ≤ 20) (hn'' : n'' ≤ 20) (h2 : Says 19 (cavV c) true) (h3 : Says 20 (sV s) true) (h4 : ∀ w', Below w.heap.size w w' → Calls Try.prog 36 #[.slice a n cap] w' fun e w'' => e = .returned (.bool true) ∧ Below w'.heap.size w' w'') (h5 : Ret 26 #[sV s, pV p] (.bool false)) : Calls Try.prog 8 #[cavV c, sV s, .slice a n cap, pV p, .slice a' n' cap', .slice a'' n'' cap''] w fun e w' => e = .returned (.bool true) ∧ Below w.heap.size w w' := by
  have g1 : ¬ (12 : Int) < (n : Int) := by omega
  have g2 : ¬ (20 : Int) < (n' : Int) := by omega
  have g3 : ¬ (20 : Int) < (n'' : Int) := by omega
  have H2 := Lib.hid h2
  have H3 := Lib.hid h3
  have H4 := Lib.hid h4
  have H5 := Lib.hid h5
  have HB := Lib.hid (fun O O' O'' => (((Below.refl w.heap.size w).alloc (Nat.le_refl _) O).alloc (by simp) O').alloc (by simp; omega) O'')
  have HK := Lib.hid known_says
  clear h2 h3 h4 h5
  simp only [Says, Ret, cavV, sV, pV] at H2 H3 H5 ⊢
  go_enter Try.func8, Try.ntmps8
  go_wp2_with fail
  refine (H2.out _).mono ?_
  rintro e x1 ⟨rfl, hb1⟩
  obtain ⟨hc1, hf1⟩ := bcell hb1
  have hz1 := hb1.size
  simp at hz1
  have n1 : w.heap.size < x1.heap.size := by omega
  have o1 : w.heap.size + 1 < x1.heap.size := by omega
  have q1 : w.heap.size + 1 + 1 < x1.heap.size := by omega
  have B1 := (HB.out _ _ _).trans (hb1.mono (by simp; omega))
  go_wp2_with fail
  refine (H3.out _).mono ?_
  rintro e x2 ⟨rfl, hb2⟩
  obtain ⟨hc2, hf2⟩ := bcell hb2
  have hz2 := hb2.size
  have n2 : w.heap.size < x2.heap.size := by omega
  have o2 : w.heap.size + 1 < x2.heap.size := by omega
  have q2 : w.heap.size + 1 + 1 < x2.heap.size := by omega
  have B2 := B1.trans (hb2.mono (by omega))
  go_wp2_with fail
  refine (H4.out _ B2).mono ?_
  rintro e x3 ⟨rfl, hb3⟩
  obtain ⟨hc3, hf3⟩ := bcell hb3
  have hz3 := hb3.size
  have n3 : w.heap.size < x3.heap.size := by omega
  have o3 : w.heap.size + 1 < x3.heap.size := by omega
  have q3 : w.heap.size + 1 + 1 < x3.heap.size := by omega
  have B3 := B2.trans (hb3.mono (by omega))
  go_wp2_with fail
  refine (H5.out _).mono ?_
  rintro e x4 ⟨rfl, hb4⟩
  obtain ⟨hc4, hf4⟩ := bcell hb4
  have hz4 := hb4.size
  have n4 : w.heap.size < x4.heap.size := by omega
  have o4 : w.heap.size + 1 < x4.heap.size := by omega
  have q4 : w.heap.size + 1 + 1 < x4.heap.size := by omega
  have B4 := B3.trans (hb4.mono (by omega))
  go_wp2_with fail
  refine (HK.out _).mono ?_
  rintro e x5 ⟨rfl, hb5⟩
  obtain ⟨hc5, hf5⟩ := bcell hb5
  have hz5 := hb5.size
  have n5 : w.heap.size < x5.heap.size := by omega
  have o5 : w.heap.size + 1 < x5.heap.size := by omega
  have q5 : w.heap.size + 1 + 1 < x5.heap.size := by omega
  have B5 := B4.trans (hb5.mono (by omega))
  go_wp2
  go_ret
  exact ⟨rfl, B5⟩
set_option maxHeartbeats 2000000 in
theorem law8_t (c s p : Nat → Int) (w : World) (a a' a'' : Option Addr) (n n' n'' cap cap' cap'' : Nat) (hn : n ≤ 12) (hn' : n' ≤ 20) (hn'' : n'' ≤ 20) (h2 : Says 19 (cavV c) true) (h3 : Says 20 (sV s) true) (h4 : ∀ w', Below w.heap.size w w' → Calls Try.prog 36 #[.slice a n cap] w' fun e w'' => e = .returned (.bool true) ∧ Below w'.heap.size w' w'') (h5 : Ret 26 #[sV s, pV p] (.bool true)) (h6 : ∀ w', Below w.heap.size w w' → Calls Try.prog 39 #[.slice a n cap, .slice a' n' cap', .slice a'' n'' cap''] w' fun e w'' => e = .returned (.bool false) ∧ Below w'.heap.size w' w'')  : Calls Try.prog 8 #[cavV c, sV s, .slice a n cap, pV p, .slice a' n' cap', .slice a'' n'' cap''] w fun e w' => e = .returned (.bool true) ∧ Below w.heap.size w w' := by
  have g1 : ¬ (12 : Int) < (n : Int) := by omega
  have g2 : ¬ (20 : Int) < (n' : Int) := by omega
  have g3 : ¬ (20 : Int) < (n'' : Int) := by omega
  have H2 := Lib.hid h2
  have H3 := Lib.hid h3
  have H4 := Lib.hid h4
  have H5 := Lib.hid h5
  have H6 := Lib.hid h6
  have HB := Lib.hid (fun O O' O'' => (((Below.refl w.heap.size w).alloc (Nat.le_refl _) O).alloc (by simp) O').alloc (by simp; omega) O'')
  have HK := Lib.hid known_says
  clear h2 h3 h4 h5 h6
  simp only [Says, Ret, cavV, sV, pV] at H2 H3 H5 ⊢
  go_enter Try.func8, Try.ntmps8
  go_wp2_with fail
  refine (H2.out _).mono ?_
  rintro e x1 ⟨rfl, hb1⟩
  obtain ⟨hc1, hf1⟩ := bcell hb1
  have hz1 := hb1.size
  simp at hz1
  have n1 : w.heap.size < x1.heap.size := by omega
  have o1 : w.heap.size + 1 < x1.heap.size := by omega
  have q1 : w.heap.size + 1 + 1 < x1.heap.size := by omega
  have B1 := (HB.out _ _ _).trans (hb1.mono (by simp; omega))
  go_wp2_with fail
  refine (H3.out _).mono ?_
  rintro e x2 ⟨rfl, hb2⟩
  obtain ⟨hc2, hf2⟩ := bcell hb2
  have hz2 := hb2.size
  have n2 : w.heap.size < x2.heap.size := by omega
  have o2 : w.heap.size + 1 < x2.heap.size := by omega
  have q2 : w.heap.size + 1 + 1 < x2.heap.size := by omega
  have B2 := B1.trans (hb2.mono (by omega))
  go_wp2_with fail
  refine (H4.out _ B2).mono ?_
  rintro e x3 ⟨rfl, hb3⟩
  obtain ⟨hc3, hf3⟩ := bcell hb3
  have hz3 := hb3.size
  have n3 : w.heap.size < x3.heap.size := by omega
  have o3 : w.heap.size + 1 < x3.heap.size := by omega
  have q3 : w.heap.size + 1 + 1 < x3.heap.size := by omega
  have B3 := B2.trans (hb3.mono (by omega))
  go_wp2_with fail
  refine (H5.out _).mono ?_
  rintro e x4 ⟨rfl, hb4⟩
  obtain ⟨hc4, hf4⟩ := bcell hb4
  have hz4 := hb4.size
  have n4 : w.heap.size < x4.heap.size := by omega
  have o4 : w.heap.size + 1 < x4.heap.size := by omega
  have q4 : w.heap.size + 1 + 1 < x4.heap.size := by omega
  have B4 := B3.trans (hb4.mono (by omega))
  go_wp2_with fail
  refine (H6.out _ B4).mono ?_
  rintro e x5 ⟨rfl, hb5⟩
  obtain ⟨hc5, hf5⟩ := bcell hb5
  have hz5 := hb5.size
  have n5 : w.heap.size < x5.heap.size := by omega
  have o5 : w.heap.size + 1 < x5.heap.size := by omega
  have q5 : w.heap.size + 1 + 1 < x5.heap.size := by omega
  have B5 := B4.trans (hb5.mono (by omega))
  go_wp2_with fail
  refine (HK.out _).mono ?_
  rintro e x6 ⟨rfl, hb6⟩
  obtain ⟨hc6, hf6⟩ := bcell hb6
  have hz6 := hb6.size
  have n6 : w.heap.size < x6.heap.size := by omega
  have o6 : w.heap.size + 1 < x6.heap.size := by omega
  have q6 : w.heap.size + 1 + 1 < x6.heap.size := by omega
  have B6 := B5.trans (hb6.mono (by omega))
  go_wp2
  go_ret
  exact ⟨rfl, B6⟩
theorem steps35_nilT (c s : Nat → Int) (a : Option Addr) (cap : Nat) (hc : cavP c) (hs : StI s) (w : World) :
    Calls Try.prog 35 #[cavV c, sV s, .slice a 0 cap] w fun e w' => e = .returned (.tuple #[.slice none 0 0, .int .i64 (-1), .int .i64 0]) ∧ Below w.heap.size w w' := by
  have i0 : ∀ i : Nat, ints ((fun _ => zeros : Nat → Nat → Int) i) := fun _ i => by show _ ≤ (0 : Int) ∧ (0 : Int) ≤ _; omega
  have st : Stop c s (fun _ => zeros) 0 0 := ⟨Nat.le_refl _, fun i hi => absurd hi (by omega), fun h => absurd h (by omega)⟩
  have sl : SL 10 w (.slice a 0 cap) 0 (fun _ => zeros) := .inl ⟨a, cap, rfl, rfl⟩
  exact (steps35g c s i0 sl (by omega) hc hs (fun i hi => absurd hi (by omega)) st (-1) rfl).mono fun e w' ⟨v', h1, h2, h4, _, h3⟩ => ⟨by rw [h1, h4 rfl], h3⟩
set_option maxHeartbeats 2000000 in
theorem law8_z (c s p : Nat → Int) (w : World) (a a' a'' : Option Addr) (cap cap' cap'' : Nat) (hc : cavP c) (hs : StI s) (h5 : Ret 26 #[sV s, pV p] (.bool true)) : Calls Try.prog 8 #[cavV c, sV s, .slice a 0 cap, pV p, .slice a' 0 cap', .slice a'' 0 cap''] w fun e w' => e = .returned (.bool true) ∧ Below w.heap.size w w' := by
  have H2 := Lib.hid (ret_of (gives19 hc))
  have H3 := Lib.hid (ret_of (gives20 (z := zz zeros s zeros) hs))
  have H4 := Lib.hid (fun w' => ops36_zero a cap w')
  have H5 := Lib.hid h5
  have H6 := Lib.hid (fun w' => truth_zero a a' a'' cap cap' cap'' w')
  have H7 := Lib.hid (fun w' => steps35_nilT c s a cap hc hs w')
  have HB := Lib.hid (fun O O' O'' => (((Below.refl w.heap.size w).alloc (Nat.le_refl _) O).alloc (by simp) O').alloc (by simp; omega) O'')
  have HK := Lib.hid known_says
  clear hc hs h5
  simp only [Ret, cavV, stV, sV, pV, zz] at H2 H3 H5
  simp only [cavV, sV, pV] at H7 ⊢
  go_enter Try.func8, Try.ntmps8
  go_wp2_with fail
  refine (H2.out _).mono ?_
  rintro e x1 ⟨rfl, hb1⟩
  obtain ⟨hc1, hf1⟩ := bcell hb1
  have hz1 := hb1.size
  simp at hz1
  have n1 : w.heap.size < x1.heap.size := by omega
  have o1 : w.heap.size + 1 < x1.heap.size := by omega
  have q1 : w.heap.size + 1 + 1 < x1.heap.size := by omega
  have B1 := (HB.out _ _ _).trans (hb1.mono (by simp; omega))
  go_wp2_with fail
  refine (H3.out _).mono ?_
  rintro e x2 ⟨rfl, hb2⟩
  obtain ⟨hc2, hf2⟩ := bcell hb2
  have hz2 := hb2.size
  have n2 : w.heap.size < x2.heap.size := by omega
  have o2 : w.heap.size + 1 < x2.heap.size := by omega
  have q2 : w.heap.size + 1 + 1 < x2.heap.size := by omega
  have B2 := B1.trans (hb2.mono (by omega))
  go_wp2_with fail
  refine (H4.out _).mono ?_
  rintro e x3 ⟨rfl, hb3⟩
  obtain ⟨hc3, hf3⟩ := bcell hb3
  have hz3 := hb3.size
  have n3 : w.heap.size < x3.heap.size := by omega
  have o3 : w.heap.size + 1 < x3.heap.size := by omega
  have q3 : w.heap.size + 1 + 1 < x3.heap.size := by omega
  have B3 := B2.trans (hb3.mono (by omega))
  go_wp2_with fail
  refine (H5.out _).mono ?_
  rintro e x4 ⟨rfl, hb4⟩
  obtain ⟨hc4, hf4⟩ := bcell hb4
  have hz4 := hb4.size
  have n4 : w.heap.size < x4.heap.size := by omega
  have o4 : w.heap.size + 1 < x4.heap.size := by omega
  have q4 : w.heap.size + 1 + 1 < x4.heap.size := by omega
  have B4 := B3.trans (hb4.mono (by omega))
  go_wp2_with fail
  refine (H6.out _).mono ?_
  rintro e x5 ⟨rfl, hb5⟩
  obtain ⟨hc5, hf5⟩ := bcell hb5
  have hz5 := hb5.size
  have n5 : w.heap.size < x5.heap.size := by omega
  have o5 : w.heap.size + 1 < x5.heap.size := by omega
  have q5 : w.heap.size + 1 + 1 < x5.heap.size := by omega
  have B5 := B4.trans (hb5.mono (by omega))
  go_wp2_with fail
  refine (H7.out _).mono ?_
  rintro e x6 ⟨rfl, hb6⟩
  obtain ⟨hc6, hf6⟩ := bcell hb6
  have hz6 := hb6.size
  have n6 : w.heap.size < x6.heap.size := by omega
  have o6 : w.heap.size + 1 < x6.heap.size := by omega
  have q6 : w.heap.size + 1 + 1 < x6.heap.size := by omega
  have B6 := B5.trans (hb6.mono (by omega))
  go_wp2
  refine wp_loop_rounds 1 ?_
  rw [rounds_succ]
  go_wp2_with fail
  refine (HK.out _).mono ?_
  rintro e x7 ⟨rfl, hb7⟩
  obtain ⟨hc7, hf7⟩ := bcell hb7
  have hz7 := hb7.size
  have n7 : w.heap.size < x7.heap.size := by omega
  have o7 : w.heap.size + 1 < x7.heap.size := by omega
  have q7 : w.heap.size + 1 + 1 < x7.heap.size := by omega
  have B7 := B6.trans (hb7.mono (by omega))
  go_wp2
  go_ret
  exact ⟨rfl, B7⟩
end Go.Ev.Gas
end

