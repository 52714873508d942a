import Derived.Test.YtdpegcimhhegmaaRoK
set_option linter.unusedVariables false
set_option linter.unusedSimpArgs false
set_option linter.unusedSectionVars false
noncomputable section
set_option maxRecDepth 1000000
set_option maxHeartbeats 0
namespace Go.Ev.Gas
open Go.RowKit Go.Ev.Num
/-! ### The theorem of room -/
noncomputable def opN1 : AV plain := .agg [one 1, .sx (.bin 2 (.v 37) (.v 30)) 0 100000000, .sx (.bin 2 (.v 37) (.v 31)) 0 100000000, iv 32 2000 5000, .sx (.bin 2 (.v 37) (.v 33)) 0 100000000000, Z, Z, Z, Z, Z]
noncomputable def opN2 : AV plain := .agg [one 2, Z, Z, Z, Z, .sx (.bin 2 (.v 37) (.v 34)) 1 100000000, Z, Z, Z, Z]
noncomputable def opM1 : AV plain := .agg [one 1, .sx (.bin 2 (.bin 0 (.v 301) (.c 1)) (.v 30)) 0 101000000, .sx (.bin 2 (.bin 0 (.v 301) (.c 1)) (.v 31)) 0 101000000, iv 32 2000 5000, .sx (.bin 2 (.bin 0 (.v 301) (.c 1)) (.v 33)) 0 101000000000, Z, Z, Z, Z, Z]
noncomputable def opM2 : AV plain := .agg [one 2, Z, Z, Z, Z, .sx (.bin 2 (.bin 0 (.v 302) (.c 1)) (.v 34)) 1 101000000, Z, Z, Z, Z]
noncomputable def kK1 : KC := { f := 48, args := [cavA, qA, opN1, iv 36 1 1000000], res := .ret (.bool true) }
noncomputable def kK2 : KC := { f := 48, args := [cavA, qA, opN2, iv 36 1 1000000], res := .ret (.bool true) }
noncomputable def kF1 : KC := { f := 50, args := [cavA, stA, opM1], res := .ret (.bool false) }
noncomputable def kF2 : KC := { f := 50, args := [cavA, stA, opM2], res := .ret (.bool false) }
def XK (op : (Nat → Int) → Nat → Int) (x : Nat → Int) : Prop := ∃ (z : Nat → Int) (m m' : Nat), x = nR z m m' 0 ∧ Gives (Fence.there P) 48 #[cavV z, qV z, opV (op z), vi (z 36)] (.bool true)
def XF1 (x : Nat → Int) : Prop := ∃ (z : Nat → Int) (m m' : Nat), x = nR z m m' 0 ∧ Gives (Fence.there P) 50 #[cavV z, stV z, opV (zl z ((m : Int) + 1))] (.bool false)
def XF2 (x : Nat → Int) : Prop := ∃ (z : Nat → Int) (m m' : Nat), x = nR z m m' 0 ∧ Gives (Fence.there P) 50 #[cavV z, stV z, opV (zw z ((m' : Int) + 1))] (.bool false)
def ol (z : Nat → Int) : Nat → Int := zl z (z 37)
def ow (z : Nat → Int) : Nat → Int := zw z (z 37)
theorem cKp1 : Con P (Fence.there P) (At (XK ol)) kK1 := con_num rfl rfl (by decide +kernel) (by decide +kernel) (by decide +kernel) (by decide +kernel) fun x ⟨z, m, m', hx, h⟩ => by
  subst hx
  exact ⟨h, by simp only [bnd]⟩
theorem cKp2 : Con P (Fence.there P) (At (XK ow)) kK2 := con_num rfl rfl (by decide +kernel) (by decide +kernel) (by decide +kernel) (by decide +kernel) fun x ⟨z, m, m', hx, h⟩ => by
  subst hx
  exact ⟨h, by simp only [bnd]⟩
theorem cF1 : Con P (Fence.there P) (At XF1) kF1 := con_num rfl rfl (by decide +kernel) (by decide +kernel) (by decide +kernel) (by decide +kernel) fun x ⟨z, m, m', hx, h⟩ => by
  subst hx
  exact ⟨h, by simp only [bnd]⟩
theorem cF2 : Con P (Fence.there P) (At XF2) kF2 := con_num rfl rfl (by decide +kernel) (by decide +kernel) (by decide +kernel) (by decide +kernel) fun x ⟨z, m, m', hx, h⟩ => by
  subst hx
  exact ⟨h, by simp only [bnd]⟩
noncomputable def un : AV plain := iv 34 1 1000000
noncomputable def a12 : List (AV plain) := [cavA, stA, lotP, un, qA, iv 36 1 1000000, iv 37 1 100]
noncomputable def voL : List (SX × SX × Bool) := [(.v 36, .v 0, false), (.v 1, .v 36, false)]
theorem Xa0 {o : Nat → Value} (h : At Xa o ∧ At Xb o) : At Xa o := h.1
noncomputable def G12_0 : Ctx := gValid (cavL ++ stL ++ (hasQL ++ voL ++ [(.v 301, .v 37, false), (.v 302, .v 37, false), (.v 301, .c 100, false), (.v 302, .c 100, false)])) (fun o => At Xa o ∧ At Xb o ∧ At (XK ol) o ∧ At (XK ow) o)
theorem d12_0 : isRes (kYes 12 a12).res (runK P L true [k42, k43, kK1, kK2, k21] [] G12_0 (kYes 12 a12)) = true := by decide +kernel
theorem c12_0 : Con P (Fence.there P) G12_0.holds (kYes 12 a12) := con_no (H := G12_0.holds) (List.forall_mem_cons.2 ⟨⟨by decide +kernel, cG42.mono fun o h => up_to h (fun p => p.1)⟩, (List.forall_mem_cons.2 ⟨⟨by decide +kernel, cG43.mono fun o h => up_to h (fun p => p.2.1)⟩, (List.forall_mem_cons.2 ⟨⟨by decide +kernel, cKp1.mono fun o h => h.extra.2.2.1⟩, (List.forall_mem_cons.2 ⟨⟨by decide +kernel, cKp2.mono fun o h => h.extra.2.2.2⟩, kn_ok⟩)⟩)⟩)⟩) (fun o h => h) d12_0
noncomputable def G12_1 : Ctx := gValid (cavL ++ stL ++ (hasQL ++ voL ++ [(.v 301, .v 37, true), (.v 302, .v 37, false), (.v 301, .c 100, false), (.v 302, .c 100, false)])) (fun o => At Xa o ∧ At Xb o ∧ At (XK ow) o)
theorem d12_1 : isRes (kYes 12 a12).res (runK P L true [k42, k43, kK2, k21] [] G12_1 (kYes 12 a12)) = true := by decide +kernel
theorem c12_1 : Con P (Fence.there P) G12_1.holds (kYes 12 a12) := con_no (H := G12_1.holds) (List.forall_mem_cons.2 ⟨⟨by decide +kernel, cG42.mono fun o h => up_to h (fun p => p.1)⟩, (List.forall_mem_cons.2 ⟨⟨by decide +kernel, cG43.mono fun o h => up_to h (fun p => p.2.1)⟩, (List.forall_mem_cons.2 ⟨⟨by decide +kernel, cKp2.mono fun o h => h.extra.2.2⟩, kn_ok⟩)⟩)⟩) (fun o h => h) d12_1
noncomputable def G12_2 : Ctx := gValid (cavL ++ stL ++ (hasQL ++ voL ++ [(.v 301, .v 37, false), (.v 302, .v 37, true), (.v 301, .c 100, false), (.v 302, .c 100, false)])) (fun o => At Xa o ∧ At Xb o ∧ At (XK ol) o)
theorem d12_2 : isRes (kYes 12 a12).res (runK P L true [k42, k43, kK1, k21] [] G12_2 (kYes 12 a12)) = true := by decide +kernel
theorem c12_2 : Con P (Fence.there P) G12_2.holds (kYes 12 a12) := con_no (H := G12_2.holds) (List.forall_mem_cons.2 ⟨⟨by decide +kernel, cG42.mono fun o h => up_to h (fun p => p.1)⟩, (List.forall_mem_cons.2 ⟨⟨by decide +kernel, cG43.mono fun o h => up_to h (fun p => p.2.1)⟩, (List.forall_mem_cons.2 ⟨⟨by decide +kernel, cKp1.mono fun o h => h.extra.2.2⟩, kn_ok⟩)⟩)⟩) (fun o h => h) d12_2
noncomputable def G12_3 : Ctx := gValid (cavL ++ stL ++ (hasQL ++ voL ++ [(.v 301, .v 37, true), (.v 302, .v 37, true), (.v 301, .c 100, false), (.v 302, .c 100, false)])) (fun o => At Xa o ∧ At Xb o)
theorem d12_3 : isRes (kYes 12 a12).res (runK P L true [k42, k43, k21] [] G12_3 (kYes 12 a12)) = true := by decide +kernel
theorem c12_3 : Con P (Fence.there P) G12_3.holds (kYes 12 a12) := con_no (H := G12_3.holds) (List.forall_mem_cons.2 ⟨⟨by decide +kernel, cG42.mono fun o h => up_to h (fun p => p.1)⟩, (List.forall_mem_cons.2 ⟨⟨by decide +kernel, cG43.mono fun o h => up_to h (fun p => p.2)⟩, kn_ok⟩)⟩) (fun o h => h) d12_3
noncomputable def G12_4 : Ctx := gValid (cavL ++ stL ++ (hasQL ++ voL ++ [(.v 301, .v 37, false), (.v 302, .v 37, false), (.v 301, .c 100, true), (.v 302, .c 100, false)])) (fun o => At Xa o ∧ At Xb o ∧ At (XK ol) o ∧ At (XK ow) o ∧ At XF1 o)
theorem d12_4 : isRes (kYes 12 a12).res (runK P L true [k42, k43, kK1, kK2, kF1, k21] [] G12_4 (kYes 12 a12)) = true := by decide +kernel
theorem c12_4 : Con P (Fence.there P) G12_4.holds (kYes 12 a12) := con_no (H := G12_4.holds) (List.forall_mem_cons.2 ⟨⟨by decide +kernel, cG42.mono fun o h => up_to h (fun p => p.1)⟩, (List.forall_mem_cons.2 ⟨⟨by decide +kernel, cG43.mono fun o h => up_to h (fun p => p.2.1)⟩, (List.forall_mem_cons.2 ⟨⟨by decide +kernel, cKp1.mono fun o h => h.extra.2.2.1⟩, (List.forall_mem_cons.2 ⟨⟨by decide +kernel, cKp2.mono fun o h => h.extra.2.2.2.1⟩, (List.forall_mem_cons.2 ⟨⟨by decide +kernel, cF1.mono fun o h => h.extra.2.2.2.2⟩, kn_ok⟩)⟩)⟩)⟩)⟩) (fun o h => h) d12_4
noncomputable def G12_5 : Ctx := gValid (cavL ++ stL ++ (hasQL ++ voL ++ [(.v 301, .v 37, true), (.v 302, .v 37, false), (.v 301, .c 100, true), (.v 302, .c 100, false)])) (fun o => At Xa o ∧ At Xb o ∧ At (XK ow) o ∧ At XF1 o)
theorem d12_5 : isRes (kYes 12 a12).res (runK P L true [k42, k43, kK2, kF1, k21] [] G12_5 (kYes 12 a12)) = true := by decide +kernel
theorem c12_5 : Con P (Fence.there P) G12_5.holds (kYes 12 a12) := con_no (H := G12_5.holds) (List.forall_mem_cons.2 ⟨⟨by decide +kernel, cG42.mono fun o h => up_to h (fun p => p.1)⟩, (List.forall_mem_cons.2 ⟨⟨by decide +kernel, cG43.mono fun o h => up_to h (fun p => p.2.1)⟩, (List.forall_mem_cons.2 ⟨⟨by decide +kernel, cKp2.mono fun o h => h.extra.2.2.1⟩, (List.forall_mem_cons.2 ⟨⟨by decide +kernel, cF1.mono fun o h => h.extra.2.2.2⟩, kn_ok⟩)⟩)⟩)⟩) (fun o h => h) d12_5
noncomputable def G12_6 : Ctx := gValid (cavL ++ stL ++ (hasQL ++ voL ++ [(.v 301, .v 37, false), (.v 302, .v 37, true), (.v 301, .c 100, true), (.v 302, .c 100, false)])) (fun o => At Xa o ∧ At Xb o ∧ At (XK ol) o ∧ At XF1 o)
theorem d12_6 : isRes (kYes 12 a12).res (runK P L true [k42, k43, kK1, kF1, k21] [] G12_6 (kYes 12 a12)) = true := by decide +kernel
theorem c12_6 : Con P (Fence.there P) G12_6.holds (kYes 12 a12) := con_no (H := G12_6.holds) (List.forall_mem_cons.2 ⟨⟨by decide +kernel, cG42.mono fun o h => up_to h (fun p => p.1)⟩, (List.forall_mem_cons.2 ⟨⟨by decide +kernel, cG43.mono fun o h => up_to h (fun p => p.2.1)⟩, (List.forall_mem_cons.2 ⟨⟨by decide +kernel, cKp1.mono fun o h => h.extra.2.2.1⟩, (List.forall_mem_cons.2 ⟨⟨by decide +kernel, cF1.mono fun o h => h.extra.2.2.2⟩, kn_ok⟩)⟩)⟩)⟩) (fun o h => h) d12_6
noncomputable def G12_7 : Ctx := gValid (cavL ++ stL ++ (hasQL ++ voL ++ [(.v 301, .v 37, true), (.v 302, .v 37, true), (.v 301, .c 100, true), (.v 302, .c 100, false)])) (fun o => At Xa o ∧ At Xb o ∧ At XF1 o)
theorem d12_7 : isRes (kYes 12 a12).res (runK P L true [k42, k43, kF1, k21] [] G12_7 (kYes 12 a12)) = true := by decide +kernel
theorem c12_7 : Con P (Fence.there P) G12_7.holds (kYes 12 a12) := con_no (H := G12_7.holds) (List.forall_mem_cons.2 ⟨⟨by decide +kernel, cG42.mono fun o h => up_to h (fun p => p.1)⟩, (List.forall_mem_cons.2 ⟨⟨by decide +kernel, cG43.mono fun o h => up_to h (fun p => p.2.1)⟩, (List.forall_mem_cons.2 ⟨⟨by decide +kernel, cF1.mono fun o h => h.extra.2.2⟩, kn_ok⟩)⟩)⟩) (fun o h => h) d12_7
noncomputable def G12_8 : Ctx := gValid (cavL ++ stL ++ (hasQL ++ voL ++ [(.v 301, .v 37, false), (.v 302, .v 37, false), (.v 301, .c 100, false), (.v 302, .c 100, true)])) (fun o => At Xa o ∧ At Xb o ∧ At (XK ol) o ∧ At (XK ow) o ∧ At XF2 o)
theorem d12_8 : isRes (kYes 12 a12).res (runK P L true [k42, k43, kK1, kK2, kF2, k21] [] G12_8 (kYes 12 a12)) = true := by decide +kernel
theorem c12_8 : Con P (Fence.there P) G12_8.holds (kYes 12 a12) := con_no (H := G12_8.holds) (List.forall_mem_cons.2 ⟨⟨by decide +kernel, cG42.mono fun o h => up_to h (fun p => p.1)⟩, (List.forall_mem_cons.2 ⟨⟨by decide +kernel, cG43.mono fun o h => up_to h (fun p => p.2.1)⟩, (List.forall_mem_cons.2 ⟨⟨by decide +kernel, cKp1.mono fun o h => h.extra.2.2.1⟩, (List.forall_mem_cons.2 ⟨⟨by decide +kernel, cKp2.mono fun o h => h.extra.2.2.2.1⟩, (List.forall_mem_cons.2 ⟨⟨by decide +kernel, cF2.mono fun o h => h.extra.2.2.2.2⟩, kn_ok⟩)⟩)⟩)⟩)⟩) (fun o h => h) d12_8
noncomputable def G12_9 : Ctx := gValid (cavL ++ stL ++ (hasQL ++ voL ++ [(.v 301, .v 37, true), (.v 302, .v 37, false), (.v 301, .c 100, false), (.v 302, .c 100, true)])) (fun o => At Xa o ∧ At Xb o ∧ At (XK ow) o ∧ At XF2 o)
theorem d12_9 : isRes (kYes 12 a12).res (runK P L true [k42, k43, kK2, kF2, k21] [] G12_9 (kYes 12 a12)) = true := by decide +kernel
theorem c12_9 : Con P (Fence.there P) G12_9.holds (kYes 12 a12) := con_no (H := G12_9.holds) (List.forall_mem_cons.2 ⟨⟨by decide +kernel, cG42.mono fun o h => up_to h (fun p => p.1)⟩, (List.forall_mem_cons.2 ⟨⟨by decide +kernel, cG43.mono fun o h => up_to h (fun p => p.2.1)⟩, (List.forall_mem_cons.2 ⟨⟨by decide +kernel, cKp2.mono fun o h => h.extra.2.2.1⟩, (List.forall_mem_cons.2 ⟨⟨by decide +kernel, cF2.mono fun o h => h.extra.2.2.2⟩, kn_ok⟩)⟩)⟩)⟩) (fun o h => h) d12_9
noncomputable def G12_10 : Ctx := gValid (cavL ++ stL ++ (hasQL ++ voL ++ [(.v 301, .v 37, false), (.v 302, .v 37, true), (.v 301, .c 100, false), (.v 302, .c 100, true)])) (fun o => At Xa o ∧ At Xb o ∧ At (XK ol) o ∧ At XF2 o)
theorem d12_10 : isRes (kYes 12 a12).res (runK P L true [k42, k43, kK1, kF2, k21] [] G12_10 (kYes 12 a12)) = true := by decide +kernel
theorem c12_10 : Con P (Fence.there P) G12_10.holds (kYes 12 a12) := con_no (H := G12_10.holds) (List.forall_mem_cons.2 ⟨⟨by decide +kernel, cG42.mono fun o h => up_to h (fun p => p.1)⟩, (List.forall_mem_cons.2 ⟨⟨by decide +kernel, cG43.mono fun o h => up_to h (fun p => p.2.1)⟩, (List.forall_mem_cons.2 ⟨⟨by decide +kernel, cKp1.mono fun o h => h.extra.2.2.1⟩, (List.forall_mem_cons.2 ⟨⟨by decide +kernel, cF2.mono fun o h => h.extra.2.2.2⟩, kn_ok⟩)⟩)⟩)⟩) (fun o h => h) d12_10
noncomputable def G12_11 : Ctx := gValid (cavL ++ stL ++ (hasQL ++ voL ++ [(.v 301, .v 37, true), (.v 302, .v 37, true), (.v 301, .c 100, false), (.v 302, .c 100, true)])) (fun o => At Xa o ∧ At Xb o ∧ At XF2 o)
theorem d12_11 : isRes (kYes 12 a12).res (runK P L true [k42, k43, kF2, k21] [] G12_11 (kYes 12 a12)) = true := by decide +kernel
theorem c12_11 : Con P (Fence.there P) G12_11.holds (kYes 12 a12) := con_no (H := G12_11.holds) (List.forall_mem_cons.2 ⟨⟨by decide +kernel, cG42.mono fun o h => up_to h (fun p => p.1)⟩, (List.forall_mem_cons.2 ⟨⟨by decide +kernel, cG43.mono fun o h => up_to h (fun p => p.2.1)⟩, (List.forall_mem_cons.2 ⟨⟨by decide +kernel, cF2.mono fun o h => h.extra.2.2⟩, kn_ok⟩)⟩)⟩) (fun o h => h) d12_11
noncomputable def G12_12 : Ctx := gValid (cavL ++ stL ++ (hasQL ++ voL ++ [(.v 301, .v 37, false), (.v 302, .v 37, false), (.v 301, .c 100, true), (.v 302, .c 100, true)])) (fun o => At Xa o ∧ At Xb o ∧ At (XK ol) o ∧ At (XK ow) o ∧ At XF1 o ∧ At XF2 o)
theorem d12_12 : isRes (kYes 12 a12).res (runK P L true [k42, k43, kK1, kK2, kF1, kF2, k21] [] G12_12 (kYes 12 a12)) = true := by decide +kernel
theorem c12_12 : Con P (Fence.there P) G12_12.holds (kYes 12 a12) := con_no (H := G12_12.holds) (List.forall_mem_cons.2 ⟨⟨by decide +kernel, cG42.mono fun o h => up_to h (fun p => p.1)⟩, (List.forall_mem_cons.2 ⟨⟨by decide +kernel, cG43.mono fun o h => up_to h (fun p => p.2.1)⟩, (List.forall_mem_cons.2 ⟨⟨by decide +kernel, cKp1.mono fun o h => h.extra.2.2.1⟩, (List.forall_mem_cons.2 ⟨⟨by decide +kernel, cKp2.mono fun o h => h.extra.2.2.2.1⟩, (List.forall_mem_cons.2 ⟨⟨by decide +kernel, cF1.mono fun o h => h.extra.2.2.2.2.1⟩, (List.forall_mem_cons.2 ⟨⟨by decide +kernel, cF2.mono fun o h => h.extra.2.2.2.2.2⟩, kn_ok⟩)⟩)⟩)⟩)⟩)⟩) (fun o h => h) d12_12
noncomputable def G12_13 : Ctx := gValid (cavL ++ stL ++ (hasQL ++ voL ++ [(.v 301, .v 37, true), (.v 302, .v 37, false), (.v 301, .c 100, true), (.v 302, .c 100, true)])) (fun o => At Xa o ∧ At Xb o ∧ At (XK ow) o ∧ At XF1 o ∧ At XF2 o)
theorem d12_13 : isRes (kYes 12 a12).res (runK P L true [k42, k43, kK2, kF1, kF2, k21] [] G12_13 (kYes 12 a12)) = true := by decide +kernel
theorem c12_13 : Con P (Fence.there P) G12_13.holds (kYes 12 a12) := con_no (H := G12_13.holds) (List.forall_mem_cons.2 ⟨⟨by decide +kernel, cG42.mono fun o h => up_to h (fun p => p.1)⟩, (List.forall_mem_cons.2 ⟨⟨by decide +kernel, cG43.mono fun o h => up_to h (fun p => p.2.1)⟩, (List.forall_mem_cons.2 ⟨⟨by decide +kernel, cKp2.mono fun o h => h.extra.2.2.1⟩, (List.forall_mem_cons.2 ⟨⟨by decide +kernel, cF1.mono fun o h => h.extra.2.2.2.1⟩, (List.forall_mem_cons.2 ⟨⟨by decide +kernel, cF2.mono fun o h => h.extra.2.2.2.2⟩, kn_ok⟩)⟩)⟩)⟩)⟩) (fun o h => h) d12_13
noncomputable def G12_14 : Ctx := gValid (cavL ++ stL ++ (hasQL ++ voL ++ [(.v 301, .v 37, false), (.v 302, .v 37, true), (.v 301, .c 100, true), (.v 302, .c 100, true)])) (fun o => At Xa o ∧ At Xb o ∧ At (XK ol) o ∧ At XF1 o ∧ At XF2 o)
theorem d12_14 : isRes (kYes 12 a12).res (runK P L true [k42, k43, kK1, kF1, kF2, k21] [] G12_14 (kYes 12 a12)) = true := by decide +kernel
theorem c12_14 : Con P (Fence.there P) G12_14.holds (kYes 12 a12) := con_no (H := G12_14.holds) (List.forall_mem_cons.2 ⟨⟨by decide +kernel, cG42.mono fun o h => up_to h (fun p => p.1)⟩, (List.forall_mem_cons.2 ⟨⟨by decide +kernel, cG43.mono fun o h => up_to h (fun p => p.2.1)⟩, (List.forall_mem_cons.2 ⟨⟨by decide +kernel, cKp1.mono fun o h => h.extra.2.2.1⟩, (List.forall_mem_cons.2 ⟨⟨by decide +kernel, cF1.mono fun o h => h.extra.2.2.2.1⟩, (List.forall_mem_cons.2 ⟨⟨by decide +kernel, cF2.mono fun o h => h.extra.2.2.2.2⟩, kn_ok⟩)⟩)⟩)⟩)⟩) (fun o h => h) d12_14
noncomputable def G12_15 : Ctx := gValid (cavL ++ stL ++ (hasQL ++ voL ++ [(.v 301, .v 37, true), (.v 302, .v 37, true), (.v 301, .c 100, true), (.v 302, .c 100, true)])) (fun o => At Xa o ∧ At Xb o ∧ At XF1 o ∧ At XF2 o)
theorem d12_15 : isRes (kYes 12 a12).res (runK P L true [k42, k43, kF1, kF2, k21] [] G12_15 (kYes 12 a12)) = true := by decide +kernel
theorem c12_15 : Con P (Fence.there P) G12_15.holds (kYes 12 a12) := con_no (H := G12_15.holds) (List.forall_mem_cons.2 ⟨⟨by decide +kernel, cG42.mono fun o h => up_to h (fun p => p.1)⟩, (List.forall_mem_cons.2 ⟨⟨by decide +kernel, cG43.mono fun o h => up_to h (fun p => p.2.1)⟩, (List.forall_mem_cons.2 ⟨⟨by decide +kernel, cF1.mono fun o h => h.extra.2.2.1⟩, (List.forall_mem_cons.2 ⟨⟨by decide +kernel, cF2.mono fun o h => h.extra.2.2.2⟩, kn_ok⟩)⟩)⟩)⟩) (fun o h => h) d12_15
end Go.Ev.Gas
end

