import Derived.Test.YtdpegcimhhegmaaBig
import Derived.Test.YtdpegcimhhegmaaMoreA
set_option linter.unusedVariables false
set_option linter.unusedSimpArgs false
set_option linter.unusedSectionVars false
noncomputable section
set_option maxRecDepth 100000
namespace Go.Ev.Gas
open Go.RowKit Go.Ev.Num
/-! ### Lots that are too great to be operations as defined -/
def op1b (z : Nat → Int) : Prop := z 28 = 1 ∧ (0 ≤ z 19 ∧ z 19 ≤ 100000000) ∧ (0 ≤ z 20 ∧ z 20 ≤ 100000000) ∧ (2000 ≤ z 21 ∧ z 21 ≤ 5000) ∧ (0 ≤ z 22 ∧ z 22 ≤ 100000000000) ∧ z 23 = 0 ∧ z 24 = 0 ∧ z 25 = 0 ∧ z 26 = 0 ∧ z 27 = 0
section
variable {z : Nat → Int} (hc : cavP z) (hs : stP z) (ho : op1b z)
include hc hs ho
theorem sm_inb : (0 ≤ sm z 11 13 ∧ sm z 11 13 ≤ 200000000) ∧ (0 ≤ sm z 11 14 ∧ sm z 11 14 ≤ 200000000) ∧ (0 ≤ sm z 12 13 ∧ sm z 12 13 ≤ 200000000) ∧ (0 ≤ sm z 12 14 ∧ sm z 12 14 ≤ 200000000) ∧ (0 ≤ cm z ∧ cm z ≤ 20000000000)
    ∧ sm z 11 13 ≤ sm z 11 14 ∧ sm z 11 13 ≤ sm z 12 13 ∧ sm z 11 14 ≤ sm z 12 14 ∧ sm z 12 13 ≤ sm z 12 14 := by
  simp only [cavP, stP, op1b] at hc hs ho
  have h6 : 0 ≤ z 6 ∧ z 6 ≤ 100 := by omega
  have h7 : 0 ≤ z 7 ∧ z 7 ≤ 100 := by omega
  have a1 := mulB (a := z 11) (b := z 6) (A := 1000000) (B := 100) (by omega) (by omega) h6.1 h6.2
  have a2 := mulB (a := z 12) (b := z 6) (A := 1000000) (B := 100) (by omega) (by omega) h6.1 h6.2
  have a3 := mulB (a := z 13) (b := z 7) (A := 1000000) (B := 100) (by omega) (by omega) h7.1 h7.2
  have a4 := mulB (a := z 14) (b := z 7) (A := 1000000) (B := 100) (by omega) (by omega) h7.1 h7.2
  have a5 := mulB (a := z 19) (b := z 6) (A := 100000000) (B := 100) (by omega) (by omega) h6.1 h6.2
  have a6 := mulB (a := z 20) (b := z 7) (A := 100000000) (B := 100) (by omega) (by omega) h7.1 h7.2
  have b1 : z 11 * z 6 ≤ z 12 * z 6 := Int.mul_le_mul_of_nonneg_right (by omega) h6.1
  have b2 : z 13 * z 7 ≤ z 14 * z 7 := Int.mul_le_mul_of_nonneg_right (by omega) h7.1
  simp only [sm, cm]
  omega
theorem mx_inb (hC : 0 < cm z) {S T : Int} (hS : 0 ≤ S) (h1 : 2000 ≤ T) (h2 : T ≤ 5000) : 2000 ≤ mx S (cm z) T (z 21) ∧ mx S (cm z) T (z 21) ≤ 5000 := by
  simp only [op1b] at ho
  rw [mx_eq hS (by omega) (by omega) (by omega)]
  exact ⟨mix_ge hS (by omega) (by omega) h1 (by omega), mix_le hS (by omega) (by omega) h2 (by omega)⟩
theorem names_J (hC : 0 < cm z) : NamesP (ov (zI z)) G_JG.names := by
  have hb := sm_inb hc hs ho
  have hst := hs
  simp only [stP] at hst
  simp only [G_JG, NamesP, SX.eval, sxOp, valI, ov]
  have q {S T : Int} (hS : 0 ≤ S) (h1 : 2000 ≤ T) (h2 : T ≤ 5000) := mx_inb hc hs ho hC hS h1 h2
  have q1 := q hb.1.1 (show 2000 ≤ z 15 by omega) (by omega)
  have q2 := q hb.1.1 (show 2000 ≤ z 16 by omega) (by omega)
  have q3 := q hb.2.1.1 (show 2000 ≤ z 15 by omega) (by omega)
  have q4 := q hb.2.1.1 (show 2000 ≤ z 16 by omega) (by omega)
  have q5 := q hb.2.2.1.1 (show 2000 ≤ z 15 by omega) (by omega)
  have q6 := q hb.2.2.1.1 (show 2000 ≤ z 16 by omega) (by omega)
  have q7 := q hb.2.2.2.1.1 (show 2000 ≤ z 15 by omega) (by omega)
  have q8 := q hb.2.2.2.1.1 (show 2000 ≤ z 16 by omega) (by omega)
  refine ⟨⟨rfl, ?_, ?_⟩, ⟨rfl, ?_, ?_⟩, ⟨rfl, ?_, ?_⟩, ⟨rfl, ?_, ?_⟩, ⟨rfl, q1⟩, ⟨rfl, q2⟩, ⟨rfl, q3⟩, ⟨rfl, q4⟩, ⟨rfl, q5⟩, ⟨rfl, q6⟩, ⟨rfl, q7⟩, ⟨rfl, q8⟩, trivial⟩ <;> simp only [zI] <;> omega
end
theorem holds_JG {z : Nat → Int} (hc : cavP z) (hs : stP z) (ho : op1b z) (hC : 0 < cm z) (hg : 1000000 < z 12 + z 19) : G_JG.holds (ov (zI z)) := by
  refine holds_of (names_J hc hs ho hC) ?_ ?_ trivial
  · simp only [cavP, stP, op1b] at hc hs ho
    simp only [G_JG, LtsP, SX.eval, sxOp, valI, ov, zI, and_true]
    omega
  · simp only [G_JG, EqsP]
theorem holds_JH {z : Nat → Int} (hc : cavP z) (hs : stP z) (ho : op1b z) (hC : 0 < cm z) (hg : z 12 + z 19 ≤ 1000000) (hh : 1000000 < z 14 + z 20) : G_JH.holds (ov (zI z)) := by
  refine holds_of (names_J hc hs ho hC) ?_ ?_ trivial
  · simp only [cavP, stP, op1b] at hc hs ho
    simp only [G_JH, LtsP, SX.eval, sxOp, valI, ov, zI, and_true]
    omega
  · simp only [G_JH, EqsP]
theorem holds_JW {z : Nat → Int} (hc : cavP z) (hs : stP z) (ho : op1b z) (hC : 0 < cm z) (hg : z 12 + z 19 ≤ 1000000) (hh : z 14 + z 20 ≤ 1000000) (hw : 1000000000 < z 18 + z 22) : G_JW.holds (ov (zI z)) := by
  refine holds_of (names_J hc hs ho hC) ?_ ?_ trivial
  · simp only [cavP, stP, op1b] at hc hs ho
    simp only [G_JW, LtsP, SX.eval, sxOp, valI, ov, zI, and_true]
    omega
  · simp only [G_JW, EqsP]
theorem holds_JY0 {z : Nat → Int} (hc : cavP z) (hs : stP z) (ho : op1b z) (h0 : 1 ≤ sm z 11 13) (h1 : 1 ≤ sm z 11 14) (h2 : 1 ≤ sm z 12 13) (h3 : 1 ≤ sm z 12 14) (hw : 1000000000 < z 18 + z 22) : G_JY0.holds (ov (zZ z)) := by
  have hb := sm_inb hc hs ho
  simp only [cavP, stP, op1b] at hc hs ho
  refine holds_of ?_ ?_ ?_ trivial
  · simp only [G_JY0, NamesP, SX.eval, sxOp, valI, ov]
    exact ⟨⟨rfl, h0, by simp only [zZ]; omega⟩, ⟨rfl, h1, by simp only [zZ]; omega⟩, ⟨rfl, h2, by simp only [zZ]; omega⟩, ⟨rfl, h3, by simp only [zZ]; omega⟩, ⟨quo_self h0, by simp only [zZ]; omega, by simp only [zZ]; omega⟩, ⟨quo_self h0, by simp only [zZ]; omega, by simp only [zZ]; omega⟩, ⟨quo_self h1, by simp only [zZ]; omega, by simp only [zZ]; omega⟩, ⟨quo_self h1, by simp only [zZ]; omega, by simp only [zZ]; omega⟩, ⟨quo_self h2, by simp only [zZ]; omega, by simp only [zZ]; omega⟩, ⟨quo_self h2, by simp only [zZ]; omega, by simp only [zZ]; omega⟩, ⟨quo_self h3, by simp only [zZ]; omega, by simp only [zZ]; omega⟩, ⟨quo_self h3, by simp only [zZ]; omega, by simp only [zZ]; omega⟩, trivial⟩
  · simp only [G_JY0, LtsP, SX.eval, sxOp, valI, ov, zZ, and_true]
    omega
  · simp only [G_JY0, EqsP]
theorem holds_JY1 {z : Nat → Int} (hc : cavP z) (hs : stP z) (ho : op1b z) (h0 : sm z 11 13 = 0) (h1 : 1 ≤ sm z 11 14) (h2 : 1 ≤ sm z 12 13) (h3 : 1 ≤ sm z 12 14) (hw : 1000000000 < z 18 + z 22) : G_JY1.holds (ov (zZ z)) := by
  have hb := sm_inb hc hs ho
  simp only [cavP, stP, op1b] at hc hs ho
  refine holds_of ?_ ?_ ?_ trivial
  · simp only [G_JY1, NamesP, SX.eval, sxOp, valI, ov]
    exact ⟨⟨h0, by simp only [zZ]; omega, by simp only [zZ]; omega⟩, ⟨rfl, h1, by simp only [zZ]; omega⟩, ⟨rfl, h2, by simp only [zZ]; omega⟩, ⟨rfl, h3, by simp only [zZ]; omega⟩, ⟨quo_self h1, by simp only [zZ]; omega, by simp only [zZ]; omega⟩, ⟨quo_self h1, by simp only [zZ]; omega, by simp only [zZ]; omega⟩, ⟨quo_self h2, by simp only [zZ]; omega, by simp only [zZ]; omega⟩, ⟨quo_self h2, by simp only [zZ]; omega, by simp only [zZ]; omega⟩, ⟨quo_self h3, by simp only [zZ]; omega, by simp only [zZ]; omega⟩, ⟨quo_self h3, by simp only [zZ]; omega, by simp only [zZ]; omega⟩, trivial⟩
  · simp only [G_JY1, LtsP, SX.eval, sxOp, valI, ov, zZ, and_true]
    omega
  · simp only [G_JY1, EqsP]
theorem holds_JY2 {z : Nat → Int} (hc : cavP z) (hs : stP z) (ho : op1b z) (h0 : sm z 11 13 = 0) (h1 : sm z 11 14 = 0) (h2 : 1 ≤ sm z 12 13) (h3 : 1 ≤ sm z 12 14) (hw : 1000000000 < z 18 + z 22) : G_JY2.holds (ov (zZ z)) := by
  have hb := sm_inb hc hs ho
  simp only [cavP, stP, op1b] at hc hs ho
  refine holds_of ?_ ?_ ?_ trivial
  · simp only [G_JY2, NamesP, SX.eval, sxOp, valI, ov]
    exact ⟨⟨h0, by simp only [zZ]; omega, by simp only [zZ]; omega⟩, ⟨h1, by simp only [zZ]; omega, by simp only [zZ]; omega⟩, ⟨rfl, h2, by simp only [zZ]; omega⟩, ⟨rfl, h3, by simp only [zZ]; omega⟩, ⟨quo_self h2, by simp only [zZ]; omega, by simp only [zZ]; omega⟩, ⟨quo_self h2, by simp only [zZ]; omega, by simp only [zZ]; omega⟩, ⟨quo_self h3, by simp only [zZ]; omega, by simp only [zZ]; omega⟩, ⟨quo_self h3, by simp only [zZ]; omega, by simp only [zZ]; omega⟩, trivial⟩
  · simp only [G_JY2, LtsP, SX.eval, sxOp, valI, ov, zZ, and_true]
    omega
  · simp only [G_JY2, EqsP]
theorem holds_JY3 {z : Nat → Int} (hc : cavP z) (hs : stP z) (ho : op1b z) (h0 : sm z 11 13 = 0) (h1 : 1 ≤ sm z 11 14) (h2 : sm z 12 13 = 0) (h3 : 1 ≤ sm z 12 14) (hw : 1000000000 < z 18 + z 22) : G_JY3.holds (ov (zZ z)) := by
  have hb := sm_inb hc hs ho
  simp only [cavP, stP, op1b] at hc hs ho
  refine holds_of ?_ ?_ ?_ trivial
  · simp only [G_JY3, NamesP, SX.eval, sxOp, valI, ov]
    exact ⟨⟨h0, by simp only [zZ]; omega, by simp only [zZ]; omega⟩, ⟨rfl, h1, by simp only [zZ]; omega⟩, ⟨h2, by simp only [zZ]; omega, by simp only [zZ]; omega⟩, ⟨rfl, h3, by simp only [zZ]; omega⟩, ⟨quo_self h1, by simp only [zZ]; omega, by simp only [zZ]; omega⟩, ⟨quo_self h1, by simp only [zZ]; omega, by simp only [zZ]; omega⟩, ⟨quo_self h3, by simp only [zZ]; omega, by simp only [zZ]; omega⟩, ⟨quo_self h3, by simp only [zZ]; omega, by simp only [zZ]; omega⟩, trivial⟩
  · simp only [G_JY3, LtsP, SX.eval, sxOp, valI, ov, zZ, and_true]
    omega
  · simp only [G_JY3, EqsP]
theorem holds_JY4 {z : Nat → Int} (hc : cavP z) (hs : stP z) (ho : op1b z) (h0 : sm z 11 13 = 0) (h1 : sm z 11 14 = 0) (h2 : sm z 12 13 = 0) (h3 : sm z 12 14 = 0) (hw : 1000000000 < z 18 + z 22) : G_JY4.holds (ov (zZ z)) := by
  have hb := sm_inb hc hs ho
  simp only [cavP, stP, op1b] at hc hs ho
  refine holds_of ?_ ?_ ?_ trivial
  · simp only [G_JY4, NamesP, SX.eval, sxOp, valI, ov]
    exact ⟨⟨h0, by simp only [zZ]; omega, by simp only [zZ]; omega⟩, ⟨h1, by simp only [zZ]; omega, by simp only [zZ]; omega⟩, ⟨h2, by simp only [zZ]; omega, by simp only [zZ]; omega⟩, ⟨h3, by simp only [zZ]; omega, by simp only [zZ]; omega⟩, trivial⟩
  · simp only [G_JY4, LtsP, SX.eval, sxOp, valI, ov, zZ, and_true]
    omega
  · simp only [G_JY4, EqsP]
theorem vr_injb {z : Nat → Int} {m : Int} (ho : op1b z) (h1 : z 19 ≤ m) (h2 : z 20 ≤ m) : VR (envZ z) (.agg [one 1, iv 19 0 m, iv 20 0 m, iv 21 2000 5000, iv 22 0 100000000000, Z, Z, Z, Z, Z]) (opV z) := by
  simp only [op1b] at ho
  exact vr_agg (vrs_cons (vr_n z (by omega)) (vrs_cons (vr_iv z (by omega) h1) (vrs_cons (vr_iv z (by omega) h2) (vrs_cons (vr_iv z (by omega) (by omega)) (vrs_cons (vr_iv z (by omega) (by omega)) (vrs_cons (vr_Z z (by omega)) (vrs_cons (vr_Z z (by omega)) (vrs_cons (vr_Z z (by omega)) (vrs_cons (vr_Z z (by omega)) (vrs_cons (vr_Z z (by omega)) vrs_nil))))))))))
def op2b (z : Nat → Int) : Prop := z 28 = 2 ∧ z 19 = 0 ∧ z 20 = 0 ∧ z 21 = 0 ∧ z 22 = 0 ∧ (0 ≤ z 23 ∧ z 23 ≤ 100000000) ∧ z 24 = 0 ∧ z 25 = 0 ∧ z 26 = 0 ∧ z 27 = 0
theorem vr_witb {z : Nat → Int} {m : Int} (ho : op2b z) (h1 : z 23 ≤ m) : VR (envZ z) (.agg [one 2, Z, Z, Z, Z, iv 23 0 m, Z, Z, Z, Z]) (opV z) := by
  simp only [op2b] at ho
  exact vr_agg (vrs_cons (vr_n z (by omega)) (vrs_cons (vr_Z z (by omega)) (vrs_cons (vr_Z z (by omega)) (vrs_cons (vr_Z z (by omega)) (vrs_cons (vr_Z z (by omega)) (vrs_cons (vr_iv z (by omega) h1) (vrs_cons (vr_Z z (by omega)) (vrs_cons (vr_Z z (by omega)) (vrs_cons (vr_Z z (by omega)) (vrs_cons (vr_Z z (by omega)) vrs_nil))))))))))
theorem holds_V0 {z : Nat → Int} (hc : cavP z) (hs : stP z) (ho : op2b z) (hm : z 11 + z 13 < z 23) : G_V0.holds (ov z) := by
  refine holds_of (by simp only [G_V0, NamesP]) ?_ (by simp only [G_V0, EqsP]) trivial
  simp only [cavP, stP, op2b] at hc hs ho
  simp only [G_V0, LtsP, SX.eval, sxOp, valI, ov, and_true]
  omega
/-- chamber.do says that it cannot be done. -/
def NoDo (z : Nat → Int) : Prop := Gives (Fence.there P) 68 #[cavV z, stV z, opV z] (ansV zeros zeros (.bool false))
theorem no_inject {z : Nat → Int} (hc : cavP z) (hs : stP z) (ho : op1b z) (hn : ¬ (z 12 + z 19 ≤ 1000000 ∧ z 14 + z 20 ≤ 1000000 ∧ z 18 + z 22 ≤ 1000000000)) : NoDo z := by
  have hb := sm_inb hc hs ho
  by_cases hC : 0 < cm z
  · have hv : VRs (envZ (zI z)) a_JG (#[cavV z, stV z, opV z] : Array Value).toList :=
      three (vr_cav (z := zI z) hc) (vr_st (z := zI z) hs) (vr_injb (z := zI z) (m := 100000000) ho (by simp only [op1b] at ho; simp only [zI]; omega) (by simp only [op1b] at ho; simp only [zI]; omega))
    · by_cases hg : 1000000 < z 12 + z 19
      · exact gives_of c68_JG rfl rfl rfl (zI z) (holds_JG hc hs ho hC hg) _ hv
      by_cases hh : 1000000 < z 14 + z 20
      · exact gives_of c68_JH rfl rfl rfl (zI z) (holds_JH hc hs ho hC (by omega) hh) _ hv
      · have hk := holds_JW hc hs ho hC (by omega) (by omega) (show 1000000000 < z 18 + z 22 by omega)
        exact gives_of c68_JW rfl rfl rfl (zI z) hk _ hv
  · have h0 : z 19 = 0 ∧ z 20 = 0 := by
      have hc' := hc; have ho' := ho
      simp only [cavP, op1b] at hc' ho'
      have a1 : z 19 ≤ z 19 * z 6 := by have := Int.mul_le_mul_of_nonneg_left (show 1 ≤ z 6 by omega) (show 0 ≤ z 19 by omega); omega
      have a2 : z 20 ≤ z 20 * z 7 := by have := Int.mul_le_mul_of_nonneg_left (show 1 ≤ z 7 by omega) (show 0 ≤ z 20 by omega); omega
      simp only [cm] at hC
      omega
    have hv : VRs (envZ (zZ z)) a_JY0 (#[cavV z, stV z, opV z] : Array Value).toList :=
      three (vr_cav (z := zZ z) hc) (vr_st (z := zZ z) hs) (vr_injb (z := zZ z) (m := 0) ho (by simp only [zZ]; omega) (by simp only [zZ]; omega))
    obtain ⟨b0, b1, b2, b3, _, m1, m2, m3, m4⟩ := hb
    have hs' := hs
    simp only [stP] at hs'
    · have hw : 1000000000 < z 18 + z 22 := by omega
      by_cases k0 : sm z 11 13 = 0
      · by_cases k1 : sm z 11 14 = 0
        · by_cases k2 : sm z 12 13 = 0
          · have k3 : sm z 12 14 = 0 := by simp only [sm] at *; omega
            have hk := holds_JY4 hc hs ho k0 k1 k2 k3 hw
            exact gives_of c68_JY4 rfl rfl rfl (zZ z) hk _ hv
          · have hk := holds_JY2 hc hs ho k0 k1 (by omega) (by omega) hw
            exact gives_of c68_JY2 rfl rfl rfl (zZ z) hk _ hv
        · by_cases k2 : sm z 12 13 = 0
          · have hk := holds_JY3 hc hs ho k0 (by omega) k2 (by omega) hw
            exact gives_of c68_JY3 rfl rfl rfl (zZ z) hk _ hv
          · have hk := holds_JY1 hc hs ho k0 (by omega) (by omega) (by omega) hw
            exact gives_of c68_JY1 rfl rfl rfl (zZ z) hk _ hv
      · have hk := holds_JY0 hc hs ho (by omega) (by omega) (by omega) (by omega) hw
        exact gives_of c68_JY0 rfl rfl rfl (zZ z) hk _ hv
theorem no_withdraw {z : Nat → Int} (hc : cavP z) (hs : stP z) (ho : op2b z) (hn : ¬ z 23 ≤ z 11 + z 13) : NoDo z :=
  gives_of c68_V0 rfl rfl rfl z (holds_V0 hc hs ho (by omega)) _ (three (vr_cav hc) (vr_st hs) (vr_witb ho (by simp only [op2b] at ho; omega)))
/-- Lots and units, however many. -/
theorem do_big {z : Nat → Int} (hc : cavP z) (hs : stP z) (ho : op1b z ∨ op2b z) : (can z → opP z ∧ Both z (aft z) (gon z) true) ∧ (¬ can z → NoDo z) := by
  rcases ho with h | h
  · refine ⟨fun hk => ?_, fun hk => no_inject hc hs h fun hn => hk (.inl ⟨h.1, hn⟩)⟩
    have k : op1 z := by simp only [op1b, can, op1, stP] at *; omega
    exact ⟨.inl k, (do_all hc hs (.inl k)).1 hk⟩
  · refine ⟨fun hk => ?_, fun hk => no_withdraw hc hs h fun hn => hk (.inr (.inl ⟨h.1, hn⟩))⟩
    have k : op2 z := by simp only [op2b, can, op2, stP] at *; omega
    exact ⟨.inr (.inl k), (do_all hc hs (.inr (.inl k))).1 hk⟩
end Go.Ev.Gas
end

