import Derived.Test.YtdpegcimhhegmaaRefA
import Derived.Test.YtdpegcimhhegmaaRefB
set_option linter.unusedVariables false
set_option linter.unusedSimpArgs false
set_option linter.unusedSectionVars false
noncomputable section
set_option maxRecDepth 100000
namespace Go.Ev.Gas
open Go.RowKit Go.Ev.Num
theorem gives_eq {F0 : Fence} {f : Nat} {vs : Array Value} {r r' : Value} (h : Gives F0 f vs r) (e : r = r') : Gives F0 f vs r' := e ▸ h
section
variable {z : Nat → Int} (hc : cavP z) (hs : stP z)
include hc hs
theorem ref_inject (ho : op1 z) (hcan : z 12 + z 19 ≤ 1000000 ∧ z 14 + z 20 ≤ 1000000 ∧ z 18 + z 22 ≤ 1000000000) : Gives (Fence.there P) 31 #[cavV z, stV z, opV z] (ansV (aft1 z) zeros (.bool true)) := by
  obtain ⟨h1, h2, h3⟩ := hcan
  have hb := sm_in hc hs ho
  by_cases hC : 0 < cm z
  · have hv : VRs (envZ (zI z)) a_IA (#[cavV z, stV z, opV z] : Array Value).toList :=
      three (vr_cav (z := zI z) hc) (vr_st (z := zI z) hs) (vr_inj (z := zI z) (m := 1000000) ho (by simp only [op1] at ho; simp only [zI]; omega) (by simp only [op1] at ho; simp only [zI]; omega))
    · have hh := holds_IA hc hs ho hC h1 h2 h3
      have ord := mx_ord hc hs ho hC
      have w1 : warmT z (sm z 11 13) (z 15) = zI z 60 := by unfold warmT; rw [if_neg (by omega)]; rfl
      have w2 : warmT z (sm z 12 14) (z 15) = zI z 66 := by unfold warmT; rw [if_neg (by omega)]; rfl
      have w3 : warmT z (sm z 11 13) (z 16) = zI z 61 := by unfold warmT; rw [if_neg (by omega)]; rfl
      have w4 : warmT z (sm z 12 14) (z 16) = zI z 67 := by unfold warmT; rw [if_neg (by omega)]; rfl
      have e4 := min4 ord.2.1
      have e5 := max7 ord.1.2.1 ord.1.2.2.1 ord.1.2.2.2 ord.2.2
      have e4' : aft1 z 4 = sxOp 3 (sxOp 3 (sxOp 3 (zI z 60) (zI z 62)) (zI z 64)) (zI z 66) := by rw [e4]; show sxOp 3 _ _ = _; rw [w1, w2]
      have e5' : aft1 z 5 = sxOp 4 (sxOp 4 (sxOp 4 (sxOp 4 (sxOp 4 (sxOp 4 (zI z 61) (zI z 62)) (zI z 63)) (zI z 64)) (zI z 65)) (zI z 66)) (zI z 67) := by rw [e5]; show sxOp 4 _ _ = _; rw [w3, w4]
      refine gives_eq (gives_of c31_IA rfl rfl rfl (zI z) hh _ hv) ?_
      · have f4 : aft1 z 4 = sxOp 3 (zI z 60) (zI z 66) := by show sxOp 3 _ _ = _; rw [w1, w2]
        have f5 : aft1 z 5 = sxOp 4 (zI z 61) (zI z 67) := by show sxOp 4 _ _ = _; rw [w3, w4]
        simp only [ansV, sV, f4, f5]; rfl
  · have h0 : z 19 = 0 ∧ z 20 = 0 := by
      have hc' := hc; have ho' := ho
      simp only [cavP, op1] at hc' ho'
      have a1 : z 19 ≤ z 19 * z 6 := by have := Int.mul_le_mul_of_nonneg_left (show 1 ≤ z 6 by omega) (show 0 ≤ z 19 by omega); omega
      have a2 : z 20 ≤ z 20 * z 7 := by have := Int.mul_le_mul_of_nonneg_left (show 1 ≤ z 7 by omega) (show 0 ≤ z 20 by omega); omega
      simp only [cm] at hC
      omega
    have hC0 : cm z = 0 := by omega
    have wt : ∀ S T : Int, 0 ≤ S → warmT z S T = T := fun S T hS => by
      unfold warmT
      by_cases h : S + cm z = 0
      · rw [if_pos h]
      · rw [if_neg h]; unfold mx; rw [hC0, Int.zero_mul, Int.add_zero, Int.add_zero]; exact Int.mul_tdiv_cancel_left _ (by omega)
    have sx3s : ∀ a : Int, sxOp 3 a a = a := fun a => sx3_l (Int.le_refl _)
    have sx4s : ∀ a : Int, sxOp 4 a a = a := fun a => sx4_l (Int.le_refl _)
    have hv : VRs (envZ (zZ z)) a_IZ0 (#[cavV z, stV z, opV z] : Array Value).toList :=
      three (vr_cav (z := zZ z) hc) (vr_st (z := zZ z) hs) (vr_inj (z := zZ z) (m := 0) ho (by simp only [zZ]; omega) (by simp only [zZ]; omega))
    obtain ⟨b0, b1, b2, b3, _, m1, m2, m3, m4⟩ := hb
    have e0 : aft1 z 0 = z 11 := by simp only [aft1]; omega
    have e1 : aft1 z 1 = z 12 := by simp only [aft1]; omega
    have e2 : aft1 z 2 = z 13 := by simp only [aft1]; omega
    have e3 : aft1 z 3 = z 14 := by simp only [aft1]; omega
    have e4 : aft1 z 4 = z 15 := by simp only [aft1]; rw [wt _ _ b0.1, wt _ _ b3.1, sx3s]
    have e5 : aft1 z 5 = z 16 := by simp only [aft1]; rw [wt _ _ b0.1, wt _ _ b3.1, sx4s]
    have hs' := hs
    simp only [stP] at hs'
    have hw := h3
    · have fin : ∀ r : Value, ansV (aft1 z) zeros r = .tuple [.agg [vi (z 11), vi (z 12), vi (z 13), vi (z 14), vi (z 15), vi (z 16), vi (z 17 + z 22), vi (z 18 + z 22)].toArray, gV zeros, r].toArray := fun r => by
        simp only [ansV, sV, e0, e1, e2, e3, e4, e5]; rfl
      by_cases k0 : sm z 11 13 = 0
      · by_cases k1 : sm z 11 14 = 0
        · by_cases k2 : sm z 12 13 = 0
          · have k3 : sm z 12 14 = 0 := by simp only [sm] at *; omega
            have hk := holds_IZ4 hc hs ho k0 k1 k2 k3 hw
            exact gives_eq (gives_of c31_IZ4 rfl rfl rfl (zZ z) hk _ hv) (by rw [fin]; rfl)
          · have hk := holds_IZ2 hc hs ho k0 k1 (by omega) (by omega) hw
            exact gives_eq (gives_of c31_IZ2 rfl rfl rfl (zZ z) hk _ hv) (by rw [fin]; rfl)
        · by_cases k2 : sm z 12 13 = 0
          · have hk := holds_IZ3 hc hs ho k0 (by omega) k2 (by omega) hw
            exact gives_eq (gives_of c31_IZ3 rfl rfl rfl (zZ z) hk _ hv) (by rw [fin]; rfl)
          · have hk := holds_IZ1 hc hs ho k0 (by omega) (by omega) (by omega) hw
            exact gives_eq (gives_of c31_IZ1 rfl rfl rfl (zZ z) hk _ hv) (by rw [fin]; rfl)
      · have hk := holds_IZ0 hc hs ho (by omega) (by omega) (by omega) (by omega) hw
        exact gives_eq (gives_of c31_IZ0 rfl rfl rfl (zZ z) hk _ hv) (by rw [fin]; rfl)
theorem ref_withdraw (ho : op2 z) (h0 : z 23 ≤ z 11 + z 13) : Gives (Fence.there P) 31 #[cavV z, stV z, opV z] (ansV (aft2 z) (gon2 z) (.bool true)) := by
  have ho' := ho; have hs' := hs
  simp only [op2, stP] at ho' hs'
  · by_cases h1 : 1 ≤ z 11 + z 13
    · have hv : VRs (envZ (zW z)) a_W1 (#[cavV z, stV z, opV z] : Array Value).toList := three (vr_cav (z := zW z) hc) (vr_st (z := zW z) hs) (vr_wit (z := zW z) ho (by simp only [zW]; omega))
      have hk := holds_W1 hc hs ho h1 h0
      exact gives_of c31_W1 rfl rfl rfl (zW z) hk _ hv
    · have hw := vr_wit (z := z) (m := 0) ho (by omega)
      have hm : z 23 = 0 := by omega
      have q0 : ∀ h A : Int, qt z h A = 0 := fun h A => by unfold qt; rw [hm, Int.zero_mul]; exact Int.zero_tdiv _
      have g0 : gV (gon2 z) = gV zeros := gV_congr fun i hi => by
        unfold gon2; split <;> simp only [q0, hm, zeros] <;> rfl
      have s0 : sV (aft2 z) = .agg [vi (z 11), vi (z 12), vi (z 13), vi (z 14), vi (z 15), vi (z 16), vi (z 17), vi (z 18)].toArray := by
        simp only [sV, aft2, q0, hm, Int.sub_zero]
      have fin : ∀ r : Value, ansV (aft2 z) (gon2 z) r = .tuple [.agg [vi (z 11), vi (z 12), vi (z 13), vi (z 14), vi (z 15), vi (z 16), vi (z 17), vi (z 18)].toArray, gV zeros, r].toArray := fun r => by
        simp only [ansV, s0, g0]
      have z11 : z 11 = 0 := by omega
      have z13 : z 13 = 0 := by omega
      by_cases h2 : z 14 = 0
      · by_cases h3 : z 12 = 0
        · have hv := three (vr_cav hc) (vr_stZ (lh := (0, 0)) (lg := (0, 0)) hs (by omega) (by omega) (by simp only; omega) (by simp only; omega) (by simp only; omega) (by simp only; omega)) hw
          refine gives_eq (gives_of c31_WZ3 rfl rfl rfl z (holds_WZ3 hc hs) _ hv) ?_
          · rw [fin]; simp only [r31_WZ3, valOf, valsOf, SX.eval, ov, valI, hm]; rfl
        · have hv := three (vr_cav hc) (vr_stZ (lh := (0, 0)) (lg := (1, 1000000)) hs (by omega) (by omega) (by simp only; omega) (by simp only; omega) (by simp only; omega) (by simp only; omega)) hw
          refine gives_eq (gives_of c31_WZ1 rfl rfl rfl z (holds_WZ1 hc hs) _ hv) ?_
          · rw [fin]; simp only [r31_WZ1, valOf, valsOf, SX.eval, ov, valI, hm]; rfl
      · by_cases h3 : z 12 = 0
        · have hv := three (vr_cav hc) (vr_stZ (lh := (1, 1000000)) (lg := (0, 0)) hs (by omega) (by omega) (by simp only; omega) (by simp only; omega) (by simp only; omega) (by simp only; omega)) hw
          refine gives_eq (gives_of c31_WZ2 rfl rfl rfl z (holds_WZ2 hc hs) _ hv) ?_
          · rw [fin]; simp only [r31_WZ2, valOf, valsOf, SX.eval, ov, valI, hm]; rfl
        · have hv := three (vr_cav hc) (vr_stZ (lh := (1, 1000000)) (lg := (1, 1000000)) hs (by omega) (by omega) (by simp only; omega) (by simp only; omega) (by simp only; omega) (by simp only; omega)) hw
          refine gives_eq (gives_of c31_WZ0 rfl rfl rfl z (holds_WZ0 hc hs) _ hv) ?_
          · rw [fin]; simp only [r31_WZ0, valOf, valsOf, SX.eval, ov, valI, hm]; rfl
theorem ref_rest (ho : op3 z) (h : z 18 + z 27 ≤ 1000000000) : Gives (Fence.there P) 31 #[cavV z, stV z, opV z] (ansV (aft3 z) zeros (.bool true)) := by
  have hv : VRs (envZ (zR z)) a_RA (#[cavV z, stV z, opV z] : Array Value).toList :=
    three (vr_cav (z := zR z) hc) (vr_st (z := zR z) hs) (vr_rst (z := zR z) ho)
  · have hk := holds_RA hc hs ho h
    exact gives_of c31_RA rfl rfl rfl (zR z) hk _ hv
end
/-- ref.Do says that it cannot be done. -/
def NoRef (z : Nat → Int) : Prop := ∃ a : Nat → Int, (∀ i, 0 ≤ a i ∧ a i ≤ 200000000000) ∧ Gives (Fence.there P) 31 #[cavV z, stV z, opV z] (ansV a zeros (.bool false))
def li (l : List Int) (i : Nat) : Int := (l[i]?).getD 0
theorem no_of {z : Nat → Int} {r : Value} {a : Nat → Int} (h : Gives (Fence.there P) 31 #[cavV z, stV z, opV z] r) (e : r = ansV a zeros (.bool false)) (hb : ∀ i, 0 ≤ a i ∧ a i ≤ 200000000000) : NoRef z := ⟨a, hb, gives_eq h e⟩
end Go.Ev.Gas
end

noncomputable section
set_option maxRecDepth 100000
namespace Go.Ev.Gas
open Go.RowKit Go.Ev.Num
def jI (z : Nat → Int) (i : Nat) : Int :=
  match i with
  | 0 => z 11 + z 19 | 1 => z 12 + z 19 | 2 => z 13 + z 20 | 3 => z 14 + z 20 | 4 => sxOp 3 (zI z 60) (zI z 66) | 5 => sxOp 4 (zI z 61) (zI z 67) | 6 => z 17 + z 22 | 7 => z 18 + z 22 | _ => 0
def jY (z : Nat → Int) (i : Nat) : Int :=
  match i with
  | 0 => z 11 | 1 => z 12 | 2 => z 13 | 3 => z 14 | 4 => z 15 | 5 => z 16 | 6 => z 17 + z 22 | 7 => z 18 + z 22 | _ => 0
def jV (z : Nat → Int) (i : Nat) : Int :=
  match i with
  | 0 => z 11 | 1 => z 12 | 2 => z 13 | 3 => z 14 | 4 => z 15 | 5 => z 16 | 6 => z 17 | 7 => z 18 | _ => 0
def jR (z : Nat → Int) (i : Nat) : Int :=
  match i with
  | 0 => z 11 | 1 => z 12 | 2 => z 13 | 3 => z 14 | 4 => sxOp 3 (nr z 15 24) (nr z 15 25) | 5 => sxOp 4 (nr z 16 24) (nr z 16 25) | 6 => z 17 + z 26 | 7 => z 18 + z 27 | _ => 0
theorem sx3_in {a b lo hi : Int} (h1 : lo ≤ a ∧ a ≤ hi) (h2 : lo ≤ b ∧ b ≤ hi) : lo ≤ sxOp 3 a b ∧ sxOp 3 a b ≤ hi := by
  show lo ≤ (if b < a then b else a) ∧ (if b < a then b else a) ≤ hi
  split <;> omega
theorem sx4_in {a b lo hi : Int} (h1 : lo ≤ a ∧ a ≤ hi) (h2 : lo ≤ b ∧ b ≤ hi) : lo ≤ sxOp 4 a b ∧ sxOp 4 a b ≤ hi := by
  show lo ≤ (if b > a then b else a) ∧ (if b > a then b else a) ≤ hi
  split <;> omega
theorem jI_in {z : Nat → Int} (hc : cavP z) (hs : stP z) (ho : op1b z) (hC : 0 < cm z) (i : Nat) : 0 ≤ jI z i ∧ jI z i ≤ 200000000000 := by
  have hb := sm_inb hc hs ho
  have hs' := hs
  simp only [stP] at hs'
  have q {S T : Int} (hS : 0 ≤ S) (h1 : 2000 ≤ T) (h2 : T ≤ 5000) := mx_inb hc hs ho hC hS h1 h2
  have q1 := q hb.1.1 (show 2000 ≤ z 15 by omega) (by omega)
  have q2 := q hb.1.1 (show 2000 ≤ z 16 by omega) (by omega)
  have q7 := q hb.2.2.2.1.1 (show 2000 ≤ z 15 by omega) (by omega)
  have q8 := q hb.2.2.2.1.1 (show 2000 ≤ z 16 by omega) (by omega)
  have a := sx3_in (lo := 0) (hi := 200000000000) (a := zI z 60) (b := zI z 66) (by simp only [zI]; omega) (by simp only [zI]; omega)
  have b := sx4_in (lo := 0) (hi := 200000000000) (a := zI z 61) (b := zI z 67) (by simp only [zI]; omega) (by simp only [zI]; omega)
  simp only [op1b] at ho
  unfold jI
  split <;> first | exact a | exact b | omega
theorem jY_in {z : Nat → Int} (hs : stP z) (ho : op1b z) (i : Nat) : 0 ≤ jY z i ∧ jY z i ≤ 200000000000 := by
  simp only [stP, op1b] at hs ho
  unfold jY
  split <;> omega
theorem jV_in {z : Nat → Int} (hs : stP z) (i : Nat) : 0 ≤ jV z i ∧ jV z i ≤ 200000000000 := by
  simp only [stP] at hs
  unfold jV
  split <;> omega
section
variable {z : Nat → Int} (hc : cavP z) (hs : stP z)
include hc hs
theorem refno_inject (ho : op1b z) (hn : ¬ (z 12 + z 19 ≤ 1000000 ∧ z 14 + z 20 ≤ 1000000 ∧ z 18 + z 22 ≤ 1000000000)) : NoRef z := by
  have hb := sm_inb hc hs ho
  by_cases hC : 0 < cm z
  · have hv : VRs (envZ (zI z)) a_JG (#[cavV z, stV z, opV z] : Array Value).toList :=
      three (vr_cav (z := zI z) hc) (vr_st (z := zI z) hs) (vr_injb (z := zI z) (m := 100000000) ho (by simp only [op1b] at ho; simp only [zI]; omega) (by simp only [op1b] at ho; simp only [zI]; omega))
    · by_cases hg : 1000000 < z 12 + z 19
      · exact no_of (a := jI z) (gives_of c31_JG rfl rfl rfl (zI z) (holds_JG hc hs ho hC hg) _ hv) rfl (jI_in hc hs ho hC)
      by_cases hh : 1000000 < z 14 + z 20
      · exact no_of (a := jI z) (gives_of c31_JH rfl rfl rfl (zI z) (holds_JH hc hs ho hC (by omega) hh) _ hv) rfl (jI_in hc hs ho hC)
      · have hk := holds_JW hc hs ho hC (by omega) (by omega) (show 1000000000 < z 18 + z 22 by omega)
        exact no_of (a := jI z) (gives_of c31_JW rfl rfl rfl (zI z) hk _ hv) rfl (jI_in hc hs ho hC)
  · have h0 : z 19 = 0 ∧ z 20 = 0 := by
      have hc' := hc; have ho' := ho
      simp only [cavP, op1b] at hc' ho'
      have a1 : z 19 ≤ z 19 * z 6 := by have := Int.mul_le_mul_of_nonneg_left (show 1 ≤ z 6 by omega) (show 0 ≤ z 19 by omega); omega
      have a2 : z 20 ≤ z 20 * z 7 := by have := Int.mul_le_mul_of_nonneg_left (show 1 ≤ z 7 by omega) (show 0 ≤ z 20 by omega); omega
      simp only [cm] at hC
      omega
    have hv : VRs (envZ (zZ z)) a_JY0 (#[cavV z, stV z, opV z] : Array Value).toList :=
      three (vr_cav (z := zZ z) hc) (vr_st (z := zZ z) hs) (vr_injb (z := zZ z) (m := 0) ho (by simp only [zZ]; omega) (by simp only [zZ]; omega))
    obtain ⟨b0, b1, b2, b3, _, m1, m2, m3, m4⟩ := hb
    have hs' := hs
    simp only [stP] at hs'
    · have hw : 1000000000 < z 18 + z 22 := by omega
      by_cases k0 : sm z 11 13 = 0
      · by_cases k1 : sm z 11 14 = 0
        · by_cases k2 : sm z 12 13 = 0
          · have k3 : sm z 12 14 = 0 := by simp only [sm] at *; omega
            have hk := holds_JY4 hc hs ho k0 k1 k2 k3 hw
            exact no_of (a := jY z) (gives_of c31_JY4 rfl rfl rfl (zZ z) hk _ hv) rfl (jY_in hs ho)
          · have hk := holds_JY2 hc hs ho k0 k1 (by omega) (by omega) hw
            exact no_of (a := jY z) (gives_of c31_JY2 rfl rfl rfl (zZ z) hk _ hv) rfl (jY_in hs ho)
        · by_cases k2 : sm z 12 13 = 0
          · have hk := holds_JY3 hc hs ho k0 (by omega) k2 (by omega) hw
            exact no_of (a := jY z) (gives_of c31_JY3 rfl rfl rfl (zZ z) hk _ hv) rfl (jY_in hs ho)
          · have hk := holds_JY1 hc hs ho k0 (by omega) (by omega) (by omega) hw
            exact no_of (a := jY z) (gives_of c31_JY1 rfl rfl rfl (zZ z) hk _ hv) rfl (jY_in hs ho)
      · have hk := holds_JY0 hc hs ho (by omega) (by omega) (by omega) (by omega) hw
        exact no_of (a := jY z) (gives_of c31_JY0 rfl rfl rfl (zZ z) hk _ hv) rfl (jY_in hs ho)
theorem refno_withdraw (ho : op2b z) (hn : ¬ z 23 ≤ z 11 + z 13) : NoRef z :=
  no_of (a := jV z) (gives_of c31_V0 rfl rfl rfl z (holds_V0 hc hs ho (by omega)) _ (three (vr_cav hc) (vr_st hs) (vr_witb ho (by simp only [op2b] at ho; omega)))) rfl (jV_in hs)
/-- ref.Do, where it can be done. -/
theorem ref_can (ho : opP z) (h : can z) : Gives (Fence.there P) 31 #[cavV z, stV z, opV z] (ansV (aft z) (gon z) (.bool true)) := by
  rcases ho with k | k | k
  · have k1 : z 28 = 1 := k.1
    rw [show aft z = aft1 z by unfold aft; rw [if_pos k1], show gon z = zeros by unfold gon; rw [if_neg (by omega)]]
    exact ref_inject hc hs k (by simp only [can] at h; omega)
  · have k1 : z 28 = 2 := k.1
    rw [show aft z = aft2 z by unfold aft; rw [if_neg (by omega), if_pos k1], show gon z = gon2 z by unfold gon; rw [if_pos k1]]
    exact ref_withdraw hc hs k (by simp only [can] at h; omega)
  · have k1 : z 28 = 3 := k.1
    rw [show aft z = aft3 z by unfold aft; rw [if_neg (by omega), if_neg (by omega)], show gon z = zeros by unfold gon; rw [if_neg (by omega)]]
    exact ref_rest hc hs k (by simp only [can] at h; omega)
theorem ref_big (ho : op1b z ∨ op2b z) (h : ¬ can z) : NoRef z := by
  rcases ho with k | k
  · exact refno_inject hc hs k fun hn => h (.inl ⟨k.1, hn⟩)
  · exact refno_withdraw hc hs k fun hn => h (.inr (.inl ⟨k.1, hn⟩))
end
end Go.Ev.Gas
end

