import Derived.Test.YtdpegcimhhegmaaOpen
import Derived.Test.YtdpegcimhhegmaaDoA
import Derived.Test.YtdpegcimhhegmaaDoB
import Derived.Test.YtdpegcimhhegmaaDoC
set_option linter.unusedVariables false
set_option linter.unusedSimpArgs false
set_option linter.unusedSectionVars false
noncomputable section
set_option maxRecDepth 100000
namespace Go.Ev.Gas
open Go.RowKit
mutual
/-- What a value is, where it is plain. -/
def valOf (o : Nat → Value) : AV plain → Value
  | .bool b => .bool b
  | .int k n => .int k n
  | .sx x _ _ => .int .i64 (x.eval o)
  | .agg cs => .agg (valsOf o cs).toArray
  | .tuple cs => .tuple (valsOf o cs).toArray
  | _ => .nilFunc
def valsOf (o : Nat → Value) : List (AV plain) → List Value
  | [] => []
  | a :: r => valOf o a :: valsOf o r
end
mutual
def pureA : AV plain → Bool
  | .bool _ => true
  | .int _ _ => true
  | .sx _ _ _ => true
  | .agg cs => puresA cs
  | .tuple cs => puresA cs
  | _ => false
def puresA : List (AV plain) → Bool
  | [] => true
  | a :: r => pureA a && puresA r
end
mutual
theorem val_of {e : Env plain} : ∀ (a : AV plain) (v : Value), pureA a = true → VR e a v → v = valOf e.opq a
  | .bool b, v, _, h => by simpa only [VR, valOf] using h
  | .int k n, v, _, h => by simpa only [VR, valOf] using h
  | .sx x lo hi, v, _, h => by simp only [VR] at h; simp only [valOf]; exact h.1
  | .agg cs, v, hp, h => by
    simp only [VR] at h
    obtain ⟨xs, rfl, h⟩ := h
    have := vals_of cs xs.toList (by simpa only [pureA] using hp) h
    simp only [valOf, ← this]
  | .tuple cs, v, hp, h => by
    simp only [VR] at h
    obtain ⟨xs, rfl, h⟩ := h
    have := vals_of cs xs.toList (by simpa only [pureA] using hp) h
    simp only [valOf, ← this]
theorem vals_of {e : Env plain} : ∀ (a : List (AV plain)) (v : List Value), puresA a = true → VRs e a v → v = valsOf e.opq a
  | [], v, _, h => by simpa only [VRs, valsOf] using h
  | a :: r, v, hp, h => by
    simp only [puresA, Bool.and_eq_true] at hp
    simp only [VRs] at h
    obtain ⟨x, xs, rfl, h1, h2⟩ := h
    simp only [valsOf]
    rw [val_of a x hp.1 h1, vals_of r xs hp.2 h2]
end
/-- What a call returns, at numbers. -/
def Gives (F0 : Fence) (f : Nat) (vs : Array Value) (r : Value) : Prop :=
  ∀ n w, CallsIn F0 n P f vs w fun e w' => e = .returned r ∧ Below w.heap.size w w'
theorem gives_of {F0 : Fence} {H : (Nat → Value) → Prop} {k : KC} {a : AV plain} (c : Con P F0 H k) (ho : k.obj = none) (hr : k.res = .ret a) (hp : pureA a = true) (z : Nat → Int) (h : H (ov z)) (vs : Array Value) (hv : VRs (envZ z) k.args vs.toList) : Gives F0 k.f vs (valOf (ov z) a) := by
  intro n w
  have := c (ov z) (ov_one z) h (envZ z) [] vs w n rfl ⟨by simp [ho, objL], fun i => by simp [envZ], fun i => by simp [envZ], fun cc p hc => by rw [ho] at hc; cases hc⟩ hv
  refine this.mono fun e w' ⟨h1, h2⟩ => ⟨?_, h2⟩
  rw [hr] at h1
  obtain ⟨v', rfl, e2, rfl', h3⟩ := h1
  rw [val_of a v' hp h3, rfl']
/-- A contract for whoever knows it of numbers. -/
theorem con_gives {H : (Nat → Value) → Prop} {k : KC} {a : AV plain} (ho : k.obj = none) (hr : k.res = .ret a)
    (h : ∀ (o : Nat → Value) (e : Env plain) (vs : Array Value), H o → e.opq = o → VRs e k.args vs.toList → ∃ r, Gives (Fence.there P) k.f vs r ∧ VR e a r) : Con P Fence.wide H k := by
  intro o h1 hH e0 ps vs w n he _ hv
  obtain ⟨r, hg, hv'⟩ := h o e0 vs hH he hv
  refine (Go.callsIn_wide (n := n)).2 (((hg 0 w).calls (room_there P)).mono fun e w' ⟨h3, h4⟩ => ⟨?_, h4⟩)
  rw [hr]
  exact ⟨r, h3, e0, he, hv'⟩
end Go.Ev.Gas
end

noncomputable section
set_option maxRecDepth 100000
namespace Go.Ev.Gas
open Go.RowKit Go.Ev.Num
/-! ### What an operation does to a state -/
def warmT (z : Nat → Int) (S T : Int) : Int := if S + cm z = 0 then T else mx S (cm z) T (z 21)
def aft1 (z : Nat → Int) (i : Nat) : Int :=
  match i with
  | 0 => z 11 + z 19 | 1 => z 12 + z 19 | 2 => z 13 + z 20 | 3 => z 14 + z 20
  | 4 => sxOp 3 (warmT z (sm z 11 13) (z 15)) (warmT z (sm z 12 14) (z 15))
  | 5 => sxOp 4 (warmT z (sm z 11 13) (z 16)) (warmT z (sm z 12 14) (z 16))
  | 6 => z 17 + z 22 | _ => z 18 + z 22
def aft2 (z : Nat → Int) (i : Nat) : Int :=
  match i with
  | 0 => z 11 - (z 23 - qt z (z 13) (am z 11 13)) | 1 => z 12 - (z 23 - qt z (z 14) (am z 12 14))
  | 2 => z 13 - qt z (z 13) (am z 11 13) | 3 => z 14 - qt z (z 14) (am z 12 14)
  | 4 => z 15 | 5 => z 16
  | 6 => z 17 - qt z (z 17) (am z 11 13) | _ => z 18 - qt z (z 18) (am z 12 14)
def aft3 (z : Nat → Int) (i : Nat) : Int :=
  match i with
  | 0 => z 11 | 1 => z 12 | 2 => z 13 | 3 => z 14
  | 4 => sxOp 3 (nr z 15 24) (nr z 15 25) | 5 => sxOp 4 (nr z 16 24) (nr z 16 25)
  | 6 => z 17 + z 26 | _ => z 18 + z 27
def gon2 (z : Nat → Int) (i : Nat) : Int :=
  match i with
  | 0 => z 23 - qt z (z 14) (am z 11 14) | 1 => z 23 - qt z (z 13) (am z 12 13)
  | 2 => qt z (z 13) (am z 12 13) | 3 => qt z (z 14) (am z 11 14)
  | 4 => qt z (z 17) (am z 12 14) | _ => qt z (z 18) (am z 11 13)
def sV (a : Nat → Int) : Value := .agg [vi (a 0), vi (a 1), vi (a 2), vi (a 3), vi (a 4), vi (a 5), vi (a 6), vi (a 7)].toArray
def gV (a : Nat → Int) : Value := .agg [vi (a 0), vi (a 1), vi (a 2), vi (a 3), vi (a 4), vi (a 5)].toArray
def zeros : Nat → Int := fun _ => 0
/-- The answer, as chamber.do and as Do give it. -/
def ansV (a g : Nat → Int) (r : Value) : Value := .tuple [sV a, gV g, r].toArray
theorem sV_congr {a b : Nat → Int} (h : ∀ i, i < 8 → a i = b i) : sV a = sV b := by
  simp only [sV, h 0 (by omega), h 1 (by omega), h 2 (by omega), h 3 (by omega), h 4 (by omega), h 5 (by omega), h 6 (by omega), h 7 (by omega)]
theorem gV_congr {a b : Nat → Int} (h : ∀ i, i < 6 → a i = b i) : gV a = gV b := by
  simp only [gV, h 0 (by omega), h 1 (by omega), h 2 (by omega), h 3 (by omega), h 4 (by omega), h 5 (by omega)]
/-- Both functions. -/
def Both (z : Nat → Int) (a g : Nat → Int) (ok : Bool) : Prop :=
  Gives (Fence.there P) 68 #[cavV z, stV z, opV z] (ansV a g (.bool ok)) ∧ Gives (Fence.there P) 29 #[cavV z, stV z, opV z] (ansV a g (vi (if ok then 0 else 7)))
theorem both_of {z a g : Nat → Int} {ok : Bool} {r1 r2 : Value} (h1 : Gives (Fence.there P) 68 #[cavV z, stV z, opV z] r1) (h2 : Gives (Fence.there P) 29 #[cavV z, stV z, opV z] r2)
    (e1 : r1 = ansV a g (.bool ok)) (e2 : r2 = ansV a g (vi (if ok then 0 else 7))) : Both z a g ok := by
  subst e1; subst e2; exact ⟨h1, h2⟩

section
variable {z : Nat → Int} (hc : cavP z) (hs : stP z)
include hc hs
theorem do_inject (ho : op1 z) : (z 12 + z 19 ≤ 1000000 ∧ z 14 + z 20 ≤ 1000000 ∧ z 18 + z 22 ≤ 1000000000 → Both z (aft1 z) zeros true) ∧ (¬ (z 12 + z 19 ≤ 1000000 ∧ z 14 + z 20 ≤ 1000000 ∧ z 18 + z 22 ≤ 1000000000) → Both z zeros zeros false) := by
  have hb := sm_in hc hs ho
  by_cases hC : 0 < cm z
  · have hv : VRs (envZ (zI z)) a_IA (#[cavV z, stV z, opV z] : Array Value).toList :=
      three (vr_cav (z := zI z) hc) (vr_st (z := zI z) hs) (vr_inj (z := zI z) (m := 1000000) ho (by simp only [op1] at ho; simp only [zI]; omega) (by simp only [op1] at ho; simp only [zI]; omega))
    refine ⟨fun ⟨h1, h2, h3⟩ => ?_, fun hn => ?_⟩
    · have hh := holds_IA hc hs ho hC h1 h2 h3
      have ord := mx_ord hc hs ho hC
      have w1 : warmT z (sm z 11 13) (z 15) = zI z 60 := by unfold warmT; rw [if_neg (by omega)]; rfl
      have w2 : warmT z (sm z 12 14) (z 15) = zI z 66 := by unfold warmT; rw [if_neg (by omega)]; rfl
      have w3 : warmT z (sm z 11 13) (z 16) = zI z 61 := by unfold warmT; rw [if_neg (by omega)]; rfl
      have w4 : warmT z (sm z 12 14) (z 16) = zI z 67 := by unfold warmT; rw [if_neg (by omega)]; rfl
      have e4 := min4 ord.2.1
      have e5 := max7 ord.1.2.1 ord.1.2.2.1 ord.1.2.2.2 ord.2.2
      have e4' : aft1 z 4 = sxOp 3 (sxOp 3 (sxOp 3 (zI z 60) (zI z 62)) (zI z 64)) (zI z 66) := by rw [e4]; show sxOp 3 _ _ = _; rw [w1, w2]
      have e5' : aft1 z 5 = sxOp 4 (sxOp 4 (sxOp 4 (sxOp 4 (sxOp 4 (sxOp 4 (zI z 61) (zI z 62)) (zI z 63)) (zI z 64)) (zI z 65)) (zI z 66)) (zI z 67) := by rw [e5]; show sxOp 4 _ _ = _; rw [w3, w4]
      refine both_of (gives_of c68_IA rfl rfl rfl (zI z) hh _ hv) (gives_of c29_IA rfl rfl rfl (zI z) hh _ hv) ?_ ?_
      · simp only [ansV, sV, e4', e5']; rfl
      · simp only [ansV, sV, e4', e5']; rfl
    · by_cases hg : 1000000 < z 12 + z 19
      · exact both_of (gives_of c68_IG rfl rfl rfl (zI z) (holds_IG hc hs ho hC hg) _ hv) (gives_of c29_IG rfl rfl rfl (zI z) (holds_IG hc hs ho hC hg) _ hv) rfl rfl
      by_cases hh : 1000000 < z 14 + z 20
      · exact both_of (gives_of c68_IH rfl rfl rfl (zI z) (holds_IH hc hs ho hC (by omega) hh) _ hv) (gives_of c29_IH rfl rfl rfl (zI z) (holds_IH hc hs ho hC (by omega) hh) _ hv) rfl rfl
      · have hk := holds_IW hc hs ho hC (by omega) (by omega) (show 1000000000 < z 18 + z 22 by omega)
        exact both_of (gives_of c68_IW rfl rfl rfl (zI z) hk _ hv) (gives_of c29_IW rfl rfl rfl (zI z) hk _ hv) rfl rfl
  · have h0 : z 19 = 0 ∧ z 20 = 0 := by
      have hc' := hc; have ho' := ho
      simp only [cavP, op1] at hc' ho'
      have a1 : z 19 ≤ z 19 * z 6 := by have := Int.mul_le_mul_of_nonneg_left (show 1 ≤ z 6 by omega) (show 0 ≤ z 19 by omega); omega
      have a2 : z 20 ≤ z 20 * z 7 := by have := Int.mul_le_mul_of_nonneg_left (show 1 ≤ z 7 by omega) (show 0 ≤ z 20 by omega); omega
      simp only [cm] at hC
      omega
    have hC0 : cm z = 0 := by omega
    have wt : ∀ S T : Int, 0 ≤ S → warmT z S T = T := fun S T hS => by
      unfold warmT
      by_cases h : S + cm z = 0
      · rw [if_pos h]
      · rw [if_neg h]; unfold mx; rw [hC0, Int.zero_mul, Int.add_zero, Int.add_zero]; exact Int.mul_tdiv_cancel_left _ (by omega)
    have sx3s : ∀ a : Int, sxOp 3 a a = a := fun a => sx3_l (Int.le_refl _)
    have sx4s : ∀ a : Int, sxOp 4 a a = a := fun a => sx4_l (Int.le_refl _)
    have hv : VRs (envZ (zZ z)) a_IZ0 (#[cavV z, stV z, opV z] : Array Value).toList :=
      three (vr_cav (z := zZ z) hc) (vr_st (z := zZ z) hs) (vr_inj (z := zZ z) (m := 0) ho (by simp only [zZ]; omega) (by simp only [zZ]; omega))
    obtain ⟨b0, b1, b2, b3, _, m1, m2, m3, m4⟩ := hb
    have e0 : aft1 z 0 = z 11 := by simp only [aft1]; omega
    have e1 : aft1 z 1 = z 12 := by simp only [aft1]; omega
    have e2 : aft1 z 2 = z 13 := by simp only [aft1]; omega
    have e3 : aft1 z 3 = z 14 := by simp only [aft1]; omega
    have e4 : aft1 z 4 = z 15 := by simp only [aft1]; rw [wt _ _ b0.1, wt _ _ b3.1, sx3s]
    have e5 : aft1 z 5 = z 16 := by simp only [aft1]; rw [wt _ _ b0.1, wt _ _ b3.1, sx4s]
    have hs' := hs
    simp only [stP] at hs'
    refine ⟨fun ⟨_, _, hw⟩ => ?_, fun hn => ?_⟩
    · have fin : ∀ r : Value, ansV (aft1 z) zeros r = .tuple [.agg [vi (z 11), vi (z 12), vi (z 13), vi (z 14), vi (z 15), vi (z 16), vi (z 17 + z 22), vi (z 18 + z 22)].toArray, gV zeros, r].toArray := fun r => by
        simp only [ansV, sV, e0, e1, e2, e3, e4, e5]; rfl
      by_cases k0 : sm z 11 13 = 0
      · by_cases k1 : sm z 11 14 = 0
        · by_cases k2 : sm z 12 13 = 0
          · have k3 : sm z 12 14 = 0 := by simp only [sm] at *; omega
            have hk := holds_IZ4 hc hs ho k0 k1 k2 k3 hw
            exact both_of (gives_of c68_IZ4 rfl rfl rfl (zZ z) hk _ hv) (gives_of c29_IZ4 rfl rfl rfl (zZ z) hk _ hv) (by rw [fin]; rfl) (by rw [fin]; rfl)
          · have hk := holds_IZ2 hc hs ho k0 k1 (by omega) (by omega) hw
            exact both_of (gives_of c68_IZ2 rfl rfl rfl (zZ z) hk _ hv) (gives_of c29_IZ2 rfl rfl rfl (zZ z) hk _ hv) (by rw [fin]; rfl) (by rw [fin]; rfl)
        · by_cases k2 : sm z 12 13 = 0
          · have hk := holds_IZ3 hc hs ho k0 (by omega) k2 (by omega) hw
            exact both_of (gives_of c68_IZ3 rfl rfl rfl (zZ z) hk _ hv) (gives_of c29_IZ3 rfl rfl rfl (zZ z) hk _ hv) (by rw [fin]; rfl) (by rw [fin]; rfl)
          · have hk := holds_IZ1 hc hs ho k0 (by omega) (by omega) (by omega) hw
            exact both_of (gives_of c68_IZ1 rfl rfl rfl (zZ z) hk _ hv) (gives_of c29_IZ1 rfl rfl rfl (zZ z) hk _ hv) (by rw [fin]; rfl) (by rw [fin]; rfl)
      · have hk := holds_IZ0 hc hs ho (by omega) (by omega) (by omega) (by omega) hw
        exact both_of (gives_of c68_IZ0 rfl rfl rfl (zZ z) hk _ hv) (gives_of c29_IZ0 rfl rfl rfl (zZ z) hk _ hv) (by rw [fin]; rfl) (by rw [fin]; rfl)
    · have hw : 1000000000 < z 18 + z 22 := by omega
      by_cases k0 : sm z 11 13 = 0
      · by_cases k1 : sm z 11 14 = 0
        · by_cases k2 : sm z 12 13 = 0
          · have k3 : sm z 12 14 = 0 := by simp only [sm] at *; omega
            have hk := holds_IY4 hc hs ho k0 k1 k2 k3 hw
            exact both_of (gives_of c68_IY4 rfl rfl rfl (zZ z) hk _ hv) (gives_of c29_IY4 rfl rfl rfl (zZ z) hk _ hv) rfl rfl
          · have hk := holds_IY2 hc hs ho k0 k1 (by omega) (by omega) hw
            exact both_of (gives_of c68_IY2 rfl rfl rfl (zZ z) hk _ hv) (gives_of c29_IY2 rfl rfl rfl (zZ z) hk _ hv) rfl rfl
        · by_cases k2 : sm z 12 13 = 0
          · have hk := holds_IY3 hc hs ho k0 (by omega) k2 (by omega) hw
            exact both_of (gives_of c68_IY3 rfl rfl rfl (zZ z) hk _ hv) (gives_of c29_IY3 rfl rfl rfl (zZ z) hk _ hv) rfl rfl
          · have hk := holds_IY1 hc hs ho k0 (by omega) (by omega) (by omega) hw
            exact both_of (gives_of c68_IY1 rfl rfl rfl (zZ z) hk _ hv) (gives_of c29_IY1 rfl rfl rfl (zZ z) hk _ hv) rfl rfl
      · have hk := holds_IY0 hc hs ho (by omega) (by omega) (by omega) (by omega) hw
        exact both_of (gives_of c68_IY0 rfl rfl rfl (zZ z) hk _ hv) (gives_of c29_IY0 rfl rfl rfl (zZ z) hk _ hv) rfl rfl
theorem do_withdraw (ho : op2 z) : (z 23 ≤ z 11 + z 13 → Both z (aft2 z) (gon2 z) true) ∧ (¬ z 23 ≤ z 11 + z 13 → Both z zeros zeros false) := by
  have ho' := ho; have hs' := hs
  simp only [op2, stP] at ho' hs'
  refine ⟨fun h0 => ?_, fun h0 => ?_⟩
  · by_cases h1 : 1 ≤ z 11 + z 13
    · have hv : VRs (envZ (zW z)) a_W1 (#[cavV z, stV z, opV z] : Array Value).toList := three (vr_cav (z := zW z) hc) (vr_st (z := zW z) hs) (vr_wit (z := zW z) ho (by simp only [zW]; omega))
      have hk := holds_W1 hc hs ho h1 h0
      exact both_of (gives_of c68_W1 rfl rfl rfl (zW z) hk _ hv) (gives_of c29_W1 rfl rfl rfl (zW z) hk _ hv) rfl rfl
    · have hw := vr_wit (z := z) (m := 0) ho (by omega)
      have hm : z 23 = 0 := by omega
      have q0 : ∀ h A : Int, qt z h A = 0 := fun h A => by unfold qt; rw [hm, Int.zero_mul]; exact Int.zero_tdiv _
      have g0 : gV (gon2 z) = gV zeros := gV_congr fun i hi => by
        unfold gon2; split <;> simp only [q0, hm, zeros] <;> rfl
      have s0 : sV (aft2 z) = .agg [vi (z 11), vi (z 12), vi (z 13), vi (z 14), vi (z 15), vi (z 16), vi (z 17), vi (z 18)].toArray := by
        simp only [sV, aft2, q0, hm, Int.sub_zero]
      have fin : ∀ r : Value, ansV (aft2 z) (gon2 z) r = .tuple [.agg [vi (z 11), vi (z 12), vi (z 13), vi (z 14), vi (z 15), vi (z 16), vi (z 17), vi (z 18)].toArray, gV zeros, r].toArray := fun r => by
        simp only [ansV, s0, g0]
      have z11 : z 11 = 0 := by omega
      have z13 : z 13 = 0 := by omega
      by_cases h2 : z 14 = 0
      · by_cases h3 : z 12 = 0
        · have hv := three (vr_cav hc) (vr_stZ (lh := (0, 0)) (lg := (0, 0)) hs (by omega) (by omega) (by simp only; omega) (by simp only; omega) (by simp only; omega) (by simp only; omega)) hw
          refine both_of (gives_of c68_WZ3 rfl rfl rfl z (holds_WZ3 hc hs) _ hv) (gives_of c29_WZ3 rfl rfl rfl z (holds_WZ3 hc hs) _ hv) ?_ ?_
          · rw [fin, show z 12 = z 11 by omega, show z 14 = z 13 by omega]; rfl
          · rw [fin, show z 12 = z 11 by omega, show z 14 = z 13 by omega]; rfl
        · have hv := three (vr_cav hc) (vr_stZ (lh := (0, 0)) (lg := (1, 1000000)) hs (by omega) (by omega) (by simp only; omega) (by simp only; omega) (by simp only; omega) (by simp only; omega)) hw
          refine both_of (gives_of c68_WZ1 rfl rfl rfl z (holds_WZ1 hc hs) _ hv) (gives_of c29_WZ1 rfl rfl rfl z (holds_WZ1 hc hs) _ hv) ?_ ?_
          · rw [fin, show z 14 = z 13 by omega]; rfl
          · rw [fin, show z 14 = z 13 by omega]; rfl
      · by_cases h3 : z 12 = 0
        · have hv := three (vr_cav hc) (vr_stZ (lh := (1, 1000000)) (lg := (0, 0)) hs (by omega) (by omega) (by simp only; omega) (by simp only; omega) (by simp only; omega) (by simp only; omega)) hw
          refine both_of (gives_of c68_WZ2 rfl rfl rfl z (holds_WZ2 hc hs) _ hv) (gives_of c29_WZ2 rfl rfl rfl z (holds_WZ2 hc hs) _ hv) ?_ ?_
          · rw [fin, show z 12 = z 11 by omega]; rfl
          · rw [fin, show z 12 = z 11 by omega]; rfl
        · have hv := three (vr_cav hc) (vr_stZ (lh := (1, 1000000)) (lg := (1, 1000000)) hs (by omega) (by omega) (by simp only; omega) (by simp only; omega) (by simp only; omega) (by simp only; omega)) hw
          refine both_of (gives_of c68_WZ0 rfl rfl rfl z (holds_WZ0 hc hs) _ hv) (gives_of c29_WZ0 rfl rfl rfl z (holds_WZ0 hc hs) _ hv) ?_ ?_
          · rw [fin]; rfl
          · rw [fin]; rfl
  · have hv := three (vr_cav hc) (vr_st hs) (vr_wit (m := 2000000) ho (by omega))
    exact both_of (gives_of c68_W0 rfl rfl rfl z (holds_W0 hc hs ho (by omega)) _ hv) (gives_of c29_W0 rfl rfl rfl z (holds_W0 hc hs ho (by omega)) _ hv) rfl rfl
theorem do_rest (ho : op3 z) : (z 18 + z 27 ≤ 1000000000 → Both z (aft3 z) zeros true) ∧ (¬ z 18 + z 27 ≤ 1000000000 → Both z zeros zeros false) := by
  have hv : VRs (envZ (zR z)) a_RA (#[cavV z, stV z, opV z] : Array Value).toList :=
    three (vr_cav (z := zR z) hc) (vr_st (z := zR z) hs) (vr_rst (z := zR z) ho)
  refine ⟨fun h => ?_, fun h => ?_⟩
  · have hk := holds_RA hc hs ho h
    have e5 : aft3 z 5 = sxOp 4 (sxOp 4 (sxOp 4 (nr z 15 24) (nr z 15 25)) (nr z 16 24)) (nr z 16 25) := by
      have := EqsP.of hk G_RA.eqs (fun _ h => h)
      exact this.1.symm
    refine both_of (gives_of c68_RA rfl rfl rfl (zR z) hk _ hv) (gives_of c29_RA rfl rfl rfl (zR z) hk _ hv) ?_ ?_
    · simp only [ansV, sV, e5]; rfl
    · simp only [ansV, sV, e5]; rfl
  · have hk := holds_RW hc hs ho (show 1000000000 < z 18 + z 27 by omega)
    exact both_of (gives_of c68_RW rfl rfl rfl (zR z) hk _ hv) (gives_of c29_RW rfl rfl rfl (zR z) hk _ hv) rfl rfl
end
end Go.Ev.Gas
end

