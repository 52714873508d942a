import Derived.Test.YtdpegcimhhegmaaMoreA
set_option linter.unusedVariables false
set_option linter.unusedSimpArgs false
set_option linter.unusedSectionVars false
noncomputable section
set_option maxRecDepth 1000000
set_option maxHeartbeats 0
namespace Go.Ev.Gas
noncomputable def nA : AV plain := .agg [iv 80 0 1000000, iv 12 0 1000000, iv 13 0 1000000, iv 81 0 1000000, iv 82 2000 5000, iv 16 2000 5000, iv 17 0 1000000000, iv 83 0 1000000000]
noncomputable def xA : AV plain := .agg [iv 90 0 1000000, iv 91 0 1000000, iv 92 0 1000000, iv 93 0 1000000, iv 94 2000 5000, iv 95 2000 5000, iv 96 0 1000000000, iv 97 0 1000000000]
noncomputable def yA : AV plain := .agg [iv 110 0 1000000, iv 111 0 1000000, iv 112 0 1000000, iv 113 0 1000000, iv 114 2000 5000, iv 115 2000 5000, iv 116 0 1000000000, iv 117 0 1000000000]
noncomputable def gxA : AV plain := .agg [rv 100, rv 101, rv 102, rv 103, rv 104, rv 105]
noncomputable def gyA : AV plain := .agg [rv 120, rv 121, rv 122, rv 123, rv 124, rv 125]
noncomputable def z6A : AV plain := .agg [Z, Z, Z, Z, Z, Z]
noncomputable def z8A : AV plain := .agg [Z, Z, Z, Z, Z, Z, Z, Z]
noncomputable def moreN : List (SX × Nat × Int × Int) := [((.bin 0 (.v 11) (.bin 4 (.c 0) (.bin 3 (.v 40) (.bin 1 (.v 12) (.v 11))))), 80, 0, 1000000), ((.bin 1 (.v 14) (.bin 4 (.c 0) (.bin 3 (.v 41) (.bin 1 (.v 14) (.v 13))))), 81, 0, 1000000), ((.bin 0 (.v 15) (.bin 4 (.c 0) (.bin 3 (.v 42) (.bin 1 (.v 16) (.v 15))))), 82, 2000, 5000), ((.bin 1 (.v 18) (.bin 4 (.c 0) (.bin 3 (.v 43) (.bin 1 (.v 18) (.v 17))))), 83, 0, 1000000000)]
noncomputable def innL : List (SX × SX × Bool) := [((.v 110), (.v 90), false), ((.v 91), (.v 111), false), ((.v 112), (.v 92), false), ((.v 93), (.v 113), false), ((.v 114), (.v 94), false), ((.v 95), (.v 115), false), ((.v 116), (.v 96), false), ((.v 97), (.v 117), false)]
noncomputable def trL : List (SX × SX × Bool) := [(.v 25, .v 24, false), (.v 27, .v 26, false)]
noncomputable def kDo (s o x g : AV plain) (e : Int) : KC := { f := 29, args := [cavA, s, o], res := .ret (.tuple [x, g, .int .i64 e]) }
noncomputable def oW : AV plain := .agg [one 2, Z, Z, Z, Z, Z, Z, Z, Z, Z]
noncomputable def oI (h : AV plain) : AV plain := .agg [one 1, Z, Z, h, Z, Z, Z, Z, Z, Z]
noncomputable def oR : AV plain := .agg [one 3, Z, Z, Z, Z, Z, Z, Z, Z, Z]
noncomputable def kS (o : AV plain) : KC := kDo stA o stA z6A 0
noncomputable def kMore (o : AV plain) : KC := { f := 14, obj := some [rv 40, rv 41, rv 42, rv 43], args := [cavA, stA, o, .slice 0 0 4 1 true], res := .ret (.bool true) }
noncomputable def gM (l : List (SX × SX × Bool)) (p : (Nat → Value) → Prop) : Ctx := ⟨moreN, cavL ++ stL ++ l, [], p⟩
end Go.Ev.Gas
end

noncomputable section
set_option maxRecDepth 1000000
set_option maxHeartbeats 0
namespace Go.Ev.Gas
open Go.RowKit Go.Ev.Num
mutual
/-- The bounds of a plain value are kept. -/
def bnd (o : Nat → Value) : AV plain → Prop
  | .sx x lo hi => lo ≤ x.eval o ∧ x.eval o ≤ hi
  | .agg cs => bnds o cs
  | .tuple cs => bnds o cs
  | _ => True
def bnds (o : Nat → Value) : List (AV plain) → Prop
  | [] => True
  | a :: r => bnd o a ∧ bnds o r
end
mutual
theorem vr_val {e : Env plain} : ∀ (a : AV plain), pureA a = true → bnd e.opq a → VR e a (valOf e.opq a)
  | .bool b, _, _ => by simp only [VR, valOf]
  | .int k n, _, _ => by simp only [VR, valOf]
  | .sx x lo hi, _, h => by simp only [VR, valOf]; simp only [bnd] at h; exact ⟨trivial, h⟩
  | .agg cs, hp, h => by
    simp only [VR, valOf]
    exact ⟨_, rfl, vrs_val cs (by simpa only [pureA] using hp) (by simpa only [bnd] using h)⟩
  | .tuple cs, hp, h => by
    simp only [VR, valOf]
    exact ⟨_, rfl, vrs_val cs (by simpa only [pureA] using hp) (by simpa only [bnd] using h)⟩
theorem vrs_val {e : Env plain} : ∀ (a : List (AV plain)), puresA a = true → bnds e.opq a → VRs e a (valsOf e.opq a)
  | [], _, _ => by simp only [VRs, valsOf]
  | a :: r, hp, h => by
    simp only [puresA, Bool.and_eq_true] at hp
    simp only [bnds] at h
    simp only [VRs, valsOf]
    exact ⟨_, _, rfl, vr_val a hp.1 h.1, vrs_val r hp.2 h.2⟩
end
/-- A contract for whoever knows it of numbers. -/
theorem con_val {H : (Nat → Value) → Prop} {k : KC} {a : AV plain} (ho : k.obj = none) (hr : k.res = .ret a) (hpa : puresA k.args = true) (hp : pureA a = true)
    (h : ∀ o, H o → Gives (Fence.there P) k.f (valsOf o k.args).toArray (valOf o a) ∧ bnd o a) : Con P (Fence.there P) H k := by
  intro o h1 hH e0 ps vs w n he _ hv
  obtain ⟨hg, hb⟩ := h o hH
  have := vals_of k.args vs.toList hpa hv
  rw [he] at this
  have hvs : vs = (valsOf o k.args).toArray := by rw [← this]
  rw [hvs]
  refine (hg n w).mono fun e w' ⟨h3, h4⟩ => ⟨?_, h4⟩
  rw [hr]
  exact ⟨valOf o a, h3, e0, he, by rw [← he] at hb ⊢; exact vr_val a hp hb⟩

/-! ### Any operation -/
def aft (z : Nat → Int) : Nat → Int := if z 28 = 1 then aft1 z else if z 28 = 2 then aft2 z else aft3 z
def gon (z : Nat → Int) : Nat → Int := if z 28 = 2 then gon2 z else zeros
def can (z : Nat → Int) : Prop := (z 28 = 1 ∧ z 12 + z 19 ≤ 1000000 ∧ z 14 + z 20 ≤ 1000000 ∧ z 18 + z 22 ≤ 1000000000) ∨ (z 28 = 2 ∧ z 23 ≤ z 11 + z 13) ∨ (z 28 = 3 ∧ z 18 + z 27 ≤ 1000000000)
theorem do_all {z : Nat → Int} (hc : cavP z) (hs : stP z) (ho : opP z) : (can z → Both z (aft z) (gon z) true) ∧ (¬ can z → Both z zeros zeros false) := by
  rcases ho with h | h | h
  · have k : z 28 = 1 := h.1
    have e1 : aft z = aft1 z := by unfold aft; rw [if_pos k]
    have e2 : gon z = zeros := by unfold gon; rw [if_neg (by omega)]
    have := do_inject hc hs h
    rw [e1, e2]
    exact ⟨fun c => this.1 (by simp only [can] at c; omega), fun c => this.2 (by simp only [can] at c; omega)⟩
  · have k : z 28 = 2 := h.1
    have e1 : aft z = aft2 z := by unfold aft; rw [if_neg (by omega), if_pos k]
    have e2 : gon z = gon2 z := by unfold gon; rw [if_pos k]
    have := do_withdraw hc hs h
    rw [e1, e2]
    exact ⟨fun c => this.1 (by simp only [can] at c; omega), fun c => this.2 (by simp only [can] at c; omega)⟩
  · have k : z 28 = 3 := h.1
    have e1 : aft z = aft3 z := by unfold aft; rw [if_neg (by omega), if_neg (by omega)]
    have e2 : gon z = zeros := by unfold gon; rw [if_neg (by omega)]
    have := do_rest hc hs h
    rw [e1, e2]
    exact ⟨fun c => this.1 (by simp only [can] at c; omega), fun c => this.2 (by simp only [can] at c; omega)⟩
theorem part_ge {M g h : Int} (_hM : 0 ≤ M) (hg : 0 ≤ g) (hA : 0 < g + h) (hm : M ≤ g + h) : M - g ≤ Num.part M h (g + h) := by
  show M - g ≤ M * h / (g + h)
  rw [Int.le_ediv_iff_mul_le hA]
  have := Int.mul_le_mul_of_nonneg_left hm hg
  have e : (M - g) * (g + h) = M * h + g * M - g * (g + h) := by grind
  omega
/-- What is behind an operation that can be done is a state. -/
def StI (a : Nat → Int) : Prop := (0 ≤ a 0 ∧ a 0 ≤ a 1 ∧ a 1 ≤ 1000000) ∧ (0 ≤ a 2 ∧ a 2 ≤ a 3 ∧ a 3 ≤ 1000000) ∧ (2000 ≤ a 4 ∧ a 4 ≤ a 5 ∧ a 5 ≤ 5000) ∧ (0 ≤ a 6 ∧ a 6 ≤ a 7 ∧ a 7 ≤ 1000000000)
def GoI (g : Nat → Int) : Prop := ∀ i, -9223372036854775808 ≤ g i ∧ g i ≤ 9223372036854775807
theorem sx_mm {a b c d lo hi : Int} (h1 : lo ≤ a) (h2 : lo ≤ b) (h3 : c ≤ hi) (h4 : d ≤ hi) (h5 : a ≤ c) : lo ≤ sxOp 3 a b ∧ sxOp 3 a b ≤ sxOp 4 c d ∧ sxOp 4 c d ≤ hi := by
  refine ⟨sx3_ge h1 h2, ?_, sx4_le h3 h4⟩
  have e1 : sxOp 3 a b ≤ a := by show (if _ < _ then _ else _) ≤ _; split <;> omega
  have e2 : c ≤ sxOp 4 c d := by show _ ≤ (if _ > _ then _ else _); split <;> omega
  omega
theorem aft_in {z : Nat → Int} (hc : cavP z) (hs : stP z) (ho : opP z) (h : can z) : StI (aft z) ∧ GoI (gon z) := by
  rcases ho with k | k | k
  · have k1 : z 28 = 1 := k.1
    have e1 : aft z = aft1 z := by unfold aft; rw [if_pos k1]
    have e2 : gon z = zeros := by unfold gon; rw [if_neg (by omega)]
    rw [e1, e2]
    refine ⟨?_, fun i => ⟨by simp only [zeros]; omega, by simp only [zeros]; omega⟩⟩
    have hb := sm_in hc hs k
    have hw : ∀ S T : Int, 0 ≤ S → 2000 ≤ T → T ≤ 5000 → 2000 ≤ wt S (cm z) T (z 21) ∧ wt S (cm z) T (z 21) ≤ 5000 := fun S T a b c => by
      by_cases hC : cm z = 0
      · rw [hC, wt_zero]; exact ⟨b, c⟩
      · unfold wt; rw [if_neg (by omega)]; exact mx_in hc hs k (by omega) a b c
    have hs' := hs; have k' := k
    simp only [stP, op1, can] at hs' k' h
    have w1 := hw (sm z 11 13) (z 15) hb.1.1 (by omega) (by omega)
    have w2 := hw (sm z 12 14) (z 15) hb.2.2.2.1.1 (by omega) (by omega)
    have w3 := hw (sm z 11 13) (z 16) hb.1.1 (by omega) (by omega)
    have w4 := hw (sm z 12 14) (z 16) hb.2.2.2.1.1 (by omega) (by omega)
    refine ⟨?_, ?_, ?_, ?_⟩
    · simp only [aft1]; omega
    · simp only [aft1]; omega
    · exact sx_mm w1.1 w2.1 w3.2 w4.2 (wt_T hb.1.1 hb.2.2.2.2.1.1 (by omega) (by omega) (by omega))
    · simp only [aft1]; omega
  · have k1 : z 28 = 2 := k.1
    have e1 : aft z = aft2 z := by unfold aft; rw [if_neg (by omega), if_pos k1]
    have e2 : gon z = gon2 z := by unfold gon; rw [if_pos k1]
    rw [e1, e2]
    have hs' := hs; have k' := k
    simp only [stP, op2, can] at hs' k' h
    by_cases h1 : 1 ≤ z 11 + z 13
    · have q := qt_all hs k h1 (by omega)
      simp only [zW] at q
      have pg : z 23 - z 11 ≤ qt z (z 13) (am z 11 13) := by rw [qt_eq (by omega) (by omega)]; exact part_ge (by omega) (by omega) (by omega) (by omega)
      refine ⟨?_, fun i => ?_⟩
      · refine ⟨?_, ?_, ?_, ?_⟩ <;> simp only [aft2] <;> omega
      · unfold gon2; split <;> omega
    · have hz : z 23 = 0 := by omega
      have q0 : ∀ h A : Int, qt z h A = 0 := fun h A => by unfold qt; rw [hz, Int.zero_mul]; exact Int.zero_tdiv _
      refine ⟨?_, fun i => ?_⟩
      · refine ⟨?_, ?_, ?_, ?_⟩ <;> simp only [aft2, q0, hz] <;> omega
      · unfold gon2; split <;> simp only [q0, hz] <;> omega
  · have k1 : z 28 = 3 := k.1
    have e1 : aft z = aft3 z := by unfold aft; rw [if_neg (by omega), if_neg (by omega)]
    have e2 : gon z = zeros := by unfold gon; rw [if_neg (by omega)]
    rw [e1, e2]
    refine ⟨?_, fun i => ⟨by simp only [zeros]; omega, by simp only [zeros]; omega⟩⟩
    have o := nr_ord hc hs k
    simp only [cavP, stP, op3, can] at hc hs k h
    have q : ∀ (t s : Nat), 0 ≤ z s → z s ≤ 1000 → 2000 ≤ z t → z t ≤ 5000 → 2000 ≤ nr z t s ∧ nr z t s ≤ 5000 := fun t s a b c d => near_in a b (by omega) (by omega) c d
    refine ⟨?_, ?_, ?_, ?_⟩
    · simp only [aft3]; omega
    · simp only [aft3]; omega
    · exact sx_mm (q 15 24 (by omega) (by omega) (by omega) (by omega)).1 (q 15 25 (by omega) (by omega) (by omega) (by omega)).1 (q 16 24 (by omega) (by omega) (by omega) (by omega)).2 (q 16 25 (by omega) (by omega) (by omega) (by omega)).2 o.1
    · simp only [aft3]; omega
/-- More is known: as much can be done, and more is known behind it. -/
theorem more_all {z y : Nat → Int} (hc : cavP z) (hs : stP z) (hy : stP y) (hi : In z y) (ho : opP z) (h : can z) : can y ∧ Inner (aft z) (aft y) := by
  have e28 := hi.op 28 (by omega); have e19 := hi.op 19 (by omega); have e20 := hi.op 20 (by omega); have e22 := hi.op 22 (by omega); have e23 := hi.op 23 (by omega); have e27 := hi.op 27 (by omega)
  have i3 := hi.gas; have i4 := hi.hyd; have i6 := hi.water
  refine ⟨by simp only [can] at h ⊢; omega, ?_⟩
  rcases ho with k | k | k
  · have k1 : z 28 = 1 := k.1
    rw [show aft z = aft1 z by unfold aft; rw [if_pos k1], show aft y = aft1 y by unfold aft; rw [if_pos (by omega)]]
    exact more1 hc hs hy hi k
  · have k1 : z 28 = 2 := k.1
    rw [show aft z = aft2 z by unfold aft; rw [if_neg (by omega), if_pos k1], show aft y = aft2 y by unfold aft; rw [if_neg (by omega), if_pos (by omega)]]
    exact more2 hc hs hy hi k (by simp only [can] at h; omega)
  · have k1 : z 28 = 3 := k.1
    rw [show aft z = aft3 z by unfold aft; rw [if_neg (by omega), if_neg (by omega)], show aft y = aft3 y by unfold aft; rw [if_neg (by omega), if_neg (by omega)]]
    exact more3 hc hs hy hi k
end Go.Ev.Gas
end

