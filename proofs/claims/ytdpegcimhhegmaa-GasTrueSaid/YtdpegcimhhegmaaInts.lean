import Derived.Test.YtdpegcimhhegmaaDo1
import Derived.Test.YtdpegcimhhegmaaDo2
import Derived.Test.YtdpegcimhhegmaaDo3
import Derived.Test.YtdpegcimhhegmaaNum
set_option linter.unusedVariables false
set_option linter.unusedSimpArgs false
set_option linter.unusedSectionVars false
noncomputable section
set_option maxRecDepth 100000
namespace Go.Ev.Gas
open Go.Ev.Num
theorem mulB {a b A B : Int} (h1 : 0 ≤ a) (h2 : a ≤ A) (h3 : 0 ≤ b) (h4 : b ≤ B) : 0 ≤ a * b ∧ a * b ≤ A * B :=
  ⟨Int.mul_nonneg h1 h3, Int.le_trans (Int.mul_le_mul_of_nonneg_right h2 h3) (Int.mul_le_mul_of_nonneg_left h4 (by omega))⟩
theorem quo_nn {a b : Int} (h : 0 ≤ a) : a.tdiv b = a / b := Int.tdiv_eq_ediv_of_nonneg h
theorem stay_w {M w d A : Int} (_hM : 0 ≤ M) (hMA : M ≤ A) (hd : 0 ≤ d) (hA : 0 < A) : w - Num.part M w A ≤ (w + d) - Num.part M (w + d) A := by
  have : Num.part M (w + d) A ≤ Num.part M w A + d := by
    have e : M * (w + d) ≤ M * w + d * A := by
      have := Int.mul_le_mul_of_nonneg_right hMA hd
      have e1 : M * (w + d) = M * w + M * d := by grind
      have e2 : d * A = A * d := by grind
      omega
    show M * (w + d) / A ≤ M * w / A + d
    rw [← Int.add_mul_ediv_right _ _ (show A ≠ 0 by omega)]
    exact Int.ediv_le_ediv hA e
  omega

/-! ### What a lot does to a state -/
def sm (z : Nat → Int) (g h : Nat) : Int := z g * z 6 + z h * z 7
def cm (z : Nat → Int) : Int := z 19 * z 6 + z 20 * z 7
def mx (S C T L : Int) : Int := (S * T + C * L).tdiv (S + C)
theorem mx_eq {S C T L : Int} (hS : 0 ≤ S) (hC : 0 ≤ C) (hT : 0 ≤ T) (hL : 0 ≤ L) : mx S C T L = mix S C T L := by
  have := Int.mul_nonneg hS hT; have := Int.mul_nonneg hC hL
  exact Int.tdiv_eq_ediv_of_nonneg (by omega)
def zI (z : Nat → Int) (i : Nat) : Int :=
  match i with
  | 50 => sm z 11 13 + cm z | 51 => sm z 11 14 + cm z | 52 => sm z 12 13 + cm z | 53 => sm z 12 14 + cm z
  | 60 => mx (sm z 11 13) (cm z) (z 15) (z 21) | 61 => mx (sm z 11 13) (cm z) (z 16) (z 21)
  | 62 => mx (sm z 11 14) (cm z) (z 15) (z 21) | 63 => mx (sm z 11 14) (cm z) (z 16) (z 21)
  | 64 => mx (sm z 12 13) (cm z) (z 15) (z 21) | 65 => mx (sm z 12 13) (cm z) (z 16) (z 21)
  | 66 => mx (sm z 12 14) (cm z) (z 15) (z 21) | 67 => mx (sm z 12 14) (cm z) (z 16) (z 21)
  | _ => z i

section
variable {z : Nat → Int} (hc : cavP z) (hs : stP z) (ho : op1 z)
include hc hs ho
theorem sm_in : (0 ≤ sm z 11 13 ∧ sm z 11 13 ≤ 200000000) ∧ (0 ≤ sm z 11 14 ∧ sm z 11 14 ≤ 200000000) ∧ (0 ≤ sm z 12 13 ∧ sm z 12 13 ≤ 200000000) ∧ (0 ≤ sm z 12 14 ∧ sm z 12 14 ≤ 200000000) ∧ (0 ≤ cm z ∧ cm z ≤ 200000000)
    ∧ sm z 11 13 ≤ sm z 11 14 ∧ sm z 11 13 ≤ sm z 12 13 ∧ sm z 11 14 ≤ sm z 12 14 ∧ sm z 12 13 ≤ sm z 12 14 := by
  simp only [cavP, stP, op1] at hc hs ho
  have h6 : 0 ≤ z 6 ∧ z 6 ≤ 100 := by omega
  have h7 : 0 ≤ z 7 ∧ z 7 ≤ 100 := by omega
  have a1 := mulB (a := z 11) (b := z 6) (A := 1000000) (B := 100) (by omega) (by omega) h6.1 h6.2
  have a2 := mulB (a := z 12) (b := z 6) (A := 1000000) (B := 100) (by omega) (by omega) h6.1 h6.2
  have a3 := mulB (a := z 13) (b := z 7) (A := 1000000) (B := 100) (by omega) (by omega) h7.1 h7.2
  have a4 := mulB (a := z 14) (b := z 7) (A := 1000000) (B := 100) (by omega) (by omega) h7.1 h7.2
  have a5 := mulB (a := z 19) (b := z 6) (A := 1000000) (B := 100) (by omega) (by omega) h6.1 h6.2
  have a6 := mulB (a := z 20) (b := z 7) (A := 1000000) (B := 100) (by omega) (by omega) h7.1 h7.2
  have b1 : z 11 * z 6 ≤ z 12 * z 6 := Int.mul_le_mul_of_nonneg_right (by omega) h6.1
  have b2 : z 13 * z 7 ≤ z 14 * z 7 := Int.mul_le_mul_of_nonneg_right (by omega) h7.1
  simp only [sm, cm]
  omega
theorem mx_in (hC : 0 < cm z) {S T : Int} (hS : 0 ≤ S) (h1 : 2000 ≤ T) (h2 : T ≤ 5000) : 2000 ≤ mx S (cm z) T (z 21) ∧ mx S (cm z) T (z 21) ≤ 5000 := by
  simp only [op1] at ho
  rw [mx_eq hS (by omega) (by omega) (by omega)]
  exact ⟨mix_ge hS (by omega) (by omega) h1 (by omega), mix_le hS (by omega) (by omega) h2 (by omega)⟩
/-- The names of what a lot makes of a state. -/
theorem names_I (hC : 0 < cm z) : NamesP (ov (zI z)) G_IA.names := by
  have hb := sm_in hc hs ho
  have hst := hs
  simp only [stP] at hst
  simp only [G_IA, NamesP, SX.eval, sxOp, valI, ov]
  have q {S T : Int} (hS : 0 ≤ S) (h1 : 2000 ≤ T) (h2 : T ≤ 5000) := mx_in hc hs ho hC hS h1 h2
  have q1 := q hb.1.1 (show 2000 ≤ z 15 by omega) (by omega)
  have q2 := q hb.1.1 (show 2000 ≤ z 16 by omega) (by omega)
  have q3 := q hb.2.1.1 (show 2000 ≤ z 15 by omega) (by omega)
  have q4 := q hb.2.1.1 (show 2000 ≤ z 16 by omega) (by omega)
  have q5 := q hb.2.2.1.1 (show 2000 ≤ z 15 by omega) (by omega)
  have q6 := q hb.2.2.1.1 (show 2000 ≤ z 16 by omega) (by omega)
  have q7 := q hb.2.2.2.1.1 (show 2000 ≤ z 15 by omega) (by omega)
  have q8 := q hb.2.2.2.1.1 (show 2000 ≤ z 16 by omega) (by omega)
  refine ⟨⟨rfl, ?_, ?_⟩, ⟨rfl, ?_, ?_⟩, ⟨rfl, ?_, ?_⟩, ⟨rfl, ?_, ?_⟩, ⟨rfl, q1⟩, ⟨rfl, q2⟩, ⟨rfl, q3⟩, ⟨rfl, q4⟩, ⟨rfl, q5⟩, ⟨rfl, q6⟩, ⟨rfl, q7⟩, ⟨rfl, q8⟩, trivial⟩ <;> simp only [zI] <;> omega
/-- The colder end is colder; the ends lie where least and most are stored. -/
theorem mx_ord (hC : 0 < cm z) :
    (zI z 60 ≤ zI z 61 ∧ zI z 62 ≤ zI z 63 ∧ zI z 64 ≤ zI z 65 ∧ zI z 66 ≤ zI z 67)
    ∧ ((zI z 60 ≤ zI z 62 ∧ zI z 62 ≤ zI z 66 ∧ zI z 60 ≤ zI z 64 ∧ zI z 64 ≤ zI z 66) ∨ (zI z 62 ≤ zI z 60 ∧ zI z 66 ≤ zI z 62 ∧ zI z 64 ≤ zI z 60 ∧ zI z 66 ≤ zI z 64))
    ∧ ((zI z 61 ≤ zI z 63 ∧ zI z 63 ≤ zI z 67 ∧ zI z 61 ≤ zI z 65 ∧ zI z 65 ≤ zI z 67) ∨ (zI z 63 ≤ zI z 61 ∧ zI z 67 ≤ zI z 63 ∧ zI z 65 ≤ zI z 61 ∧ zI z 67 ≤ zI z 65)) := by
  obtain ⟨⟨l1, _⟩, ⟨l2, _⟩, ⟨l3, _⟩, ⟨l4, _⟩, _, m1, m2, m3, m4⟩ := sm_in hc hs ho
  simp only [stP, op1] at hs ho
  have c0 : 0 ≤ cm z := by omega
  have t1 : 0 ≤ z 15 := by omega
  have t2 : 0 ≤ z 16 := by omega
  have t3 : 0 ≤ z 21 := by omega
  have t4 : z 15 ≤ z 16 := by omega
  simp only [zI]
  rw [mx_eq l1 c0 t1 t3, mx_eq l1 c0 t2 t3, mx_eq l2 c0 t1 t3, mx_eq l2 c0 t2 t3, mx_eq l3 c0 t1 t3, mx_eq l3 c0 t2 t3, mx_eq l4 c0 t1 t3, mx_eq l4 c0 t2 t3]
  refine ⟨⟨mix_T l1 (by omega) t4, mix_T l2 (by omega) t4, mix_T l3 (by omega) t4, mix_T l4 (by omega) t4⟩, ?_, ?_⟩
  · by_cases h : z 21 ≤ z 15
    · exact .inl ⟨mix_up l1 c0 (by omega) m1 h, mix_up l2 c0 (by omega) m3 h, mix_up l1 c0 (by omega) m2 h, mix_up l3 c0 (by omega) m4 h⟩
    · exact .inr ⟨mix_down l1 c0 (by omega) m1 (by omega), mix_down l2 c0 (by omega) m3 (by omega), mix_down l1 c0 (by omega) m2 (by omega), mix_down l3 c0 (by omega) m4 (by omega)⟩
  · by_cases h : z 21 ≤ z 16
    · exact .inl ⟨mix_up l1 c0 (by omega) m1 h, mix_up l2 c0 (by omega) m3 h, mix_up l1 c0 (by omega) m2 h, mix_up l3 c0 (by omega) m4 h⟩
    · exact .inr ⟨mix_down l1 c0 (by omega) m1 (by omega), mix_down l2 c0 (by omega) m3 (by omega), mix_down l1 c0 (by omega) m2 (by omega), mix_down l3 c0 (by omega) m4 (by omega)⟩
end
theorem sx3_l {a b : Int} (h : a ≤ b) : sxOp 3 a b = a := by show (if b < a then b else a) = a; rw [if_neg (by omega)]
theorem sx3_r {a b : Int} (h : b ≤ a) : sxOp 3 a b = b := by
  show (if b < a then b else a) = b
  by_cases h' : b < a
  · rw [if_pos h']
  · rw [if_neg h']; omega
theorem sx4_l {a b : Int} (h : b ≤ a) : sxOp 4 a b = a := by show (if b > a then b else a) = a; rw [if_neg (by omega)]
theorem sx4_r {a b : Int} (h : a ≤ b) : sxOp 4 a b = b := by
  show (if b > a then b else a) = b
  by_cases h' : b > a
  · rw [if_pos h']
  · rw [if_neg h']; omega
theorem sx3_ge {a b m : Int} (ha : m ≤ a) (hb : m ≤ b) : m ≤ sxOp 3 a b := by
  show m ≤ if b < a then b else a
  split <;> assumption
theorem sx4_le {a b m : Int} (ha : a ≤ m) (hb : b ≤ m) : sxOp 4 a b ≤ m := by
  show (if b > a then b else a) ≤ m
  split <;> assumption
theorem min4 {a b c d : Int} (h : (a ≤ b ∧ b ≤ d ∧ a ≤ c ∧ c ≤ d) ∨ (b ≤ a ∧ d ≤ b ∧ c ≤ a ∧ d ≤ c)) : sxOp 3 (sxOp 3 (sxOp 3 a b) c) d = sxOp 3 a d := by
  rcases h with h | h
  · rw [sx3_l h.1, sx3_l h.2.2.1]
  · rw [sx3_r (sx3_ge (sx3_ge (show d ≤ a by omega) h.2.1) h.2.2.2), sx3_r (by omega)]
theorem max7 {a a' b b' c c' d : Int} (hb : b ≤ b') (hc : c ≤ c') (hd : a' ≤ d) (h : (a ≤ b' ∧ b' ≤ d ∧ a ≤ c' ∧ c' ≤ d) ∨ (b' ≤ a ∧ d ≤ b' ∧ c' ≤ a ∧ d ≤ c')) : sxOp 4 (sxOp 4 (sxOp 4 (sxOp 4 (sxOp 4 (sxOp 4 a b) b') c) c') a') d = sxOp 4 a d := by
  rcases h with h | h
  · rw [sx4_r (sx4_le (sx4_le (sx4_le (sx4_le (sx4_le (show a ≤ d by omega) (by omega)) (by omega)) (by omega)) (by omega)) hd), sx4_r (by omega)]
  · rw [sx4_l (show b ≤ a by omega), sx4_l h.1, sx4_l (show c ≤ a by omega), sx4_l h.2.2.1, sx4_l (show a' ≤ a by omega)]
theorem holds_IA {z : Nat → Int} (hc : cavP z) (hs : stP z) (ho : op1 z) (hC : 0 < cm z) (hg : z 12 + z 19 ≤ 1000000) (hh : z 14 + z 20 ≤ 1000000) (hw : z 18 + z 22 ≤ 1000000000) : G_IA.holds (ov (zI z)) := by
  have ord := mx_ord hc hs ho hC
  refine holds_of (names_I hc hs ho hC) ?_ ?_ trivial
  · simp only [cavP, stP, op1] at hc hs ho
    simp only [zI] at ord
    simp only [G_IA, LtsP, SX.eval, sxOp, valI, ov, zI, and_true]
    omega
  · simp only [G_IA, EqsP, SX.eval, valI, ov, and_true]
    obtain ⟨o1, o2, o3⟩ := ord
    exact ⟨min4 o2, max7 o1.2.1 o1.2.2.1 o1.2.2.2 o3⟩
theorem holds_IG {z : Nat → Int} (hc : cavP z) (hs : stP z) (ho : op1 z) (hC : 0 < cm z) (hg : 1000000 < z 12 + z 19) : G_IG.holds (ov (zI z)) := by
  refine holds_of (names_I hc hs ho hC) ?_ ?_ trivial
  · simp only [cavP, stP, op1] at hc hs ho
    simp only [G_IG, LtsP, SX.eval, sxOp, valI, ov, zI, and_true]
    omega
  · simp only [G_IG, EqsP]
theorem holds_IH {z : Nat → Int} (hc : cavP z) (hs : stP z) (ho : op1 z) (hC : 0 < cm z) (hg : z 12 + z 19 ≤ 1000000) (hh : 1000000 < z 14 + z 20) : G_IH.holds (ov (zI z)) := by
  refine holds_of (names_I hc hs ho hC) ?_ ?_ trivial
  · simp only [cavP, stP, op1] at hc hs ho
    simp only [G_IH, LtsP, SX.eval, sxOp, valI, ov, zI, and_true]
    omega
  · simp only [G_IH, EqsP]
theorem holds_IW {z : Nat → Int} (hc : cavP z) (hs : stP z) (ho : op1 z) (hC : 0 < cm z) (hg : z 12 + z 19 ≤ 1000000) (hh : z 14 + z 20 ≤ 1000000) (hw : 1000000000 < z 18 + z 22) : G_IW.holds (ov (zI z)) := by
  refine holds_of (names_I hc hs ho hC) ?_ ?_ trivial
  · simp only [cavP, stP, op1] at hc hs ho
    simp only [G_IW, LtsP, SX.eval, sxOp, valI, ov, zI, and_true]
    omega
  · simp only [G_IW, EqsP]
/-! ### A lot that holds nothing -/
def zZ (z : Nat → Int) (i : Nat) : Int :=
  match i with
  | 50 => sm z 11 13 | 51 => sm z 11 14 | 52 => sm z 12 13 | 53 => sm z 12 14 | 98 => 0
  | _ => z i
theorem quo_self {a t : Int} (h : 1 ≤ a) : (a * t).tdiv a = t := Int.mul_tdiv_cancel_left t (by omega)
theorem holds_IZ0 {z : Nat → Int} (hc : cavP z) (hs : stP z) (ho : op1 z) (h0 : 1 ≤ sm z 11 13) (h1 : 1 ≤ sm z 11 14) (h2 : 1 ≤ sm z 12 13) (h3 : 1 ≤ sm z 12 14) (hw : z 18 + z 22 ≤ 1000000000) : G_IZ0.holds (ov (zZ z)) := by
  have hb := sm_in hc hs ho
  simp only [cavP, stP, op1] at hc hs ho
  refine holds_of ?_ ?_ ?_ trivial
  · simp only [G_IZ0, NamesP, SX.eval, sxOp, valI, ov]
    exact ⟨⟨rfl, h0, by simp only [zZ]; omega⟩, ⟨rfl, h1, by simp only [zZ]; omega⟩, ⟨rfl, h2, by simp only [zZ]; omega⟩, ⟨rfl, h3, by simp only [zZ]; omega⟩, ⟨quo_self h0, by simp only [zZ]; omega, by simp only [zZ]; omega⟩, ⟨quo_self h0, by simp only [zZ]; omega, by simp only [zZ]; omega⟩, ⟨quo_self h1, by simp only [zZ]; omega, by simp only [zZ]; omega⟩, ⟨quo_self h1, by simp only [zZ]; omega, by simp only [zZ]; omega⟩, ⟨quo_self h2, by simp only [zZ]; omega, by simp only [zZ]; omega⟩, ⟨quo_self h2, by simp only [zZ]; omega, by simp only [zZ]; omega⟩, ⟨quo_self h3, by simp only [zZ]; omega, by simp only [zZ]; omega⟩, ⟨quo_self h3, by simp only [zZ]; omega, by simp only [zZ]; omega⟩, trivial⟩
  · simp only [G_IZ0, LtsP, SX.eval, sxOp, valI, ov, zZ, and_true]
    omega
  · simp only [G_IZ0, EqsP]
theorem holds_IY0 {z : Nat → Int} (hc : cavP z) (hs : stP z) (ho : op1 z) (h0 : 1 ≤ sm z 11 13) (h1 : 1 ≤ sm z 11 14) (h2 : 1 ≤ sm z 12 13) (h3 : 1 ≤ sm z 12 14) (hw : 1000000000 < z 18 + z 22) : G_IY0.holds (ov (zZ z)) := by
  have hb := sm_in hc hs ho
  simp only [cavP, stP, op1] at hc hs ho
  refine holds_of ?_ ?_ ?_ trivial
  · simp only [G_IY0, NamesP, SX.eval, sxOp, valI, ov]
    exact ⟨⟨rfl, h0, by simp only [zZ]; omega⟩, ⟨rfl, h1, by simp only [zZ]; omega⟩, ⟨rfl, h2, by simp only [zZ]; omega⟩, ⟨rfl, h3, by simp only [zZ]; omega⟩, ⟨quo_self h0, by simp only [zZ]; omega, by simp only [zZ]; omega⟩, ⟨quo_self h0, by simp only [zZ]; omega, by simp only [zZ]; omega⟩, ⟨quo_self h1, by simp only [zZ]; omega, by simp only [zZ]; omega⟩, ⟨quo_self h1, by simp only [zZ]; omega, by simp only [zZ]; omega⟩, ⟨quo_self h2, by simp only [zZ]; omega, by simp only [zZ]; omega⟩, ⟨quo_self h2, by simp only [zZ]; omega, by simp only [zZ]; omega⟩, ⟨quo_self h3, by simp only [zZ]; omega, by simp only [zZ]; omega⟩, ⟨quo_self h3, by simp only [zZ]; omega, by simp only [zZ]; omega⟩, trivial⟩
  · simp only [G_IY0, LtsP, SX.eval, sxOp, valI, ov, zZ, and_true]
    omega
  · simp only [G_IY0, EqsP]
theorem holds_IZ1 {z : Nat → Int} (hc : cavP z) (hs : stP z) (ho : op1 z) (h0 : sm z 11 13 = 0) (h1 : 1 ≤ sm z 11 14) (h2 : 1 ≤ sm z 12 13) (h3 : 1 ≤ sm z 12 14) (hw : z 18 + z 22 ≤ 1000000000) : G_IZ1.holds (ov (zZ z)) := by
  have hb := sm_in hc hs ho
  simp only [cavP, stP, op1] at hc hs ho
  refine holds_of ?_ ?_ ?_ trivial
  · simp only [G_IZ1, NamesP, SX.eval, sxOp, valI, ov]
    exact ⟨⟨h0, by simp only [zZ]; omega, by simp only [zZ]; omega⟩, ⟨rfl, h1, by simp only [zZ]; omega⟩, ⟨rfl, h2, by simp only [zZ]; omega⟩, ⟨rfl, h3, by simp only [zZ]; omega⟩, ⟨quo_self h1, by simp only [zZ]; omega, by simp only [zZ]; omega⟩, ⟨quo_self h1, by simp only [zZ]; omega, by simp only [zZ]; omega⟩, ⟨quo_self h2, by simp only [zZ]; omega, by simp only [zZ]; omega⟩, ⟨quo_self h2, by simp only [zZ]; omega, by simp only [zZ]; omega⟩, ⟨quo_self h3, by simp only [zZ]; omega, by simp only [zZ]; omega⟩, ⟨quo_self h3, by simp only [zZ]; omega, by simp only [zZ]; omega⟩, trivial⟩
  · simp only [G_IZ1, LtsP, SX.eval, sxOp, valI, ov, zZ, and_true]
    omega
  · simp only [G_IZ1, EqsP]
theorem holds_IY1 {z : Nat → Int} (hc : cavP z) (hs : stP z) (ho : op1 z) (h0 : sm z 11 13 = 0) (h1 : 1 ≤ sm z 11 14) (h2 : 1 ≤ sm z 12 13) (h3 : 1 ≤ sm z 12 14) (hw : 1000000000 < z 18 + z 22) : G_IY1.holds (ov (zZ z)) := by
  have hb := sm_in hc hs ho
  simp only [cavP, stP, op1] at hc hs ho
  refine holds_of ?_ ?_ ?_ trivial
  · simp only [G_IY1, NamesP, SX.eval, sxOp, valI, ov]
    exact ⟨⟨h0, by simp only [zZ]; omega, by simp only [zZ]; omega⟩, ⟨rfl, h1, by simp only [zZ]; omega⟩, ⟨rfl, h2, by simp only [zZ]; omega⟩, ⟨rfl, h3, by simp only [zZ]; omega⟩, ⟨quo_self h1, by simp only [zZ]; omega, by simp only [zZ]; omega⟩, ⟨quo_self h1, by simp only [zZ]; omega, by simp only [zZ]; omega⟩, ⟨quo_self h2, by simp only [zZ]; omega, by simp only [zZ]; omega⟩, ⟨quo_self h2, by simp only [zZ]; omega, by simp only [zZ]; omega⟩, ⟨quo_self h3, by simp only [zZ]; omega, by simp only [zZ]; omega⟩, ⟨quo_self h3, by simp only [zZ]; omega, by simp only [zZ]; omega⟩, trivial⟩
  · simp only [G_IY1, LtsP, SX.eval, sxOp, valI, ov, zZ, and_true]
    omega
  · simp only [G_IY1, EqsP]
theorem holds_IZ2 {z : Nat → Int} (hc : cavP z) (hs : stP z) (ho : op1 z) (h0 : sm z 11 13 = 0) (h1 : sm z 11 14 = 0) (h2 : 1 ≤ sm z 12 13) (h3 : 1 ≤ sm z 12 14) (hw : z 18 + z 22 ≤ 1000000000) : G_IZ2.holds (ov (zZ z)) := by
  have hb := sm_in hc hs ho
  simp only [cavP, stP, op1] at hc hs ho
  refine holds_of ?_ ?_ ?_ trivial
  · simp only [G_IZ2, NamesP, SX.eval, sxOp, valI, ov]
    exact ⟨⟨h0, by simp only [zZ]; omega, by simp only [zZ]; omega⟩, ⟨h1, by simp only [zZ]; omega, by simp only [zZ]; omega⟩, ⟨rfl, h2, by simp only [zZ]; omega⟩, ⟨rfl, h3, by simp only [zZ]; omega⟩, ⟨quo_self h2, by simp only [zZ]; omega, by simp only [zZ]; omega⟩, ⟨quo_self h2, by simp only [zZ]; omega, by simp only [zZ]; omega⟩, ⟨quo_self h3, by simp only [zZ]; omega, by simp only [zZ]; omega⟩, ⟨quo_self h3, by simp only [zZ]; omega, by simp only [zZ]; omega⟩, trivial⟩
  · simp only [G_IZ2, LtsP, SX.eval, sxOp, valI, ov, zZ, and_true]
    omega
  · simp only [G_IZ2, EqsP]
theorem holds_IY2 {z : Nat → Int} (hc : cavP z) (hs : stP z) (ho : op1 z) (h0 : sm z 11 13 = 0) (h1 : sm z 11 14 = 0) (h2 : 1 ≤ sm z 12 13) (h3 : 1 ≤ sm z 12 14) (hw : 1000000000 < z 18 + z 22) : G_IY2.holds (ov (zZ z)) := by
  have hb := sm_in hc hs ho
  simp only [cavP, stP, op1] at hc hs ho
  refine holds_of ?_ ?_ ?_ trivial
  · simp only [G_IY2, NamesP, SX.eval, sxOp, valI, ov]
    exact ⟨⟨h0, by simp only [zZ]; omega, by simp only [zZ]; omega⟩, ⟨h1, by simp only [zZ]; omega, by simp only [zZ]; omega⟩, ⟨rfl, h2, by simp only [zZ]; omega⟩, ⟨rfl, h3, by simp only [zZ]; omega⟩, ⟨quo_self h2, by simp only [zZ]; omega, by simp only [zZ]; omega⟩, ⟨quo_self h2, by simp only [zZ]; omega, by simp only [zZ]; omega⟩, ⟨quo_self h3, by simp only [zZ]; omega, by simp only [zZ]; omega⟩, ⟨quo_self h3, by simp only [zZ]; omega, by simp only [zZ]; omega⟩, trivial⟩
  · simp only [G_IY2, LtsP, SX.eval, sxOp, valI, ov, zZ, and_true]
    omega
  · simp only [G_IY2, EqsP]
theorem holds_IZ3 {z : Nat → Int} (hc : cavP z) (hs : stP z) (ho : op1 z) (h0 : sm z 11 13 = 0) (h1 : 1 ≤ sm z 11 14) (h2 : sm z 12 13 = 0) (h3 : 1 ≤ sm z 12 14) (hw : z 18 + z 22 ≤ 1000000000) : G_IZ3.holds (ov (zZ z)) := by
  have hb := sm_in hc hs ho
  simp only [cavP, stP, op1] at hc hs ho
  refine holds_of ?_ ?_ ?_ trivial
  · simp only [G_IZ3, NamesP, SX.eval, sxOp, valI, ov]
    exact ⟨⟨h0, by simp only [zZ]; omega, by simp only [zZ]; omega⟩, ⟨rfl, h1, by simp only [zZ]; omega⟩, ⟨h2, by simp only [zZ]; omega, by simp only [zZ]; omega⟩, ⟨rfl, h3, by simp only [zZ]; omega⟩, ⟨quo_self h1, by simp only [zZ]; omega, by simp only [zZ]; omega⟩, ⟨quo_self h1, by simp only [zZ]; omega, by simp only [zZ]; omega⟩, ⟨quo_self h3, by simp only [zZ]; omega, by simp only [zZ]; omega⟩, ⟨quo_self h3, by simp only [zZ]; omega, by simp only [zZ]; omega⟩, trivial⟩
  · simp only [G_IZ3, LtsP, SX.eval, sxOp, valI, ov, zZ, and_true]
    omega
  · simp only [G_IZ3, EqsP]
theorem holds_IY3 {z : Nat → Int} (hc : cavP z) (hs : stP z) (ho : op1 z) (h0 : sm z 11 13 = 0) (h1 : 1 ≤ sm z 11 14) (h2 : sm z 12 13 = 0) (h3 : 1 ≤ sm z 12 14) (hw : 1000000000 < z 18 + z 22) : G_IY3.holds (ov (zZ z)) := by
  have hb := sm_in hc hs ho
  simp only [cavP, stP, op1] at hc hs ho
  refine holds_of ?_ ?_ ?_ trivial
  · simp only [G_IY3, NamesP, SX.eval, sxOp, valI, ov]
    exact ⟨⟨h0, by simp only [zZ]; omega, by simp only [zZ]; omega⟩, ⟨rfl, h1, by simp only [zZ]; omega⟩, ⟨h2, by simp only [zZ]; omega, by simp only [zZ]; omega⟩, ⟨rfl, h3, by simp only [zZ]; omega⟩, ⟨quo_self h1, by simp only [zZ]; omega, by simp only [zZ]; omega⟩, ⟨quo_self h1, by simp only [zZ]; omega, by simp only [zZ]; omega⟩, ⟨quo_self h3, by simp only [zZ]; omega, by simp only [zZ]; omega⟩, ⟨quo_self h3, by simp only [zZ]; omega, by simp only [zZ]; omega⟩, trivial⟩
  · simp only [G_IY3, LtsP, SX.eval, sxOp, valI, ov, zZ, and_true]
    omega
  · simp only [G_IY3, EqsP]
theorem holds_IZ4 {z : Nat → Int} (hc : cavP z) (hs : stP z) (ho : op1 z) (h0 : sm z 11 13 = 0) (h1 : sm z 11 14 = 0) (h2 : sm z 12 13 = 0) (h3 : sm z 12 14 = 0) (hw : z 18 + z 22 ≤ 1000000000) : G_IZ4.holds (ov (zZ z)) := by
  have hb := sm_in hc hs ho
  simp only [cavP, stP, op1] at hc hs ho
  refine holds_of ?_ ?_ ?_ trivial
  · simp only [G_IZ4, NamesP, SX.eval, sxOp, valI, ov]
    exact ⟨⟨h0, by simp only [zZ]; omega, by simp only [zZ]; omega⟩, ⟨h1, by simp only [zZ]; omega, by simp only [zZ]; omega⟩, ⟨h2, by simp only [zZ]; omega, by simp only [zZ]; omega⟩, ⟨h3, by simp only [zZ]; omega, by simp only [zZ]; omega⟩, trivial⟩
  · simp only [G_IZ4, LtsP, SX.eval, sxOp, valI, ov, zZ, and_true]
    omega
  · simp only [G_IZ4, EqsP]
theorem holds_IY4 {z : Nat → Int} (hc : cavP z) (hs : stP z) (ho : op1 z) (h0 : sm z 11 13 = 0) (h1 : sm z 11 14 = 0) (h2 : sm z 12 13 = 0) (h3 : sm z 12 14 = 0) (hw : 1000000000 < z 18 + z 22) : G_IY4.holds (ov (zZ z)) := by
  have hb := sm_in hc hs ho
  simp only [cavP, stP, op1] at hc hs ho
  refine holds_of ?_ ?_ ?_ trivial
  · simp only [G_IY4, NamesP, SX.eval, sxOp, valI, ov]
    exact ⟨⟨h0, by simp only [zZ]; omega, by simp only [zZ]; omega⟩, ⟨h1, by simp only [zZ]; omega, by simp only [zZ]; omega⟩, ⟨h2, by simp only [zZ]; omega, by simp only [zZ]; omega⟩, ⟨h3, by simp only [zZ]; omega, by simp only [zZ]; omega⟩, trivial⟩
  · simp only [G_IY4, LtsP, SX.eval, sxOp, valI, ov, zZ, and_true]
    omega
  · simp only [G_IY4, EqsP]
/-! ### What a withdrawal leaves -/
def am (z : Nat → Int) (g h : Nat) : Int := z g + z h
def qt (z : Nat → Int) (h A : Int) : Int := (z 23 * h).tdiv A
def zW (z : Nat → Int) (i : Nat) : Int :=
  match i with
  | 50 => am z 11 13 | 51 => am z 11 14 | 52 => am z 12 13 | 53 => am z 12 14
  | 60 => qt z (z 13) (am z 11 13) | 61 => qt z (z 14) (am z 11 14) | 62 => qt z (z 13) (am z 12 13) | 63 => qt z (z 14) (am z 12 14)
  | 70 => qt z (z 17) (am z 11 13) | 71 => qt z (z 18) (am z 11 13) | 72 => qt z (z 17) (am z 11 14) | 73 => qt z (z 18) (am z 11 14)
  | 74 => qt z (z 17) (am z 12 13) | 75 => qt z (z 18) (am z 12 13) | 76 => qt z (z 17) (am z 12 14) | 77 => qt z (z 18) (am z 12 14)
  | _ => z i
theorem qt_eq {z : Nat → Int} {h A : Int} (hM : 0 ≤ z 23) (hh : 0 ≤ h) : qt z h A = Num.part (z 23) h A := Int.tdiv_eq_ediv_of_nonneg (Int.mul_nonneg hM hh)
theorem holds_W0 {z : Nat → Int} (hc : cavP z) (hs : stP z) (ho : op2 z) (hm : z 11 + z 13 < z 23) : G_W0.holds (ov z) := by
  refine holds_of (by simp only [G_W0, NamesP]) ?_ (by simp only [G_W0, EqsP]) trivial
  simp only [cavP, stP, op2] at hc hs ho
  simp only [G_W0, LtsP, SX.eval, sxOp, valI, ov, and_true]
  omega
theorem holds_WZ0 {z : Nat → Int} (hc : cavP z) (hs : stP z) : G_WZ0.holds (ov z) := by
  refine holds_of (by simp only [G_WZ0, NamesP]) ?_ (by simp only [G_WZ0, EqsP]) trivial
  simp only [cavP, stP] at hc hs
  simp only [G_WZ0, LtsP, SX.eval, sxOp, valI, ov, and_true]
  omega
theorem holds_WZ1 {z : Nat → Int} (hc : cavP z) (hs : stP z) : G_WZ1.holds (ov z) := by
  refine holds_of (by simp only [G_WZ1, NamesP]) ?_ (by simp only [G_WZ1, EqsP]) trivial
  simp only [cavP, stP] at hc hs
  simp only [G_WZ1, LtsP, SX.eval, sxOp, valI, ov, and_true]
  omega
theorem holds_WZ2 {z : Nat → Int} (hc : cavP z) (hs : stP z) : G_WZ2.holds (ov z) := by
  refine holds_of (by simp only [G_WZ2, NamesP]) ?_ (by simp only [G_WZ2, EqsP]) trivial
  simp only [cavP, stP] at hc hs
  simp only [G_WZ2, LtsP, SX.eval, sxOp, valI, ov, and_true]
  omega
theorem holds_WZ3 {z : Nat → Int} (hc : cavP z) (hs : stP z) : G_WZ3.holds (ov z) := by
  refine holds_of (by simp only [G_WZ3, NamesP]) ?_ (by simp only [G_WZ3, EqsP]) trivial
  simp only [cavP, stP] at hc hs
  simp only [G_WZ3, LtsP, SX.eval, sxOp, valI, ov, and_true]
  omega
theorem qt_all {z : Nat → Int} (hs : stP z) (ho : op2 z) (h1 : 1 ≤ z 11 + z 13) (hm : z 23 ≤ z 11 + z 13) :
    (0 ≤ zW z 60 ∧ zW z 60 ≤ z 13 ∧ zW z 60 ≤ z 23) ∧ (0 ≤ zW z 61 ∧ zW z 61 ≤ z 14 ∧ zW z 61 ≤ z 23) ∧ (0 ≤ zW z 62 ∧ zW z 62 ≤ z 13 ∧ zW z 62 ≤ z 23) ∧ (0 ≤ zW z 63 ∧ zW z 63 ≤ z 14 ∧ zW z 63 ≤ z 23)
    ∧ (0 ≤ zW z 70 ∧ zW z 70 ≤ z 17) ∧ (0 ≤ zW z 71 ∧ zW z 71 ≤ z 18) ∧ (0 ≤ zW z 72 ∧ zW z 72 ≤ z 17) ∧ (0 ≤ zW z 73 ∧ zW z 73 ≤ z 18) ∧ (0 ≤ zW z 74 ∧ zW z 74 ≤ z 17) ∧ (0 ≤ zW z 75 ∧ zW z 75 ≤ z 18) ∧ (0 ≤ zW z 76 ∧ zW z 76 ≤ z 17) ∧ (0 ≤ zW z 77 ∧ zW z 77 ≤ z 18)
    ∧ (zW z 62 ≤ zW z 60 ∧ zW z 60 ≤ zW z 61 ∧ zW z 62 ≤ zW z 63 ∧ zW z 63 ≤ zW z 61)
    ∧ (zW z 70 ≤ zW z 71 ∧ zW z 72 ≤ zW z 73 ∧ zW z 74 ≤ zW z 75 ∧ zW z 76 ≤ zW z 77)
    ∧ (zW z 72 ≤ zW z 70 ∧ zW z 76 ≤ zW z 72 ∧ zW z 74 ≤ zW z 70 ∧ zW z 76 ≤ zW z 74)
    ∧ (zW z 73 ≤ zW z 71 ∧ zW z 77 ≤ zW z 73 ∧ zW z 75 ≤ zW z 71 ∧ zW z 77 ≤ zW z 75)
    ∧ (z 13 - zW z 60 ≤ z 14 - zW z 61 ∧ z 13 - zW z 62 ≤ z 14 - zW z 63)
    ∧ (z 11 + zW z 60 ≤ z 12 + zW z 62 ∧ z 11 + zW z 61 ≤ z 12 + zW z 63)
    ∧ (z 17 - zW z 70 ≤ z 18 - zW z 71 ∧ z 17 - zW z 72 ≤ z 18 - zW z 73 ∧ z 17 - zW z 74 ≤ z 18 - zW z 75 ∧ z 17 - zW z 76 ≤ z 18 - zW z 77) := by
  simp only [stP, op2] at hs ho
  have m0 : 0 ≤ z 23 := by omega
  have w1 : 0 ≤ z 13 := by omega
  have w2 : 0 ≤ z 14 := by omega
  have w3 : 0 ≤ z 17 := by omega
  have w4 : 0 ≤ z 18 := by omega
  have A0 : 0 < am z 11 13 := by simp only [am]; omega
  have A1 : 0 < am z 11 14 := by simp only [am]; omega
  have A2 : 0 < am z 12 13 := by simp only [am]; omega
  have A3 : 0 < am z 12 14 := by simp only [am]; omega
  have M0 : z 23 ≤ am z 11 13 := by simp only [am]; omega
  have M1 : z 23 ≤ am z 11 14 := by simp only [am]; omega
  have M2 : z 23 ≤ am z 12 13 := by simp only [am]; omega
  have M3 : z 23 ≤ am z 12 14 := by simp only [am]; omega
  have c1 : am z 11 13 ≤ am z 11 14 := by simp only [am]; omega
  have c2 : am z 11 13 ≤ am z 12 13 := by simp only [am]; omega
  have c3 : am z 11 14 ≤ am z 12 14 := by simp only [am]; omega
  have c4 : am z 12 13 ≤ am z 12 14 := by simp only [am]; omega
  have g1 : z 13 ≤ am z 11 13 := by simp only [am]; omega
  have g2 : z 14 ≤ am z 11 14 := by simp only [am]; omega
  have g3 : z 13 ≤ am z 12 13 := by simp only [am]; omega
  have g4 : z 14 ≤ am z 12 14 := by simp only [am]; omega
  have d1 : 0 ≤ z 14 - z 13 := by omega
  have d2 : 0 ≤ z 12 - z 11 := by omega
  have d3 : 0 ≤ z 18 - z 17 := by omega
  have e1 : z 13 + (z 14 - z 13) = z 14 := by omega
  have e2 : z 11 + (z 12 - z 11) = z 12 := by omega
  have e3 : z 17 + (z 18 - z 17) = z 18 := by omega
  have s1 : am z 11 13 + (z 14 - z 13) = am z 11 14 := by simp only [am]; omega
  have s2 : am z 12 13 + (z 14 - z 13) = am z 12 14 := by simp only [am]; omega
  have s3 : am z 11 13 + (z 12 - z 11) = am z 12 13 := by simp only [am]; omega
  have s4 : am z 11 14 + (z 12 - z 11) = am z 12 14 := by simp only [am]; omega
  have u1 := part_up (M := z 23) m0 w1 d1 A0 g1
  have u2 := part_up (M := z 23) m0 w1 d1 A2 g3
  have v1 := stay_up (M := z 23) m0 M0 w1 d1 A0
  have v2 := stay_up (M := z 23) m0 M2 w1 d1 A2
  have x1 := gas_up (M := z 23) (g := z 11) m0 M0 w1 g1 d2 A0
  have x2 := gas_up (M := z 23) (g := z 11) m0 M1 w2 g2 d2 A1
  have y1 := stay_w (M := z 23) (w := z 17) m0 M0 d3 A0
  have y2 := stay_w (M := z 23) (w := z 17) m0 M1 d3 A1
  have y3 := stay_w (M := z 23) (w := z 17) m0 M2 d3 A2
  have y4 := stay_w (M := z 23) (w := z 17) m0 M3 d3 A3
  rw [e1, s1] at u1 v1
  rw [e1, s2] at u2 v2
  rw [e2, s3] at x1
  rw [e2, s4] at x2
  rw [e3] at y1 y2 y3 y4
  simp only [zW]
  rw [qt_eq m0 w1, qt_eq m0 w2, qt_eq m0 w1, qt_eq m0 w2, qt_eq m0 w3, qt_eq m0 w4, qt_eq m0 w3, qt_eq m0 w4, qt_eq m0 w3, qt_eq m0 w4, qt_eq m0 w3, qt_eq m0 w4]
  exact ⟨⟨part_nn m0 w1 A0, part_le M0 w1 A0, part_leM m0 g1 A0⟩, ⟨part_nn m0 w2 A1, part_le M1 w2 A1, part_leM m0 g2 A1⟩, ⟨part_nn m0 w1 A2, part_le M2 w1 A2, part_leM m0 g3 A2⟩, ⟨part_nn m0 w2 A3, part_le M3 w2 A3, part_leM m0 g4 A3⟩,
    ⟨part_nn m0 w3 A0, part_le M0 w3 A0⟩, ⟨part_nn m0 w4 A0, part_le M0 w4 A0⟩, ⟨part_nn m0 w3 A1, part_le M1 w3 A1⟩, ⟨part_nn m0 w4 A1, part_le M1 w4 A1⟩, ⟨part_nn m0 w3 A2, part_le M2 w3 A2⟩, ⟨part_nn m0 w4 A2, part_le M2 w4 A2⟩, ⟨part_nn m0 w3 A3, part_le M3 w3 A3⟩, ⟨part_nn m0 w4 A3, part_le M3 w4 A3⟩,
    ⟨part_A m0 w1 A0 c2, u1, u2, part_A m0 w2 A1 c3⟩,
    ⟨part_h m0 A0 (by omega), part_h m0 A1 (by omega), part_h m0 A2 (by omega), part_h m0 A3 (by omega)⟩,
    ⟨part_A m0 w3 A0 c1, part_A m0 w3 A1 c3, part_A m0 w3 A0 c2, part_A m0 w3 A2 c4⟩,
    ⟨part_A m0 w4 A0 c1, part_A m0 w4 A1 c3, part_A m0 w4 A0 c2, part_A m0 w4 A2 c4⟩,
    ⟨v1, v2⟩, ⟨by omega, by omega⟩, ⟨y1, y2, y3, y4⟩⟩
theorem holds_W1 {z : Nat → Int} (hc : cavP z) (hs : stP z) (ho : op2 z) (h1 : 1 ≤ z 11 + z 13) (hm : z 23 ≤ z 11 + z 13) : G_W1.holds (ov (zW z)) := by
  have q := qt_all hs ho h1 hm
  simp only [cavP, stP, op2] at hc hs ho
  refine holds_of ?_ ?_ (by simp only [G_W1, EqsP]) trivial
  · obtain ⟨q1, q2, q3, q4, q5, q6, q7, q8, q9, q10, q11, q12, _⟩ := q
    have A {g h : Nat} (l : 1 ≤ z g + z h) (u : z g + z h ≤ 2000000) : 1 ≤ am z g h ∧ am z g h ≤ 2000000 := ⟨l, u⟩
    simp only [G_W1, NamesP, SX.eval, sxOp, valI, ov]
    exact ⟨⟨rfl, A (by omega) (by omega)⟩, ⟨rfl, A (by omega) (by omega)⟩, ⟨rfl, A (by omega) (by omega)⟩, ⟨rfl, A (by omega) (by omega)⟩,
      ⟨rfl, q1.1, by omega⟩, ⟨rfl, q2.1, by omega⟩, ⟨rfl, q3.1, by omega⟩, ⟨rfl, q4.1, by omega⟩,
      ⟨rfl, q5.1, by omega⟩, ⟨rfl, q6.1, by omega⟩, ⟨rfl, q7.1, by omega⟩, ⟨rfl, q8.1, by omega⟩, ⟨rfl, q9.1, by omega⟩, ⟨rfl, q10.1, by omega⟩, ⟨rfl, q11.1, by omega⟩, ⟨rfl, q12.1, by omega⟩, trivial⟩
  · simp only [zW] at q
    simp only [G_W1, LtsP, SX.eval, sxOp, valI, ov, zW, and_true]
    simp only [am] at *
    omega
/-! ### Rest -/
def nr (z : Nat → Int) (t s : Nat) : Int := z t + ((z 8 - z t) * z s).tdiv 1000
def zR (z : Nat → Int) (i : Nat) : Int :=
  match i with
  | 60 => nr z 15 24 | 61 => nr z 15 25 | 62 => nr z 16 24 | 63 => nr z 16 25
  | _ => z i
section
variable {z : Nat → Int} (hc : cavP z) (hs : stP z) (ho : op3 z)
include hc hs ho
theorem names_R : NamesP (ov (zR z)) G_RA.names := by
  simp only [cavP, stP, op3] at hc hs ho
  simp only [G_RA, NamesP, SX.eval, sxOp, valI, ov]
  have q {t s : Nat} (h1 : 0 ≤ z s) (h2 : z s ≤ 1000) (h3 : 2000 ≤ z t) (h4 : z t ≤ 5000) : 2000 ≤ nr z t s ∧ nr z t s ≤ 5000 := near_in h1 h2 (by omega) (by omega) h3 h4
  exact ⟨⟨rfl, q (by omega) (by omega) (by omega) (by omega)⟩, ⟨rfl, q (by omega) (by omega) (by omega) (by omega)⟩, ⟨rfl, q (by omega) (by omega) (by omega) (by omega)⟩, ⟨rfl, q (by omega) (by omega) (by omega) (by omega)⟩, trivial⟩
theorem nr_ord : nr z 15 24 ≤ nr z 16 24 ∧ nr z 15 25 ≤ nr z 16 25 := by
  simp only [cavP, stP, op3] at hc hs ho
  exact ⟨near_T (by omega) (by omega) (by omega), near_T (by omega) (by omega) (by omega)⟩
theorem holds_RA (hw : z 18 + z 27 ≤ 1000000000) : G_RA.holds (ov (zR z)) := by
  have o := nr_ord hc hs ho
  refine holds_of (names_R hc hs ho) ?_ ?_ trivial
  · simp only [cavP, stP, op3] at hc hs ho
    simp only [G_RA, LtsP, SX.eval, sxOp, valI, ov, zR, and_true]
    omega
  · simp only [G_RA, EqsP, SX.eval, valI, ov, and_true]
    show sxOp 4 (sxOp 4 (sxOp 4 (nr z 15 24) (nr z 15 25)) (nr z 16 24)) (nr z 16 25) = sxOp 4 (nr z 16 24) (nr z 16 25)
    generalize nr z 15 24 = a at *
    generalize nr z 15 25 = b at *
    generalize nr z 16 24 = c at *
    generalize nr z 16 25 = d at *
    by_cases h : c ≤ d
    · rw [sx4_r (sx4_le (sx4_le (show a ≤ d by omega) o.2) h), sx4_r h]
    · rw [sx4_r (sx4_le o.1 (show b ≤ c by omega))]
theorem holds_RW (hw : 1000000000 < z 18 + z 27) : G_RW.holds (ov (zR z)) := by
  refine holds_of (names_R hc hs ho) ?_ (by simp only [G_RW, EqsP]) trivial
  simp only [cavP, stP, op3] at hc hs ho
  simp only [G_RW, LtsP, SX.eval, sxOp, valI, ov, zR, and_true]
  omega
end
end Go.Ev.Gas
end

