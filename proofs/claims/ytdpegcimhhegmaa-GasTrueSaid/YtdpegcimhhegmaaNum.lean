set_option linter.unusedVariables false
set_option linter.unusedSimpArgs false
set_option linter.unusedSectionVars false
section
/- Numbers: mixing, parts, shares. -/
namespace Go.Ev.Num
theorem le_div {a b q : Int} (hb : 0 < b) : q ≤ a / b ↔ q * b ≤ a := Int.le_ediv_iff_mul_le hb
theorem div_lt {a b q : Int} (hb : 0 < b) : a / b < q ↔ a < q * b := Int.ediv_lt_iff_lt_mul hb
/-- The temperature of a mixture. -/
def mix (S C T L : Int) : Int := (S * T + C * L) / (S + C)
theorem mix_ge {S C T L m : Int} (hS : 0 ≤ S) (hC : 0 ≤ C) (hp : 0 < S + C) (hT : m ≤ T) (hL : m ≤ L) : m ≤ mix S C T L := by
  unfold mix
  rw [le_div hp, Int.mul_add, Int.mul_comm m S, Int.mul_comm m C]
  have := Int.mul_le_mul_of_nonneg_left hT hS
  have := Int.mul_le_mul_of_nonneg_left hL hC
  omega
theorem mix_le {S C T L m : Int} (hS : 0 ≤ S) (hC : 0 ≤ C) (hp : 0 < S + C) (hT : T ≤ m) (hL : L ≤ m) : mix S C T L ≤ m := by
  have : mix S C T L < m + 1 := by
    unfold mix
    rw [div_lt hp, Int.mul_add, Int.add_mul, Int.add_mul, Int.mul_comm m S, Int.mul_comm m C]
    have := Int.mul_le_mul_of_nonneg_left hT hS
    have := Int.mul_le_mul_of_nonneg_left hL hC
    omega
  omega
theorem mix_T {S C T T' L : Int} (hS : 0 ≤ S) (hp : 0 < S + C) (hT : T ≤ T') : mix S C T L ≤ mix S C T' L := by
  unfold mix
  refine Int.ediv_le_ediv hp ?_
  have := Int.mul_le_mul_of_nonneg_left hT hS
  omega
theorem mix_up {S S' C T L : Int} (hS : 0 ≤ S) (hC : 0 ≤ C) (hp : 0 < S + C) (hSS : S ≤ S') (hT : L ≤ T) : mix S C T L ≤ mix S' C T L := by
  have hq : mix S C T L ≤ T := mix_le hS hC hp (Int.le_refl _) hT
  have h0 : mix S C T L * (S + C) ≤ S * T + C * L := (le_div hp).1 (Int.le_refl _)
  have hp' : 0 < S' + C := by omega
  show mix S C T L ≤ (S' * T + C * L) / (S' + C)
  rw [le_div hp']
  generalize mix S C T L = q at *
  have h1 := Int.mul_le_mul_of_nonneg_left hq (show 0 ≤ S' - S by omega)
  have e1 : q * (S' + C) = q * (S + C) + (S' - S) * q := by grind
  have e2 : S' * T = S * T + (S' - S) * T := by grind
  omega
theorem mix_down {S S' C T L : Int} (hS : 0 ≤ S) (hC : 0 ≤ C) (hp : 0 < S + C) (hSS : S ≤ S') (hT : T ≤ L) : mix S' C T L ≤ mix S C T L := by
  have hp' : 0 < S' + C := by omega
  have hq : T ≤ mix S' C T L := mix_ge (by omega) hC hp' (Int.le_refl _) hT
  have h0 : mix S' C T L * (S' + C) ≤ S' * T + C * L := (le_div hp').1 (Int.le_refl _)
  show mix S' C T L ≤ (S * T + C * L) / (S + C)
  rw [le_div hp]
  generalize mix S' C T L = q at *
  have h1 := Int.mul_le_mul_of_nonneg_left hq (show 0 ≤ S' - S by omega)
  have e1 : q * (S' + C) = q * (S + C) + (S' - S) * q := by grind
  have e2 : S' * T = S * T + (S' - S) * T := by grind
  omega
/-- The part that goes out. -/
def part (M h A : Int) : Int := M * h / A
theorem part_nn {M h A : Int} (hM : 0 ≤ M) (hh : 0 ≤ h) (hA : 0 < A) : 0 ≤ part M h A := Int.ediv_nonneg (Int.mul_nonneg hM hh) (by omega)
theorem part_le {M h A : Int} (hM : M ≤ A) (hh : 0 ≤ h) (hA : 0 < A) : part M h A ≤ h := by
  have : part M h A < h + 1 := by
    unfold part
    rw [div_lt hA]
    have := Int.mul_le_mul_of_nonneg_right hM hh
    have e : (h + 1) * A = A * h + A := by grind
    omega
  omega
theorem part_leM {M h A : Int} (hM : 0 ≤ M) (hh : h ≤ A) (hA : 0 < A) : part M h A ≤ M := by
  have : part M h A < M + 1 := by
    unfold part
    rw [div_lt hA]
    have := Int.mul_le_mul_of_nonneg_left hh hM
    have e : (M + 1) * A = M * A + A := by grind
    omega
  omega
theorem part_h {M h h' A : Int} (hM : 0 ≤ M) (hA : 0 < A) (hh : h ≤ h') : part M h A ≤ part M h' A :=
  Int.ediv_le_ediv hA (Int.mul_le_mul_of_nonneg_left hh hM)
theorem part_A {M h A A' : Int} (hM : 0 ≤ M) (hh : 0 ≤ h) (hA : 0 < A) (hAA : A ≤ A') : part M h A' ≤ part M h A := by
  unfold part
  rw [le_div hA]
  have h0 : M * h / A' * A' ≤ M * h := Int.ediv_mul_le _ (by omega)
  have h1 : 0 ≤ M * h / A' := Int.ediv_nonneg (Int.mul_nonneg hM hh) (by omega)
  have := Int.mul_le_mul_of_nonneg_left hAA h1
  omega
/-- More of a kind, and as much more in all: the part grows. -/
theorem part_up {M h A d : Int} (hM : 0 ≤ M) (_hh : 0 ≤ h) (hd : 0 ≤ d) (hA : 0 < A) (hhA : h ≤ A) : part M h A ≤ part M (h + d) (A + d) := by
  unfold part
  rw [le_div (by omega)]
  have h0 : M * h / A * A ≤ M * h := Int.ediv_mul_le _ (by omega)
  have h1 : M * h / A ≤ M := part_leM hM hhA hA
  generalize M * h / A = q at *
  have := Int.mul_le_mul_of_nonneg_right h1 hd
  have e : q * (A + d) = q * A + q * d := by grind
  have e2 : M * (h + d) = M * h + M * d := by grind
  omega
/-- .. but by no more than that. -/
theorem part_slow {M h A d : Int} (_hM : 0 ≤ M) (hMA : M ≤ A) (hh : 0 ≤ h) (hd : 0 ≤ d) (hA : 0 < A) : part M (h + d) (A + d) ≤ part M h A + d := by
  have : part M (h + d) (A + d) < part M h A + d + 1 := by
    have h0 : M * h < (part M h A + 1) * A := by
      have : part M h A < part M h A + 1 := by omega
      exact (div_lt hA).1 this
    show M * (h + d) / (A + d) < _
    rw [div_lt (by omega)]
    have hq : 0 ≤ part M h A := part_nn _hM hh hA
    generalize part M h A = q at *
    have h1 : M * d ≤ A * d := Int.mul_le_mul_of_nonneg_right hMA hd
    have h2 : 0 ≤ q * d := Int.mul_nonneg hq hd
    have h3 : 0 ≤ d * d := Int.mul_nonneg hd hd
    have e : M * (h + d) = M * h + M * d := by grind
    have e2 : (q + d + 1) * (A + d) = (q + 1) * A + q * d + A * d + d * d + d := by grind
    omega
  omega
/-- What stays of a kind, where there is more of the other one, or of itself. -/
theorem stay_up {M h A d : Int} (hM : 0 ≤ M) (hMA : M ≤ A) (hh : 0 ≤ h) (hd : 0 ≤ d) (hA : 0 < A) : h - part M h A ≤ (h + d) - part M (h + d) (A + d) := by
  have := part_slow hM hMA hh hd hA; omega
theorem stay_A {M h A A' : Int} (hM : 0 ≤ M) (hh : 0 ≤ h) (hA : 0 < A) (hAA : A ≤ A') : h - part M h A ≤ h - part M h A' := by
  have := part_A hM hh hA hAA; omega
/-- Gas that stays: where there is more of it, .. -/
theorem gas_up {M g h A d : Int} (hM : 0 ≤ M) (hMA : M ≤ A) (hh : 0 ≤ h) (hhA : h ≤ A) (hd : 0 ≤ d) (hA : 0 < A) : g - (M - part M h A) ≤ (g + d) - (M - part M h (A + d)) := by
  have hq : part M h A ≤ A := by have := part_leM hM hhA hA; omega
  have : part M h A - d ≤ part M h (A + d) := by
    have h0 : part M h A * A ≤ M * h := Int.ediv_mul_le _ (by omega)
    show _ ≤ M * h / (A + d)
    rw [le_div (by omega)]
    generalize part M h A = q at *
    have h1 : 0 ≤ d * (A - q) := Int.mul_nonneg hd (by omega)
    have h3 : 0 ≤ d * d := Int.mul_nonneg hd hd
    have e : (q - d) * (A + d) = q * A - d * (A - q) - d * d := by grind
    omega
  omega
/-- .. and where there is more hydrogen. -/
theorem gas_h {M g h A d : Int} (hM : 0 ≤ M) (hh : 0 ≤ h) (hd : 0 ≤ d) (hA : 0 < A) (hhA : h ≤ A) : g - (M - part M h A) ≤ g - (M - part M (h + d) (A + d)) := by
  have := part_up hM hh hd hA hhA; omega
/-- A temperature that comes nearer to the rock's. -/
def near (r t s : Int) : Int := t + ((r - t) * s).tdiv 1000
theorem tdiv_nonneg {a : Int} (h : 0 ≤ a) : a.tdiv 1000 = a / 1000 := Int.tdiv_eq_ediv_of_nonneg h
theorem tdiv_neg {a : Int} (h : a ≤ 0) : a.tdiv 1000 = -((-a) / 1000) := by
  have e : a.tdiv 1000 = -((-a).tdiv 1000) := by rw [Int.neg_tdiv]; omega
  rw [e, tdiv_nonneg (by omega)]
theorem near_in {r t s m M : Int} (hs : 0 ≤ s) (hs2 : s ≤ 1000) (h1 : m ≤ r) (h2 : r ≤ M) (h3 : m ≤ t) (h4 : t ≤ M) : m ≤ near r t s ∧ near r t s ≤ M := by
  unfold near
  by_cases h : 0 ≤ r - t
  · have a1 : 0 ≤ (r - t) * s := Int.mul_nonneg h hs
    have a2 : (r - t) * s ≤ (r - t) * 1000 := Int.mul_le_mul_of_nonneg_left hs2 h
    rw [tdiv_nonneg a1]
    omega
  · have a1 : 0 ≤ (t - r) * s := Int.mul_nonneg (by omega) hs
    have a2 : (t - r) * s ≤ (t - r) * 1000 := Int.mul_le_mul_of_nonneg_left hs2 (by omega)
    have e : (r - t) * s = -((t - r) * s) := by grind
    rw [e, tdiv_neg (by omega)]
    omega
theorem near_T {r t t' s : Int} (hs : 0 ≤ s) (hs2 : s ≤ 1000) (ht : t ≤ t') : near r t s ≤ near r t' s := by
  unfold near
  have e : (r - t) * s = (r - t') * s + (t' - t) * s := by grind
  have a1 : 0 ≤ (t' - t) * s := Int.mul_nonneg (by omega) hs
  have a2 : (t' - t) * s ≤ (t' - t) * 1000 := Int.mul_le_mul_of_nonneg_left hs2 (by omega)
  rw [e]
  generalize (r - t') * s = a at *
  generalize (t' - t) * s = b at *
  by_cases h1 : 0 ≤ a
  · rw [tdiv_nonneg h1, tdiv_nonneg (by omega)]; omega
  · by_cases h2 : 0 ≤ a + b
    · rw [tdiv_nonneg h2, tdiv_neg (show a ≤ 0 by omega)]; omega
    · rw [tdiv_neg (show a + b ≤ 0 by omega), tdiv_neg (show a ≤ 0 by omega)]; omega
end Go.Ev.Num
end

