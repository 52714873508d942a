import Derived.Test.YtckekpcnpccpmaaGreatTA1
import Derived.Test.YtckekpcnpccpmaaGreatTA2
import Derived.Test.YtckekpcnpccpmaaGreatTB1
import Derived.Test.YtckekpcnpccpmaaGreatTB2
import Derived.Test.YtckekpcnpccpmaaGreatTakes
import Derived.Test.YtckekpcnpccpmaaGreatWalks
set_option linter.unusedVariables false
set_option linter.unusedSimpArgs false
set_option linter.unusedSectionVars false
noncomputable section
namespace Go.Ev.LT

theorem all1 : ∀ n i o : Nat, n ≤ 10 → i < n → o < n → i ≠ o → chk1 n i o = true := by
  intro n i o hn hi ho hne
  match n, i, hn, hi, ho with
  | 0, _, _, hi, _ => omega
  | 1, _, _, hi, ho => omega
  | 2, 0, _, _, ho => exact allO_spec k1_2_0 o ho hne
  | 2, 1, _, _, ho => exact allO_spec k1_2_1 o ho hne
  | 2, i + 2, _, hi, _ => omega
  | 3, 0, _, _, ho => exact allO_spec k1_3_0 o ho hne
  | 3, 1, _, _, ho => exact allO_spec k1_3_1 o ho hne
  | 3, 2, _, _, ho => exact allO_spec k1_3_2 o ho hne
  | 3, i + 3, _, hi, _ => omega
  | 4, 0, _, _, ho => exact allO_spec k1_4_0 o ho hne
  | 4, 1, _, _, ho => exact allO_spec k1_4_1 o ho hne
  | 4, 2, _, _, ho => exact allO_spec k1_4_2 o ho hne
  | 4, 3, _, _, ho => exact allO_spec k1_4_3 o ho hne
  | 4, i + 4, _, hi, _ => omega
  | 5, 0, _, _, ho => exact allO_spec k1_5_0 o ho hne
  | 5, 1, _, _, ho => exact allO_spec k1_5_1 o ho hne
  | 5, 2, _, _, ho => exact allO_spec k1_5_2 o ho hne
  | 5, 3, _, _, ho => exact allO_spec k1_5_3 o ho hne
  | 5, 4, _, _, ho => exact allO_spec k1_5_4 o ho hne
  | 5, i + 5, _, hi, _ => omega
  | 6, 0, _, _, ho => exact allO_spec k1_6_0 o ho hne
  | 6, 1, _, _, ho => exact allO_spec k1_6_1 o ho hne
  | 6, 2, _, _, ho => exact allO_spec k1_6_2 o ho hne
  | 6, 3, _, _, ho => exact allO_spec k1_6_3 o ho hne
  | 6, 4, _, _, ho => exact allO_spec k1_6_4 o ho hne
  | 6, 5, _, _, ho => exact allO_spec k1_6_5 o ho hne
  | 6, i + 6, _, hi, _ => omega
  | 7, 0, _, _, ho => exact allO_spec k1_7_0 o ho hne
  | 7, 1, _, _, ho => exact allO_spec k1_7_1 o ho hne
  | 7, 2, _, _, ho => exact allO_spec k1_7_2 o ho hne
  | 7, 3, _, _, ho => exact allO_spec k1_7_3 o ho hne
  | 7, 4, _, _, ho => exact allO_spec k1_7_4 o ho hne
  | 7, 5, _, _, ho => exact allO_spec k1_7_5 o ho hne
  | 7, 6, _, _, ho => exact allO_spec k1_7_6 o ho hne
  | 7, i + 7, _, hi, _ => omega
  | 8, 0, _, _, ho => exact allO_spec k1_8_0 o ho hne
  | 8, 1, _, _, ho => exact allO_spec k1_8_1 o ho hne
  | 8, 2, _, _, ho => exact allO_spec k1_8_2 o ho hne
  | 8, 3, _, _, ho => exact allO_spec k1_8_3 o ho hne
  | 8, 4, _, _, ho => exact allO_spec k1_8_4 o ho hne
  | 8, 5, _, _, ho => exact allO_spec k1_8_5 o ho hne
  | 8, 6, _, _, ho => exact allO_spec k1_8_6 o ho hne
  | 8, 7, _, _, ho => exact allO_spec k1_8_7 o ho hne
  | 8, i + 8, _, hi, _ => omega
  | 9, 0, _, _, ho => exact allO_spec k1_9_0 o ho hne
  | 9, 1, _, _, ho => exact allO_spec k1_9_1 o ho hne
  | 9, 2, _, _, ho => exact allO_spec k1_9_2 o ho hne
  | 9, 3, _, _, ho => exact allO_spec k1_9_3 o ho hne
  | 9, 4, _, _, ho => exact allO_spec k1_9_4 o ho hne
  | 9, 5, _, _, ho => exact allO_spec k1_9_5 o ho hne
  | 9, 6, _, _, ho => exact allO_spec k1_9_6 o ho hne
  | 9, 7, _, _, ho => exact allO_spec k1_9_7 o ho hne
  | 9, 8, _, _, ho => exact allO_spec k1_9_8 o ho hne
  | 9, i + 9, _, hi, _ => omega
  | 10, 0, _, _, ho => exact allO_spec k1_10_0 o ho hne
  | 10, 1, _, _, ho => exact allO_spec k1_10_1 o ho hne
  | 10, 2, _, _, ho => exact allO_spec k1_10_2 o ho hne
  | 10, 3, _, _, ho => exact allO_spec k1_10_3 o ho hne
  | 10, 4, _, _, ho => exact allO_spec k1_10_4 o ho hne
  | 10, 5, _, _, ho => exact allO_spec k1_10_5 o ho hne
  | 10, 6, _, _, ho => exact allO_spec k1_10_6 o ho hne
  | 10, 7, _, _, ho => exact allO_spec k1_10_7 o ho hne
  | 10, 8, _, _, ho => exact allO_spec k1_10_8 o ho hne
  | 10, 9, _, _, ho => exact allO_spec k1_10_9 o ho hne
  | 10, i + 10, _, hi, _ => omega
  | n + 11, _, hn, _, _ => omega

theorem all2 : ∀ n i o : Nat, n ≤ 10 → i < n → o < n → i ≠ o → chk2 n i o = true := by
  intro n i o hn hi ho hne
  match n, i, hn, hi, ho with
  | 0, _, _, hi, _ => omega
  | 1, _, _, hi, ho => omega
  | 2, 0, _, _, ho => exact allO_spec k2_2_0 o ho hne
  | 2, 1, _, _, ho => exact allO_spec k2_2_1 o ho hne
  | 2, i + 2, _, hi, _ => omega
  | 3, 0, _, _, ho => exact allO_spec k2_3_0 o ho hne
  | 3, 1, _, _, ho => exact allO_spec k2_3_1 o ho hne
  | 3, 2, _, _, ho => exact allO_spec k2_3_2 o ho hne
  | 3, i + 3, _, hi, _ => omega
  | 4, 0, _, _, ho => exact allO_spec k2_4_0 o ho hne
  | 4, 1, _, _, ho => exact allO_spec k2_4_1 o ho hne
  | 4, 2, _, _, ho => exact allO_spec k2_4_2 o ho hne
  | 4, 3, _, _, ho => exact allO_spec k2_4_3 o ho hne
  | 4, i + 4, _, hi, _ => omega
  | 5, 0, _, _, ho => exact allO_spec k2_5_0 o ho hne
  | 5, 1, _, _, ho => exact allO_spec k2_5_1 o ho hne
  | 5, 2, _, _, ho => exact allO_spec k2_5_2 o ho hne
  | 5, 3, _, _, ho => exact allO_spec k2_5_3 o ho hne
  | 5, 4, _, _, ho => exact allO_spec k2_5_4 o ho hne
  | 5, i + 5, _, hi, _ => omega
  | 6, 0, _, _, ho => exact allO_spec k2_6_0 o ho hne
  | 6, 1, _, _, ho => exact allO_spec k2_6_1 o ho hne
  | 6, 2, _, _, ho => exact allO_spec k2_6_2 o ho hne
  | 6, 3, _, _, ho => exact allO_spec k2_6_3 o ho hne
  | 6, 4, _, _, ho => exact allO_spec k2_6_4 o ho hne
  | 6, 5, _, _, ho => exact allO_spec k2_6_5 o ho hne
  | 6, i + 6, _, hi, _ => omega
  | 7, 0, _, _, ho => exact allO_spec k2_7_0 o ho hne
  | 7, 1, _, _, ho => exact allO_spec k2_7_1 o ho hne
  | 7, 2, _, _, ho => exact allO_spec k2_7_2 o ho hne
  | 7, 3, _, _, ho => exact allO_spec k2_7_3 o ho hne
  | 7, 4, _, _, ho => exact allO_spec k2_7_4 o ho hne
  | 7, 5, _, _, ho => exact allO_spec k2_7_5 o ho hne
  | 7, 6, _, _, ho => exact allO_spec k2_7_6 o ho hne
  | 7, i + 7, _, hi, _ => omega
  | 8, 0, _, _, ho => exact allO_spec k2_8_0 o ho hne
  | 8, 1, _, _, ho => exact allO_spec k2_8_1 o ho hne
  | 8, 2, _, _, ho => exact allO_spec k2_8_2 o ho hne
  | 8, 3, _, _, ho => exact allO_spec k2_8_3 o ho hne
  | 8, 4, _, _, ho => exact allO_spec k2_8_4 o ho hne
  | 8, 5, _, _, ho => exact allO_spec k2_8_5 o ho hne
  | 8, 6, _, _, ho => exact allO_spec k2_8_6 o ho hne
  | 8, 7, _, _, ho => exact allO_spec k2_8_7 o ho hne
  | 8, i + 8, _, hi, _ => omega
  | 9, 0, _, _, ho => exact allO_spec k2_9_0 o ho hne
  | 9, 1, _, _, ho => exact allO_spec k2_9_1 o ho hne
  | 9, 2, _, _, ho => exact allO_spec k2_9_2 o ho hne
  | 9, 3, _, _, ho => exact allO_spec k2_9_3 o ho hne
  | 9, 4, _, _, ho => exact allO_spec k2_9_4 o ho hne
  | 9, 5, _, _, ho => exact allO_spec k2_9_5 o ho hne
  | 9, 6, _, _, ho => exact allO_spec k2_9_6 o ho hne
  | 9, 7, _, _, ho => exact allO_spec k2_9_7 o ho hne
  | 9, 8, _, _, ho => exact allO_spec k2_9_8 o ho hne
  | 9, i + 9, _, hi, _ => omega
  | 10, 0, _, _, ho => exact allO_spec k2_10_0 o ho hne
  | 10, 1, _, _, ho => exact allO_spec k2_10_1 o ho hne
  | 10, 2, _, _, ho => exact allO_spec k2_10_2 o ho hne
  | 10, 3, _, _, ho => exact allO_spec k2_10_3 o ho hne
  | 10, 4, _, _, ho => exact allO_spec k2_10_4 o ho hne
  | 10, 5, _, _, ho => exact allO_spec k2_10_5 o ho hne
  | 10, 6, _, _, ho => exact allO_spec k2_10_6 o ho hne
  | 10, 7, _, _, ho => exact allO_spec k2_10_7 o ho hne
  | 10, 8, _, _, ho => exact allO_spec k2_10_8 o ho hne
  | 10, 9, _, _, ho => exact allO_spec k2_10_9 o ho hne
  | 10, i + 10, _, hi, _ => omega
  | n + 11, _, hn, _, _ => omega
end Go.Ev.LT

namespace Go.Ev.LS
open Go.Ev.LT (specT)

/-! ### The strength of brine -/
section
variable (wa : Int) (T : Nat → Int) (F : Nat → Nat → Int)
def M (s : Nat) : Int := T s * wa
def SM : Nat → Int
  | 0 => 0
  | s + 1 => SM s + M wa T s
def SO : Nat → Int
  | 0 => 0
  | s + 1 => SO s + M wa T s * F s 2
def SF : Nat → Int
  | 0 => 0
  | s + 1 => SF s + M wa T s * F s 3
def RM : Nat → Int
  | 0 => 0
  | s + 1 => RM s + (F s 2 - F s 3) * M wa T s
def ST : Nat → Int
  | 0 => 0
  | s + 1 => ST s + T s
end

def BR (wa : Int) (T : Nat → Int) (F : Nat → Nat → Int) (n : Nat) : Int := wa * 1000000 - RM wa T F n
def OUT (hold wa : Int) (T : Nat → Int) (F : Nat → Nat → Int) (n : Nat) : Int := SM wa T n * 1000000 - hold * RM wa T F n
def GG (hold wa : Int) (T : Nat → Int) (F : Nat → Nat → Int) (n : Nat) : Int := ((OUT hold wa T F n).toNat.gcd (BR wa T F n).toNat : Nat)

structure Fine (n : Nat) (hold wa : Int) (T : Nat → Int) (F : Nat → Nat → Int) : Prop where
  ho : 1 ≤ hold ∧ hold ≤ 300
  wb : 1 ≤ wa ∧ wa ≤ 1000000
  t : ∀ s, 0 ≤ T s ∧ T s ≤ 300
  st : ∀ s, s ≤ n → ST T s ≤ hold
  op : ∀ s, s < n → 1000 ≤ F s 2 ∧ F s 2 ≤ 3000
  fa : ∀ s, s < n → 0 ≤ F s 3 ∧ F s 3 ≤ F s 2 - 1

section
variable {n : Nat} {hold wa : Int} {T : Nat → Int} {F : Nat → Nat → Int} (f : Fine n hold wa T F)
include f
theorem M_bd (s : Nat) : 0 ≤ M wa T s ∧ M wa T s ≤ 300000000 := by
  have h1 := f.t s; have h2 := f.wb
  unfold M
  exact ⟨Int.mul_nonneg h1.1 (by omega), by
    have : T s * wa ≤ 300 * 1000000 := Int.mul_le_mul h1.2 h2.2 (by omega) (by omega)
    omega⟩
theorem SM_eq (k : Nat) : SM wa T k = ST T k * wa := by
  induction k with
  | zero => simp [SM, ST]
  | succ k ih => simp only [SM, ST, ih, M, Int.add_mul]
theorem SM_nn (k : Nat) : 0 ≤ SM wa T k := by
  induction k with
  | zero => simp [SM]
  | succ k ih => have := M_bd f k; simp only [SM]; omega
theorem SM_bd {k : Nat} (hk : k ≤ n) : SM wa T k ≤ hold * wa ∧ SM wa T k ≤ 300000000 := by
  have h1 := f.st k hk; have h2 := f.wb; have h3 := f.ho
  rw [SM_eq f]
  have e1 : ST T k * wa ≤ hold * wa := Int.mul_le_mul_of_nonneg_right h1 (by omega)
  have e2 : hold * wa ≤ 300 * 1000000 := Int.mul_le_mul h3.2 h2.2 (by omega) (by omega)
  exact ⟨e1, by omega⟩
theorem op_bd {s : Nat} (hs : s < n) : 0 ≤ M wa T s * F s 2 ∧ M wa T s * F s 2 ≤ 3000 * M wa T s := by
  have h1 := M_bd f s; have h2 := f.op s hs
  refine ⟨Int.mul_nonneg h1.1 (by omega), ?_⟩
  rw [Int.mul_comm 3000]
  exact Int.mul_le_mul_of_nonneg_left h2.2 h1.1
theorem fa_bd {s : Nat} (hs : s < n) : 0 ≤ M wa T s * F s 3 ∧ M wa T s * F s 3 ≤ 3000 * M wa T s := by
  have h1 := M_bd f s; have h2 := f.op s hs; have h3 := f.fa s hs
  refine ⟨Int.mul_nonneg h1.1 (by omega), ?_⟩
  rw [Int.mul_comm 3000]
  exact Int.mul_le_mul_of_nonneg_left (by omega) h1.1
theorem rm_bd {s : Nat} (hs : s < n) : 0 ≤ (F s 2 - F s 3) * M wa T s ∧ (F s 2 - F s 3) * M wa T s ≤ 3000 * M wa T s := by
  have h1 := M_bd f s; have h2 := f.op s hs; have h3 := f.fa s hs
  exact ⟨Int.mul_nonneg (by omega) h1.1, Int.mul_le_mul_of_nonneg_right (by omega) h1.1⟩
theorem sums {k : Nat} (hk : k ≤ n) : (0 ≤ SO wa T F k ∧ SO wa T F k ≤ 3000 * SM wa T k) ∧ (0 ≤ SF wa T F k ∧ SF wa T F k ≤ 3000 * SM wa T k) ∧ (0 ≤ RM wa T F k ∧ RM wa T F k ≤ 3000 * SM wa T k) ∧ SO wa T F k - SF wa T F k = RM wa T F k := by
  induction k with
  | zero => simp [SO, SF, RM, SM]
  | succ k ih =>
    have := ih (by omega)
    have h1 := op_bd f (show k < n by omega)
    have h2 := fa_bd f (show k < n by omega)
    have h3 := rm_bd f (show k < n by omega)
    simp only [SO, SF, RM, SM]
    have e : (F k 2 - F k 3) * M wa T k = M wa T k * F k 2 - M wa T k * F k 3 := by rw [Int.mul_comm, Int.mul_sub]
    omega
theorem RM_bd : 0 ≤ RM wa T F n ∧ RM wa T F n ≤ 900000 * wa ∧ RM wa T F n ≤ 900000000000 := by
  have h1 := (sums f (Nat.le_refl n)).2.2.1
  have h2 := SM_bd f (Nat.le_refl n)
  have h3 := f.ho; have h4 := f.wb
  have e : hold * wa ≤ 300 * wa := Int.mul_le_mul_of_nonneg_right h3.2 (by omega)
  omega
theorem BR_bd : 1 ≤ BR wa T F n ∧ BR wa T F n ≤ 1000000000000 := by
  have h1 := RM_bd f; have h4 := f.wb
  unfold BR; omega
theorem HR_bd : 0 ≤ hold * RM wa T F n ∧ hold * RM wa T F n ≤ 900000 * SM wa T n ∧ hold * RM wa T F n ≤ 300000000000000 := by
  have h1 := (sums f (Nat.le_refl n)).2.2.1
  have h2 := SM_bd f (Nat.le_refl n)
  have h3 := f.ho
  have h5 := SM_nn f n
  have e1 : hold * RM wa T F n ≤ 300 * (3000 * SM wa T n) := Int.mul_le_mul h3.2 h1.2 h1.1 (by omega)
  exact ⟨Int.mul_nonneg (by omega) h1.1, by omega, by omega⟩
theorem OUT_bd : 0 ≤ OUT hold wa T F n ∧ OUT hold wa T F n ≤ 300000000000000 := by
  have h1 := HR_bd f
  have h2 := SM_bd f (Nat.le_refl n)
  have h5 := SM_nn f n
  unfold OUT; omega
theorem GG_bd : 1 ≤ GG hold wa T F n ∧ GG hold wa T F n ≤ 1000000000000 := by
  have h1 := BR_bd f
  have hpos : 0 < (BR wa T F n).toNat := by omega
  have e1 : 0 < (OUT hold wa T F n).toNat.gcd (BR wa T F n).toNat := Nat.gcd_pos_of_pos_right _ hpos
  have e2 : (OUT hold wa T F n).toNat.gcd (BR wa T F n).toNat ≤ (BR wa T F n).toNat := Nat.gcd_le_right _ hpos
  unfold GG; omega
end
end Go.Ev.LS

namespace Go.Ev.LS
open Go.Ev.LT (specT)

def vF (s j : Nat) : Nat := 10 + 7 * s + j
def vT (s : Nat) : Nat := 450 + s
def vS (s j : Nat) : Nat := 600 + 20 * s + j

def tabS (hold wa : Int) (T : Nat → Int) (F : Nat → Nat → Int) (s j : Nat) : Int :=
  match j with
  | 0 => M wa T s
  | 1 => M wa T s * F s 2
  | 2 => M wa T s * F s 3
  | 3 => SM wa T s
  | 4 => SO wa T F s
  | 5 => SF wa T F s
  | 6 => F s 2 - F s 3
  | 7 => (F s 2 - F s 3) * M wa T s
  | _ => RM wa T F s

def tabE (hold wa : Int) (T : Nat → Int) (F : Nat → Nat → Int) (n j : Nat) : Int :=
  match j with
  | 0 => wa * 1000000
  | 1 => BR wa T F n
  | 2 => SM wa T n * 1000000
  | 3 => hold * RM wa T F n
  | 4 => OUT hold wa T F n
  | 5 => GG hold wa T F n
  | 6 => (OUT hold wa T F n).tdiv (GG hold wa T F n)
  | _ => (BR wa T F n).tdiv (GG hold wa T F n)

def val (hold wa : Int) (a : Nat → Int) (R T : Nat → Int) (F : Nat → Nat → Int) (n v : Nat) : Int :=
  if v = 0 then hold else if v = 1 then wa else if v < 10 then a v else if v < 400 then F ((v - 10) / 7) ((v - 10) % 7) else if v < 450 then R (v - 400) else if v < 500 then T (v - 450)
  else if v < 600 then tabE hold wa T F n (v - 580) else tabS hold wa T F ((v - 600) / 20) ((v - 600) % 20)
def vals (fv : Value) (hold wa : Int) (a : Nat → Int) (R T : Nat → Int) (F : Nat → Nat → Int) (n v : Nat) : Value := if v = 7 then fv else .int .i64 (val hold wa a R T F n v)

def preX (j s : Nat) : SX := if s = 0 then .c 0 else .v (vS s j)

def entsAt (s : Nat) : List (SX × Nat × Int × Int) :=
  [(.bin 2 (.v (vT s)) (.v 1), vS s 0, 0, 300000000), (.bin 2 (.v (vS s 0)) (.v (vF s 2)), vS s 1, 0, 900000000000), (.bin 2 (.v (vS s 0)) (.v (vF s 3)), vS s 2, 0, 900000000000),
   (.bin 0 (preX 3 s) (.v (vS s 0)), vS (s + 1) 3, 0, 300000000), (.bin 0 (preX 4 s) (.v (vS s 1)), vS (s + 1) 4, 0, 900000000000), (.bin 0 (preX 5 s) (.v (vS s 2)), vS (s + 1) 5, 0, 900000000000),
   (.bin 1 (.v (vF s 2)) (.v (vF s 3)), vS s 6, 1, 3000), (.bin 2 (.v (vS s 6)) (.v (vS s 0)), vS s 7, 0, 900000000000), (.bin 0 (preX 8 s) (.v (vS s 7)), vS (s + 1) 8, 0, 900000000000)]
def entsTo : Nat → List (SX × Nat × Int × Int)
  | 0 => []
  | s + 1 => entsAt s ++ entsTo s
def entsE (n : Nat) : List (SX × Nat × Int × Int) :=
  [(.bin 1 (.v (vS n 4)) (.v (vS n 5)), vS n 8, 0, 900000000000), (.bin 2 (.v 1) (.c 1000000), 580, 1000000, 1000000000000), (.bin 2 (.c 1000000) (.v 1), 580, 1000000, 1000000000000),
   (.bin 1 (.v 580) (.v (vS n 8)), 581, 1, 1000000000000), (.bin 0 (.c 0) (.v 581), 581, 1, 1000000000000),
   (.bin 2 (.v (vS n 3)) (.c 1000000), 582, 0, 300000000000000), (.bin 2 (.c 1000000) (.v (vS n 3)), 582, 0, 300000000000000),
   (.bin 2 (.v 0) (.v (vS n 8)), 583, 0, 300000000000000), (.bin 1 (.v 582) (.v 583), 584, 0, 300000000000000), (.bin 0 (.c 0) (.v 584), 584, 0, 300000000000000),
   (.bin 5 (.v 584) (.v 585), 586, 0, 300000000000000), (.bin 5 (.v 581) (.v 585), 587, 0, 1000000000000)]

section
variable {fv : Value} {hold wa : Int} {a : Nat → Int} {R T : Nat → Int} {F : Nat → Nat → Int} {n : Nat}
theorem valI_vals {v : Nat} (h : v ≠ 7) : valI (vals fv hold wa a R T F n v) = val hold wa a R T F n v := by unfold vals; rw [if_neg h]; rfl
theorem val_F {s j : Nat} (hs : s < 20) (hj : j < 7) : val hold wa a R T F n (vF s j) = F s j := by
  unfold val vF
  rw [if_neg (by omega), if_neg (by omega), if_neg (by omega), if_pos (by omega)]
  have h1 : (10 + 7 * s + j - 10) / 7 = s := by omega
  have h2 : (10 + 7 * s + j - 10) % 7 = j := by omega
  rw [h1, h2]
theorem val_R {s : Nat} (hs : s < 50) : val hold wa a R T F n (400 + s) = R s := by
  unfold val
  rw [if_neg (by omega), if_neg (by omega), if_neg (by omega), if_neg (by omega), if_pos (by omega), Nat.add_sub_cancel_left]
theorem val_T {s : Nat} (hs : s < 50) : val hold wa a R T F n (vT s) = T s := by
  unfold val vT
  rw [if_neg (by omega), if_neg (by omega), if_neg (by omega), if_neg (by omega), if_neg (by omega), if_pos (by omega), Nat.add_sub_cancel_left]
theorem val_S {s j : Nat} (hj : j < 20) : val hold wa a R T F n (vS s j) = tabS hold wa T F s j := by
  unfold val vS
  rw [if_neg (by omega), if_neg (by omega), if_neg (by omega), if_neg (by omega), if_neg (by omega), if_neg (by omega), if_neg (by omega)]
  have h1 : (600 + 20 * s + j - 600) / 20 = s := by omega
  have h2 : (600 + 20 * s + j - 600) % 20 = j := by omega
  rw [h1, h2]
theorem val_E {j : Nat} (hj : j < 20) : val hold wa a R T F n (580 + j) = tabE hold wa T F n j := by
  unfold val
  rw [if_neg (by omega), if_neg (by omega), if_neg (by omega), if_neg (by omega), if_neg (by omega), if_neg (by omega), if_pos (by omega), Nat.add_sub_cancel_left]

theorem ev_S {s j : Nat} (hj : j < 20) : valI (vals fv hold wa a R T F n (vS s j)) = tabS hold wa T F s j := by rw [valI_vals (by unfold vS; omega), val_S hj]
theorem ev_E {j : Nat} (hj : j < 20) : valI (vals fv hold wa a R T F n (580 + j)) = tabE hold wa T F n j := by rw [valI_vals (by omega), val_E hj]
theorem ev_F {s j : Nat} (hs : s < 20) (hj : j < 7) : valI (vals fv hold wa a R T F n (vF s j)) = F s j := by rw [valI_vals (by unfold vF; omega), val_F hs hj]
theorem ev_T {s : Nat} (hs : s < 50) : valI (vals fv hold wa a R T F n (vT s)) = T s := by rw [valI_vals (by unfold vT; omega), val_T hs]
theorem ev_pre {j s : Nat} (hj : j < 20) (h0 : tabS hold wa T F 0 j = 0) : (preX j s).eval (vals fv hold wa a R T F n) = tabS hold wa T F s j := by
  unfold preX
  split
  · rename_i h; subst h; rw [h0]; rfl
  · simp only [SX.eval]; exact ev_S hj
theorem ev_0 : valI (vals fv hold wa a R T F n 0) = hold := rfl
theorem ev_1 : valI (vals fv hold wa a R T F n 1) = wa := rfl

def NameOk (o : Nat → Value) (x : SX) (v : Nat) (lo hi : Int) : Prop := x.eval o = valI (o v) ∧ lo ≤ valI (o v) ∧ valI (o v) ≤ hi

theorem entsAt_ok (f : Fine n hold wa T F) {s : Nat} (hs : s < n) (hn : n ≤ 10) : ∀ x v lo hi, (x, v, lo, hi) ∈ entsAt s → NameOk (vals fv hold wa a R T F n) x v lo hi := by
  intro x v lo hi hm
  have b0 := M_bd f s
  have b1 := op_bd f hs
  have b2 := fa_bd f hs
  have b3 := rm_bd f hs
  have b4 := sums f (show s + 1 ≤ n by omega)
  have b5 := SM_bd f (show s + 1 ≤ n by omega)
  have b6 := SM_nn f (s + 1)
  have b7 := f.op s hs
  have b8 := f.fa s hs
  simp only [entsAt, List.mem_cons, Prod.mk.injEq, List.not_mem_nil, or_false] at hm
  rcases hm with ⟨rfl, rfl, rfl, rfl⟩ | ⟨rfl, rfl, rfl, rfl⟩ | ⟨rfl, rfl, rfl, rfl⟩ | ⟨rfl, rfl, rfl, rfl⟩ | ⟨rfl, rfl, rfl, rfl⟩ | ⟨rfl, rfl, rfl, rfl⟩ | ⟨rfl, rfl, rfl, rfl⟩ | ⟨rfl, rfl, rfl, rfl⟩ | ⟨rfl, rfl, rfl, rfl⟩
  all_goals unfold NameOk
  · rw [ev_S (by omega)]; simp only [SX.eval]; rw [ev_T (by omega), ev_1]; exact ⟨rfl, b0⟩
  · rw [ev_S (by omega)]; simp only [SX.eval]; rw [ev_S (by omega), ev_F (by omega) (by omega)]; exact ⟨rfl, b1.1, by show M wa T s * F s 2 ≤ _; omega⟩
  · rw [ev_S (by omega)]; simp only [SX.eval]; rw [ev_S (by omega), ev_F (by omega) (by omega)]; exact ⟨rfl, b2.1, by show M wa T s * F s 3 ≤ _; omega⟩
  · rw [ev_S (by omega)]; simp only [SX.eval]; rw [ev_S (by omega), ev_pre (by omega) rfl]; exact ⟨rfl, b6, b5.2⟩
  · rw [ev_S (by omega)]; simp only [SX.eval]; rw [ev_S (by omega), ev_pre (by omega) rfl]; exact ⟨rfl, b4.1.1, by show SO wa T F (s + 1) ≤ _; omega⟩
  · rw [ev_S (by omega)]; simp only [SX.eval]; rw [ev_S (by omega), ev_pre (by omega) rfl]; exact ⟨rfl, b4.2.1.1, by show SF wa T F (s + 1) ≤ _; omega⟩
  · rw [ev_S (by omega)]; simp only [SX.eval]; rw [ev_F (by omega) (by omega), ev_F (by omega) (by omega)]; exact ⟨rfl, by show 1 ≤ F s 2 - F s 3; omega, by show F s 2 - F s 3 ≤ _; omega⟩
  · rw [ev_S (by omega)]; simp only [SX.eval]; rw [ev_S (by omega), ev_S (by omega)]; exact ⟨rfl, b3.1, by show (F s 2 - F s 3) * M wa T s ≤ _; omega⟩
  · rw [ev_S (by omega)]; simp only [SX.eval]; rw [ev_S (by omega), ev_pre (by omega) rfl]; exact ⟨rfl, b4.2.2.1.1, by show RM wa T F (s + 1) ≤ _; omega⟩

theorem entsTo_ok (f : Fine n hold wa T F) (hn : n ≤ 10) : ∀ {m : Nat}, m ≤ n → ∀ x v lo hi, (x, v, lo, hi) ∈ entsTo m → NameOk (vals fv hold wa a R T F n) x v lo hi
  | 0, _, _, _, _, _, h => by cases h
  | m + 1, hm, x, v, lo, hi, h => by
    simp only [entsTo, List.mem_append] at h
    rcases h with h | h
    · exact entsAt_ok f (by omega) hn x v lo hi h
    · exact entsTo_ok f hn (by omega) x v lo hi h

theorem tdiv_bd {x g u : Int} (h1 : 0 ≤ x) (h2 : x ≤ u) (h3 : 1 ≤ g) : 0 ≤ x.tdiv g ∧ x.tdiv g ≤ u := by
  rw [Int.tdiv_eq_ediv_of_nonneg h1]
  exact ⟨Int.ediv_nonneg h1 (by omega), Int.le_trans (Int.ediv_le_self _ h1) h2⟩

theorem entsE_ok (f : Fine n hold wa T F) : ∀ x v lo hi, (x, v, lo, hi) ∈ entsE n → NameOk (vals fv hold wa a R T F n) x v lo hi := by
  intro x v lo hi hm
  have b1 := RM_bd f
  have b2 := BR_bd f
  have b3 := HR_bd f
  have b4 := OUT_bd f
  have b5 := GG_bd f
  have b6 := SM_bd f (Nat.le_refl n)
  have b7 := SM_nn f n
  have b8 := f.wb
  have b9 := (sums f (Nat.le_refl n)).2.2.2
  have b10 := tdiv_bd b4.1 b4.2 b5.1
  have b11 := tdiv_bd (show 0 ≤ BR wa T F n by omega) b2.2 b5.1
  have e0 : ∀ j, j < 8 → valI (vals fv hold wa a R T F n (580 + j)) = tabE hold wa T F n j := fun j hj => ev_E (by omega)
  simp only [entsE, List.mem_cons, Prod.mk.injEq, List.not_mem_nil, or_false] at hm
  rcases hm with ⟨rfl, rfl, rfl, rfl⟩ | ⟨rfl, rfl, rfl, rfl⟩ | ⟨rfl, rfl, rfl, rfl⟩ | ⟨rfl, rfl, rfl, rfl⟩ | ⟨rfl, rfl, rfl, rfl⟩ | ⟨rfl, rfl, rfl, rfl⟩ | ⟨rfl, rfl, rfl, rfl⟩ | ⟨rfl, rfl, rfl, rfl⟩ | ⟨rfl, rfl, rfl, rfl⟩ | ⟨rfl, rfl, rfl, rfl⟩ | ⟨rfl, rfl, rfl, rfl⟩ | ⟨rfl, rfl, rfl, rfl⟩
  all_goals unfold NameOk
  · rw [ev_S (by omega)]; simp only [SX.eval]; rw [ev_S (by omega), ev_S (by omega)]; exact ⟨b9, b1.1, b1.2.2⟩
  · rw [e0 0 (by omega)]; simp only [SX.eval]; rw [ev_1]; exact ⟨rfl, by show 1000000 ≤ wa * 1000000; omega, by show wa * 1000000 ≤ _; omega⟩
  · rw [e0 0 (by omega)]; simp only [SX.eval]; rw [ev_1]; exact ⟨Int.mul_comm _ _, by show 1000000 ≤ wa * 1000000; omega, by show wa * 1000000 ≤ _; omega⟩
  · rw [e0 1 (by omega)]; simp only [SX.eval]; rw [e0 0 (by omega), ev_S (by omega)]; exact ⟨rfl, b2⟩
  · rw [e0 1 (by omega)]; simp only [SX.eval]; rw [e0 1 (by omega)]; exact ⟨Int.zero_add _, b2⟩
  · rw [e0 2 (by omega)]; simp only [SX.eval]; rw [ev_S (by omega)]; exact ⟨rfl, by show 0 ≤ SM wa T n * 1000000; omega, by show SM wa T n * 1000000 ≤ _; omega⟩
  · rw [e0 2 (by omega)]; simp only [SX.eval]; rw [ev_S (by omega)]; exact ⟨Int.mul_comm _ _, by show 0 ≤ SM wa T n * 1000000; omega, by show SM wa T n * 1000000 ≤ _; omega⟩
  · rw [e0 3 (by omega)]; simp only [SX.eval]; rw [ev_0, ev_S (by omega)]; exact ⟨rfl, b3.1, b3.2.2⟩
  · rw [e0 4 (by omega)]; simp only [SX.eval]; rw [e0 2 (by omega), e0 3 (by omega)]; exact ⟨rfl, b4⟩
  · rw [e0 4 (by omega)]; simp only [SX.eval]; rw [e0 4 (by omega)]; exact ⟨Int.zero_add _, b4⟩
  · rw [e0 6 (by omega)]; simp only [SX.eval]; rw [e0 4 (by omega), e0 5 (by omega)]; exact ⟨rfl, b10⟩
  · rw [e0 7 (by omega)]; simp only [SX.eval]; rw [e0 1 (by omega), e0 5 (by omega)]; exact ⟨rfl, b11⟩
end
end Go.Ev.LS

namespace Go.Ev.LS
open Go.Ev.LT (specT ratesC)

noncomputable abbrev P : Program := Go.Proofs.Tryz.prog

/-- The rates of an n-slice cavern, out of the variables. -/
def RR (n : Nat) (o : Nat → Value) (s : Nat) : Int := if s < n then valI (o (400 + s)) else 0

structure Extra (n : Nat) (o : Nat → Value) : Prop where
  good : LT.Good (valI (o 0)) (RR n o)
  oil : 0 ≤ valI (o 3) ∧ valI (o 3) ≤ 10000000000000
  wa : 1 ≤ valI (o 1) ∧ valI (o 1) ≤ 1000000
  bl : 0 ≤ valI (o 2) ∧ valI (o 2) ≤ 10
  io : ∃ i j : Nat, valI (o 8) = i ∧ valI (o 9) = j ∧ i < n ∧ j < n ∧ i ≠ j ∧ ∀ s, s < n → valI (o (vT s)) = specT (valI (o 0)) (RR n o) i j s
  gcd : 0 ≤ valI (o 584) ∧ valI (o 584) ≤ 300000000000000 ∧ 1 ≤ valI (o 581) ∧ valI (o 581) ≤ 1000000000000 ∧ valI (o 585) = ((valI (o 584)).toNat.gcd (valI (o 581)).toNat : Nat)
  gpos : 1 ≤ valI (o 585) ∧ valI (o 585) ≤ 1000000000000

def ctx (n : Nat) : Ctx := ⟨entsE n ++ entsTo n, [], [], Extra n⟩

/-! ### What is run -/
def sliceC {G : Ctx} (s : Nat) : List (AV G) :=
  [.sx (.v (vF s 0)) 0 10000000000000, .sx (.v (vF s 1)) 0 10000000000000, .sx (.v (vF s 2)) 1000 3000, .sx (.v (vF s 3)) 0 2999, .sx (.v (vF s 4)) 0 300, .sx (.v (vF s 5)) 0 300, .sx (.v (vF s 6)) 0 10000000000000]
def slicesC {G : Ctx} : Nat → Nat → List (AV G)
  | 0, _ => []
  | n + 1, s => sliceC s ++ slicesC n (s + 1)
def cavA {G : Ctx} (n : Nat) : AV G := .agg [.slice 0 0 n 7 true, .sx (.v 0) 1 300, .sx (.v 3) 0 10000000000000]
def inqA {G : Ctx} (n : Nat) : AV G := .agg [.slice 0 0 n 7 true, .sx (.v 0) 1 300, .sx (.v 3) 0 10000000000000, .opq 7]
def stageA {G : Ctx} : AV G := .agg [.sx (.v 1) 1 1000000, .sx (.v 8) 0 9, .sx (.v 9) 0 9, .sx (.v 2) 0 10]
def rateA {G : Ctx} (n : Nat) : AV G := .slice 1 0 n 1 true
def takesC {G : Ctx} : Nat → List (AV G)
  | 0 => []
  | s + 1 => takesC s ++ [.sx (.v (vT s)) 0 300]
def outA {G : Ctx} : AV G := .sx (.v 584) 0 300000000000000
def brA {G : Ctx} : AV G := .sx (.v 581) 1 1000000000000
def fracA {G : Ctx} : AV G := .agg [.sx (.v 586) 0 300000000000000, .sx (.v 587) 0 1000000000000]

def memOk {G : Ctx} (n : Nat) (h : AH G) : Bool := hasF 0 (slicesC n 0) h && hasF 1 (ratesC n) h
def K (n : Nat) : List (KE (ctx n)) :=
  [KE.row 158 [inqA n, stageA, rateA n] (memOk n) (fun id => .slice id 0 n n false) (takesC n), KE.row 32 [cavA n, stageA, rateA n] (memOk n) (fun id => .slice id 0 n n false) (takesC n),
   KE.same 159 [outA, brA] (fun _ => true) (.sx (.v 585) 1 1000000000000), KE.same 160 [outA, brA] (fun _ => true) (.sx (.v 585) 1 1000000000000)]

def okFrac {G : Ctx} : Option (Res G) → Bool
  | some (.ret v _) => sameA v fracA
  | _ => false
def chk3 (n : Nat) : Bool := okFrac (evK P (K n) (drawA P) 20000 (.call 124 [inqA n, stageA, rateA n] (frnH [slicesC n 0, ratesC n])))
def chk4 (n : Nat) : Bool := okFrac (evK P (K n) (drawA P) 20000 (.call 82 [cavA n, stageA, rateA n] (frnH [slicesC n 0, ratesC n])))
end Go.Ev.LS

