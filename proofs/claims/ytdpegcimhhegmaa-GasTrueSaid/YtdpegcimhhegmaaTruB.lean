import Derived.Test.YtdpegcimhhegmaaTyA
import Derived.Test.YtdpegcimhhegmaaTyB
import Derived.Test.YtdpegcimhhegmaaTyC
import Derived.Test.YtdpegcimhhegmaaTyD
import Derived.Test.YtdpegcimhhegmaaTyE
import Derived.Test.YtdpegcimhhegmaaTruA
import Derived.Test.YtdpegcimhhegmaaRunA
import Derived.Test.YtdpegcimhhegmaaRunB
import Derived.Test.YtdpegcimhhegmaaRunC
import Derived.Test.YtdpegcimhhegmaaRunD
import Derived.Test.YtdpegcimhhegmaaRunE
import Derived.Test.YtdpegcimhhegmaaRunF
set_option linter.unusedVariables false
set_option linter.unusedSimpArgs false
set_option linter.unusedSectionVars false
noncomputable section
set_option maxRecDepth 1000000
set_option maxHeartbeats 0
namespace Go.Ev.Gas
theorem k39n_1_0 : ∀ j, j < 1 → ok39 1 j 0 = true
  | 0, _ => k39_1_0_0
  | j + 1, h => absurd h (by omega)
theorem k39n_1_1 : ∀ j, j < 1 → ok39 1 j 1 = true
  | 0, _ => k39_1_0_1
  | j + 1, h => absurd h (by omega)
theorem k39n_2_0 : ∀ j, j < 2 → ok39 2 j 0 = true
  | 0, _ => k39_2_0_0
  | 1, _ => k39_2_1_0
  | j + 2, h => absurd h (by omega)
theorem k39n_2_1 : ∀ j, j < 2 → ok39 2 j 1 = true
  | 0, _ => k39_2_0_1
  | 1, _ => k39_2_1_1
  | j + 2, h => absurd h (by omega)
theorem k39n_3_0 : ∀ j, j < 3 → ok39 3 j 0 = true
  | 0, _ => k39_3_0_0
  | 1, _ => k39_3_1_0
  | 2, _ => k39_3_2_0
  | j + 3, h => absurd h (by omega)
theorem k39n_3_1 : ∀ j, j < 3 → ok39 3 j 1 = true
  | 0, _ => k39_3_0_1
  | 1, _ => k39_3_1_1
  | 2, _ => k39_3_2_1
  | j + 3, h => absurd h (by omega)
theorem k39n_4_0 : ∀ j, j < 4 → ok39 4 j 0 = true
  | 0, _ => k39_4_0_0
  | 1, _ => k39_4_1_0
  | 2, _ => k39_4_2_0
  | 3, _ => k39_4_3_0
  | j + 4, h => absurd h (by omega)
theorem k39n_4_1 : ∀ j, j < 4 → ok39 4 j 1 = true
  | 0, _ => k39_4_0_1
  | 1, _ => k39_4_1_1
  | 2, _ => k39_4_2_1
  | 3, _ => k39_4_3_1
  | j + 4, h => absurd h (by omega)
theorem k39n_5_0 : ∀ j, j < 5 → ok39 5 j 0 = true
  | 0, _ => k39_5_0_0
  | 1, _ => k39_5_1_0
  | 2, _ => k39_5_2_0
  | 3, _ => k39_5_3_0
  | 4, _ => k39_5_4_0
  | j + 5, h => absurd h (by omega)
theorem k39n_5_1 : ∀ j, j < 5 → ok39 5 j 1 = true
  | 0, _ => k39_5_0_1
  | 1, _ => k39_5_1_1
  | 2, _ => k39_5_2_1
  | 3, _ => k39_5_3_1
  | 4, _ => k39_5_4_1
  | j + 5, h => absurd h (by omega)
theorem k39n_6_0 : ∀ j, j < 6 → ok39 6 j 0 = true
  | 0, _ => k39_6_0_0
  | 1, _ => k39_6_1_0
  | 2, _ => k39_6_2_0
  | 3, _ => k39_6_3_0
  | 4, _ => k39_6_4_0
  | 5, _ => k39_6_5_0
  | j + 6, h => absurd h (by omega)
theorem k39n_6_1 : ∀ j, j < 6 → ok39 6 j 1 = true
  | 0, _ => k39_6_0_1
  | 1, _ => k39_6_1_1
  | 2, _ => k39_6_2_1
  | 3, _ => k39_6_3_1
  | 4, _ => k39_6_4_1
  | 5, _ => k39_6_5_1
  | j + 6, h => absurd h (by omega)
theorem k39n_7_0 : ∀ j, j < 7 → ok39 7 j 0 = true
  | 0, _ => k39_7_0_0
  | 1, _ => k39_7_1_0
  | 2, _ => k39_7_2_0
  | 3, _ => k39_7_3_0
  | 4, _ => k39_7_4_0
  | 5, _ => k39_7_5_0
  | 6, _ => k39_7_6_0
  | j + 7, h => absurd h (by omega)
theorem k39n_7_1 : ∀ j, j < 7 → ok39 7 j 1 = true
  | 0, _ => k39_7_0_1
  | 1, _ => k39_7_1_1
  | 2, _ => k39_7_2_1
  | 3, _ => k39_7_3_1
  | 4, _ => k39_7_4_1
  | 5, _ => k39_7_5_1
  | 6, _ => k39_7_6_1
  | j + 7, h => absurd h (by omega)
theorem k39n_8_0 : ∀ j, j < 8 → ok39 8 j 0 = true
  | 0, _ => k39_8_0_0
  | 1, _ => k39_8_1_0
  | 2, _ => k39_8_2_0
  | 3, _ => k39_8_3_0
  | 4, _ => k39_8_4_0
  | 5, _ => k39_8_5_0
  | 6, _ => k39_8_6_0
  | 7, _ => k39_8_7_0
  | j + 8, h => absurd h (by omega)
theorem k39n_8_1 : ∀ j, j < 8 → ok39 8 j 1 = true
  | 0, _ => k39_8_0_1
  | 1, _ => k39_8_1_1
  | 2, _ => k39_8_2_1
  | 3, _ => k39_8_3_1
  | 4, _ => k39_8_4_1
  | 5, _ => k39_8_5_1
  | 6, _ => k39_8_6_1
  | 7, _ => k39_8_7_1
  | j + 8, h => absurd h (by omega)
theorem k39n_9_0 : ∀ j, j < 9 → ok39 9 j 0 = true
  | 0, _ => k39_9_0_0
  | 1, _ => k39_9_1_0
  | 2, _ => k39_9_2_0
  | 3, _ => k39_9_3_0
  | 4, _ => k39_9_4_0
  | 5, _ => k39_9_5_0
  | 6, _ => k39_9_6_0
  | 7, _ => k39_9_7_0
  | 8, _ => k39_9_8_0
  | j + 9, h => absurd h (by omega)
theorem k39n_9_1 : ∀ j, j < 9 → ok39 9 j 1 = true
  | 0, _ => k39_9_0_1
  | 1, _ => k39_9_1_1
  | 2, _ => k39_9_2_1
  | 3, _ => k39_9_3_1
  | 4, _ => k39_9_4_1
  | 5, _ => k39_9_5_1
  | 6, _ => k39_9_6_1
  | 7, _ => k39_9_7_1
  | 8, _ => k39_9_8_1
  | j + 9, h => absurd h (by omega)
theorem k39n_10_0 : ∀ j, j < 10 → ok39 10 j 0 = true
  | 0, _ => k39_10_0_0
  | 1, _ => k39_10_1_0
  | 2, _ => k39_10_2_0
  | 3, _ => k39_10_3_0
  | 4, _ => k39_10_4_0
  | 5, _ => k39_10_5_0
  | 6, _ => k39_10_6_0
  | 7, _ => k39_10_7_0
  | 8, _ => k39_10_8_0
  | 9, _ => k39_10_9_0
  | j + 10, h => absurd h (by omega)
theorem k39n_10_1 : ∀ j, j < 10 → ok39 10 j 1 = true
  | 0, _ => k39_10_0_1
  | 1, _ => k39_10_1_1
  | 2, _ => k39_10_2_1
  | 3, _ => k39_10_3_1
  | 4, _ => k39_10_4_1
  | 5, _ => k39_10_5_1
  | 6, _ => k39_10_6_1
  | 7, _ => k39_10_7_1
  | 8, _ => k39_10_8_1
  | 9, _ => k39_10_9_1
  | j + 10, h => absurd h (by omega)
theorem k39n_11_0 : ∀ j, j < 11 → ok39 11 j 0 = true
  | 0, _ => k39_11_0_0
  | 1, _ => k39_11_1_0
  | 2, _ => k39_11_2_0
  | 3, _ => k39_11_3_0
  | 4, _ => k39_11_4_0
  | 5, _ => k39_11_5_0
  | 6, _ => k39_11_6_0
  | 7, _ => k39_11_7_0
  | 8, _ => k39_11_8_0
  | 9, _ => k39_11_9_0
  | 10, _ => k39_11_10_0
  | j + 11, h => absurd h (by omega)
theorem k39n_11_1 : ∀ j, j < 11 → ok39 11 j 1 = true
  | 0, _ => k39_11_0_1
  | 1, _ => k39_11_1_1
  | 2, _ => k39_11_2_1
  | 3, _ => k39_11_3_1
  | 4, _ => k39_11_4_1
  | 5, _ => k39_11_5_1
  | 6, _ => k39_11_6_1
  | 7, _ => k39_11_7_1
  | 8, _ => k39_11_8_1
  | 9, _ => k39_11_9_1
  | 10, _ => k39_11_10_1
  | j + 11, h => absurd h (by omega)
theorem k39n_12_0 : ∀ j, j < 12 → ok39 12 j 0 = true
  | 0, _ => k39_12_0_0
  | 1, _ => k39_12_1_0
  | 2, _ => k39_12_2_0
  | 3, _ => k39_12_3_0
  | 4, _ => k39_12_4_0
  | 5, _ => k39_12_5_0
  | 6, _ => k39_12_6_0
  | 7, _ => k39_12_7_0
  | 8, _ => k39_12_8_0
  | 9, _ => k39_12_9_0
  | 10, _ => k39_12_10_0
  | 11, _ => k39_12_11_0
  | j + 12, h => absurd h (by omega)
theorem k39n_12_1 : ∀ j, j < 12 → ok39 12 j 1 = true
  | 0, _ => k39_12_0_1
  | 1, _ => k39_12_1_1
  | 2, _ => k39_12_2_1
  | 3, _ => k39_12_3_1
  | 4, _ => k39_12_4_1
  | 5, _ => k39_12_5_1
  | 6, _ => k39_12_6_1
  | 7, _ => k39_12_7_1
  | 8, _ => k39_12_8_1
  | 9, _ => k39_12_9_1
  | 10, _ => k39_12_10_1
  | 11, _ => k39_12_11_1
  | j + 12, h => absurd h (by omega)
theorem k39_no : ∀ n j kd, 1 ≤ n → n ≤ 12 → j < n → kd < 2 → ok39 n j kd = true
  | 0, _, _, h, _, _, _ => absurd h (by omega)
  | 1, j, 0, _, _, h, _ => k39n_1_0 j h
  | 1, j, 1, _, _, h, _ => k39n_1_1 j h
  | 1, j, kd + 2, _, _, _, h => absurd h (by omega)
  | 2, j, 0, _, _, h, _ => k39n_2_0 j h
  | 2, j, 1, _, _, h, _ => k39n_2_1 j h
  | 2, j, kd + 2, _, _, _, h => absurd h (by omega)
  | 3, j, 0, _, _, h, _ => k39n_3_0 j h
  | 3, j, 1, _, _, h, _ => k39n_3_1 j h
  | 3, j, kd + 2, _, _, _, h => absurd h (by omega)
  | 4, j, 0, _, _, h, _ => k39n_4_0 j h
  | 4, j, 1, _, _, h, _ => k39n_4_1 j h
  | 4, j, kd + 2, _, _, _, h => absurd h (by omega)
  | 5, j, 0, _, _, h, _ => k39n_5_0 j h
  | 5, j, 1, _, _, h, _ => k39n_5_1 j h
  | 5, j, kd + 2, _, _, _, h => absurd h (by omega)
  | 6, j, 0, _, _, h, _ => k39n_6_0 j h
  | 6, j, 1, _, _, h, _ => k39n_6_1 j h
  | 6, j, kd + 2, _, _, _, h => absurd h (by omega)
  | 7, j, 0, _, _, h, _ => k39n_7_0 j h
  | 7, j, 1, _, _, h, _ => k39n_7_1 j h
  | 7, j, kd + 2, _, _, _, h => absurd h (by omega)
  | 8, j, 0, _, _, h, _ => k39n_8_0 j h
  | 8, j, 1, _, _, h, _ => k39n_8_1 j h
  | 8, j, kd + 2, _, _, _, h => absurd h (by omega)
  | 9, j, 0, _, _, h, _ => k39n_9_0 j h
  | 9, j, 1, _, _, h, _ => k39n_9_1 j h
  | 9, j, kd + 2, _, _, _, h => absurd h (by omega)
  | 10, j, 0, _, _, h, _ => k39n_10_0 j h
  | 10, j, 1, _, _, h, _ => k39n_10_1 j h
  | 10, j, kd + 2, _, _, _, h => absurd h (by omega)
  | 11, j, 0, _, _, h, _ => k39n_11_0 j h
  | 11, j, 1, _, _, h, _ => k39n_11_1 j h
  | 11, j, kd + 2, _, _, _, h => absurd h (by omega)
  | 12, j, 0, _, _, h, _ => k39n_12_0 j h
  | 12, j, 1, _, _, h, _ => k39n_12_1 j h
  | 12, j, kd + 2, _, _, _, h => absurd h (by omega)
  | n + 13, _, _, _, h, _, _ => absurd h (by omega)
theorem k39_yes : ∀ n, 1 ≤ n → n ≤ 12 → ok39 n n 2 = true
  | 0, h, _ => absurd h (by omega)
  | 1, _, _ => k39_1_1
  | 2, _, _ => k39_2_2
  | 3, _, _ => k39_3_3
  | 4, _, _ => k39_4_4
  | 5, _, _ => k39_5_5
  | 6, _, _ => k39_6_6
  | 7, _, _ => k39_7_7
  | 8, _, _ => k39_8_8
  | 9, _, _ => k39_9_9
  | 10, _, _ => k39_10_10
  | 11, _, _ => k39_11_11
  | 12, _, _ => k39_12_12
  | n + 13, _, h => absurd h (by omega)
end Go.Ev.Gas
end

section
set_option maxRecDepth 100000
namespace Go.Ev.Gas
theorem oktn_1 : ∀ k, k ≤ 1 → okT 1 k = true
  | 0, _ => okT_1_0
  | 1, _ => okT_1_1
  | k + 2, h => absurd h (by omega)
theorem oktn_2 : ∀ k, k ≤ 2 → okT 2 k = true
  | 0, _ => okT_2_0
  | 1, _ => okT_2_1
  | 2, _ => okT_2_2
  | k + 3, h => absurd h (by omega)
theorem oktn_3 : ∀ k, k ≤ 3 → okT 3 k = true
  | 0, _ => okT_3_0
  | 1, _ => okT_3_1
  | 2, _ => okT_3_2
  | 3, _ => okT_3_3
  | k + 4, h => absurd h (by omega)
theorem oktn_4 : ∀ k, k ≤ 4 → okT 4 k = true
  | 0, _ => okT_4_0
  | 1, _ => okT_4_1
  | 2, _ => okT_4_2
  | 3, _ => okT_4_3
  | 4, _ => okT_4_4
  | k + 5, h => absurd h (by omega)
theorem oktn_5 : ∀ k, k ≤ 5 → okT 5 k = true
  | 0, _ => okT_5_0
  | 1, _ => okT_5_1
  | 2, _ => okT_5_2
  | 3, _ => okT_5_3
  | 4, _ => okT_5_4
  | 5, _ => okT_5_5
  | k + 6, h => absurd h (by omega)
theorem oktn_6 : ∀ k, k ≤ 6 → okT 6 k = true
  | 0, _ => okT_6_0
  | 1, _ => okT_6_1
  | 2, _ => okT_6_2
  | 3, _ => okT_6_3
  | 4, _ => okT_6_4
  | 5, _ => okT_6_5
  | 6, _ => okT_6_6
  | k + 7, h => absurd h (by omega)
theorem oktn_7 : ∀ k, k ≤ 7 → okT 7 k = true
  | 0, _ => okT_7_0
  | 1, _ => okT_7_1
  | 2, _ => okT_7_2
  | 3, _ => okT_7_3
  | 4, _ => okT_7_4
  | 5, _ => okT_7_5
  | 6, _ => okT_7_6
  | 7, _ => okT_7_7
  | k + 8, h => absurd h (by omega)
theorem oktn_8 : ∀ k, k ≤ 8 → okT 8 k = true
  | 0, _ => okT_8_0
  | 1, _ => okT_8_1
  | 2, _ => okT_8_2
  | 3, _ => okT_8_3
  | 4, _ => okT_8_4
  | 5, _ => okT_8_5
  | 6, _ => okT_8_6
  | 7, _ => okT_8_7
  | 8, _ => okT_8_8
  | k + 9, h => absurd h (by omega)
theorem oktn_9 : ∀ k, k ≤ 9 → okT 9 k = true
  | 0, _ => okT_9_0
  | 1, _ => okT_9_1
  | 2, _ => okT_9_2
  | 3, _ => okT_9_3
  | 4, _ => okT_9_4
  | 5, _ => okT_9_5
  | 6, _ => okT_9_6
  | 7, _ => okT_9_7
  | 8, _ => okT_9_8
  | 9, _ => okT_9_9
  | k + 10, h => absurd h (by omega)
theorem oktn_10 : ∀ k, k ≤ 10 → okT 10 k = true
  | 0, _ => okT_10_0
  | 1, _ => okT_10_1
  | 2, _ => okT_10_2
  | 3, _ => okT_10_3
  | 4, _ => okT_10_4
  | 5, _ => okT_10_5
  | 6, _ => okT_10_6
  | 7, _ => okT_10_7
  | 8, _ => okT_10_8
  | 9, _ => okT_10_9
  | 10, _ => okT_10_10
  | k + 11, h => absurd h (by omega)
theorem oktn_11 : ∀ k, k ≤ 11 → okT 11 k = true
  | 0, _ => okT_11_0
  | 1, _ => okT_11_1
  | 2, _ => okT_11_2
  | 3, _ => okT_11_3
  | 4, _ => okT_11_4
  | 5, _ => okT_11_5
  | 6, _ => okT_11_6
  | 7, _ => okT_11_7
  | 8, _ => okT_11_8
  | 9, _ => okT_11_9
  | 10, _ => okT_11_10
  | 11, _ => okT_11_11
  | k + 12, h => absurd h (by omega)
theorem oktn_12 : ∀ k, k ≤ 12 → okT 12 k = true
  | 0, _ => okT_12_0
  | 1, _ => okT_12_1
  | 2, _ => okT_12_2
  | 3, _ => okT_12_3
  | 4, _ => okT_12_4
  | 5, _ => okT_12_5
  | 6, _ => okT_12_6
  | 7, _ => okT_12_7
  | 8, _ => okT_12_8
  | 9, _ => okT_12_9
  | 10, _ => okT_12_10
  | 11, _ => okT_12_11
  | 12, _ => okT_12_12
  | k + 13, h => absurd h (by omega)
theorem okT_all : ∀ n k, 1 ≤ n → n ≤ 12 → k ≤ n → okT n k = true
  | 0, k, h, _, _ => absurd h (by omega)
  | 1, k, _, _, h => oktn_1 k h
  | 2, k, _, _, h => oktn_2 k h
  | 3, k, _, _, h => oktn_3 k h
  | 4, k, _, _, h => oktn_4 k h
  | 5, k, _, _, h => oktn_5 k h
  | 6, k, _, _, h => oktn_6 k h
  | 7, k, _, _, h => oktn_7 k h
  | 8, k, _, _, h => oktn_8 k h
  | 9, k, _, _, h => oktn_9 k h
  | 10, k, _, _, h => oktn_10 k h
  | 11, k, _, _, h => oktn_11 k h
  | 12, k, _, _, h => oktn_12 k h
  | n + 13, k, _, h, _ => absurd h (by omega)
end Go.Ev.Gas
end

noncomputable section
set_option maxRecDepth 100000
namespace Go.Ev.Gas
open Go.RowKit Go.Ev.Num
theorem op_b {o : Nat → Int} (h : opOk o) : ∀ q, q < 10 → inB (o q) := fun q hq => by
  unfold opOk opP op1 op2 op3 at h
  have e0 : zz zeros zeros o 28 = o 0 := rfl
  have e1 : zz zeros zeros o 19 = o 1 := rfl
  have e2 : zz zeros zeros o 20 = o 2 := rfl
  have e3 : zz zeros zeros o 21 = o 3 := rfl
  have e4 : zz zeros zeros o 22 = o 4 := rfl
  have e5 : zz zeros zeros o 23 = o 5 := rfl
  have e6 : zz zeros zeros o 24 = o 6 := rfl
  have e7 : zz zeros zeros o 25 = o 7 := rfl
  have e8 : zz zeros zeros o 26 = o 8 := rfl
  have e9 : zz zeros zeros o 27 = o 9 := rfl
  rw [e0, e1, e2, e3, e4, e5, e6, e7, e8, e9] at h
  unfold inB
  match q, hq with
  | 0, _ | 1, _ | 2, _ | 3, _ | 4, _ | 5, _ | 6, _ | 7, _ | 8, _ | 9, _ => omega
theorem GoodT.g39 {n k : Nat} {z : Nat → Int} (h : GoodT n k z) : G39 n n 2 z := by
  refine ⟨fun i hi => ⟨(h.tru i hi).1, (h.tru i hi).2⟩, fun hj => absurd hj (by omega), Nat.le_refl _, fun i hi => ?_⟩
  have ob := op_b (h.gx.ho i hi)
  have t := h.tru i hi
  unfold TruP at t
  have b6 := ob 6 (by omega); have b7 := ob 7 (by omega); have b8 := ob 8 (by omega); have b9 := ob 9 (by omega)
  unfold inB at b6 b7 b8 b9
  exact ⟨ob, ⟨by omega, by omega⟩, ⟨by omega, by omega⟩⟩
/-! ### GasTrue by its runs -/
theorem con39x {n k : Nat} (hr : ok39 n n 2 = true) : ConW P (Fence.there P) (HTr n k) (w39 n) := by
  have c := con39 hr
  have e : Nat.beq n n = true := Nat.beq_refl n
  rw [e] at c
  exact fun o h1 h => c o h1 (GoodT.g39 h)
theorem free33 (i : Nat) : (w33 i).free = true := by
  show (AV.free cavA && (AV.free (pXt i) && true)) && (AV.frees (tN (100 + 10 * i) 10) && (AV.frees (tN (820 + i) 1) && (AV.frees (tN (840 + i) 1) && true))) && (AV.free (pXt (i + 1)) && (AV.free (uXt i) && (true && true))) = true
  rw [frees_tN, frees_tN, frees_tN]; rfl
theorem wT_ok {n k : Nat} (hr : ok39 n n 2 = true) : ∀ c ∈ wAll n k, c.free = true ∧ ConW P (Fence.there P) (HTr n k) c := by
  intro c hc
  rcases List.mem_append.1 hc with h | h
  · obtain ⟨i, hi, rfl⟩ := List.mem_map.1 h
    exact ⟨free33 i, con33 (List.mem_range.1 hi)⟩
  · rcases List.mem_cons.1 h with rfl | h
    · exact ⟨w39_free n true, con39x hr⟩
    · cases h
theorem oTr_ok {n k : Nat} (hr : ok39 n n 2 = true) : (oTr n k).ok P (Fence.there P) :=
  both_ok (ora_ok (H := HTr n k) (fun o h => h.extra) (tT_ok n k) no_p) (ansW_ok (H := HTr n k) (fun o h => h.extra) (wAll n k) (wT_ok hr))
theorem rows_of {z : Nat → Int} {w : World} {b off cap n : Nat} (hi : ∀ i, i < n → ∀ q, q < 10 → inB (oz z i q)) (h : SLAt 10 w b off n (oz z)) (hb : b < w.heap.size) (hcap : n ≤ cap) : RowAt (ov z) w (.slice (some ⟨b, off, none⟩) n cap) (10, n, rowsX n) := by
  refine ⟨b, off, cap, rfl, hcap, hb, fun j a ha => ?_⟩
  obtain ⟨h1, rfl⟩ := rowsX_get n j a ha
  have e3 : j / 10 * 10 + j % 10 = j := by omega
  have e4 : oz z (j / 10) (j % 10) = z (100 + j) := by unfold oz; rw [show 100 + 10 * (j / 10) + j % 10 = 100 + j by omega]
  have h2 := h (j / 10) (j % 10) (by omega) (Nat.mod_lt _ (by omega))
  have h3 := hi (j / 10) (by omega) (j % 10) (Nat.mod_lt _ (by omega))
  rw [e3, e4] at h2
  rw [e4] at h3
  exact ⟨_, h2, isv_rv z (100 + j) h3⟩
theorem true_run {n k : Nat} (h0 : 1 ≤ n) (hr : okT n k = true) (h39 : ok39 n n 2 = true) {z : Nat → Int} (hG : GoodT n k z) (ib : ∀ i, i < n → inB (z (820 + i)) ∧ inB (z (840 + i))) (iq : ∀ q, q < 4 → inB (z (700 + q))) (hfacts : LtsP (ov z) (ltsT k)) (b off cap : Nat) (w : World) (hb : b < w.heap.size) (hcap : n ≤ cap) (hcells : SLAt 10 w b off n (oz z)) {v2 v3 : Value} (hs2 : SL 1 w v2 n (fun i _ => z (820 + i))) (hs3 : SL 1 w v3 n (fun i _ => z (840 + i))) :
    Calls P 8 #[cavV z, stV z, .slice (some ⟨b, off, none⟩) n cap, pV (pzt z 0), v2, v3] w fun e w' => e = .returned (.bool true) ∧ Below w.heap.size w w' := by
  have hs : stP z := hG.gx.hs
  have ho := hG.gx.ho
  have hH : (gTr n k).holds (ov z) := holds_of (G := gTr n k) trivial (lts_ap hfacts (lts_cs hG.gx.hc hs)) trivial hG
  have kj := evK_sound (G := gTr n k) fbT (oTr_ok h39) fuelK
  have r1 := rows_of (cap := cap) (fun i hi => op_b (ho i hi)) hcells hb hcap
  have r2 : RowAt (ov z) w v2 (1, n, tN 820 n) := sl_row (by omega) h0 (by omega) hs2 fun i j hi hj => by
    have : j = 0 := by omega
    subst this
    exact ⟨by rw [show 820 + (i * 1 + 0) = 820 + i by omega], (ib i hi).1⟩
  have r3 : RowAt (ov z) w v3 (1, n, tN 840 n) := sl_row (by omega) h0 (by omega) hs3 fun i j hi hj => by
    have : j = 0 := by omega
    subst this
    exact ⟨by rw [show 840 + (i * 1 + 0) = 840 + i by omega], (ib i hi).2⟩
  obtain ⟨ps, hlen, hps⟩ := places (o := ov z) (w := w) (vs := [.slice (some ⟨b, off, none⟩) n cap, v2, v3]) (sl := [(10, n, rowsX n), (1, n, tN 820 n), (1, n, tN 840 n)]) ⟨r1, r2, r3, trivial⟩
  let sl : List Spec := [(10, n, rowsX n), (1, n, tN 820 n), (1, n, tN 840 n)]
  have fr : ∀ s ∈ sl, AV.frees s.2.2 = true := fun s hs => by
    rcases List.mem_cons.1 hs with rfl | hs
    · exact free_rows n
    rcases List.mem_cons.1 hs with rfl | hs
    · exact frees_tN _ _
    rcases List.mem_cons.1 hs with rfl | hs
    · exact frees_tN _ _
    cases hs
  let e0 : Env plain := ⟨fun i => (ps[i]?).map fun p => (p.b, p.o), ov z, w.heap.size, fun i => ((ps[i]?).map (·.room)).getD 0, (Fence.there P).fn, ov_one z, plain_holds _⟩
  have al : e0.alike (frnEnv (Fence.there P) (ov z) (ov_one z) hH ps w.heap.size) := ⟨rfl, rfl, rfl⟩
  have HE : HR (frnEnv (Fence.there P) (ov z) (ov_one z) hH ps w.heap.size) (frnH (sl.map fun s : Spec => AV.tos (gTr n k) s.2.2)) w := by
    refine HR.frn _ _ (by simp [hlen, sl]) fun i c p hc hp => ?_
    rw [List.getElem?_map] at hc
    cases hk : sl[i]? with
    | none => rw [hk] at hc; cases hc
    | some s =>
      rw [hk] at hc
      cases hc
      obtain ⟨p', v, cc, q1, q2, q3, q4, q5, q6, q7⟩ := hps i s hk
      rw [hp] at q1
      cases q1
      refine ⟨q6, fun j a ha => ?_⟩
      obtain ⟨a0, ha0, rfl⟩ := AV.tos_get ha
      obtain ⟨u, hu1, e1, he1, hu2⟩ := q7 j a0 ha0
      have hfr : a0.free = true := frees_at (fr s (List.mem_of_getElem? hk)) ha0
      exact ⟨u, hu1, (VR.to al a0 u).1 (VR.free (e := e1) (e' := e0) he1 a0 u hfr hu2)⟩
  have vf : ∀ (a : AV plain) (v : Value), a.free = true → VR (envZ z) a v → VR e0 a v := fun a v hf hv => VR.free (e := envZ z) (e' := e0) rfl a v hf hv
  have vp : VR (envZ z) (pXt 0) (pV (pzt z 0)) := vr_agg (vrs_cons (vr_iv z (iq 0 (by omega)).1 (iq 0 (by omega)).2) (vrs_cons (vr_iv z (iq 1 (by omega)).1 (iq 1 (by omega)).2) (vrs_cons (vr_iv z (iq 2 (by omega)).1 (iq 2 (by omega)).2) (vrs_cons (vr_iv z (iq 3 (by omega)).1 (iq 3 (by omega)).2) vrs_nil))))
  have slot : ∀ (i : Nat) (s : Spec) (v : Value), sl[i]? = some s → ([.slice (some ⟨b, off, none⟩) n cap, v2, v3] : List Value)[i]? = some v → ∃ b o c, e0.φ i = some (b, o) ∧ v = .slice (some ⟨b, o, none⟩) s.2.1 c ∧ s.2.1 ≤ c ∧ c * s.1 ≤ e0.room i := fun i s v h1 h2 => by
    obtain ⟨p, v', cc, q1, q2, q3, q4, q5, q6, q7⟩ := hps i s h1
    rw [h2] at q2
    cases q2
    exact ⟨p.b, p.o, cc, by simp [e0, q1], q3, q4, by simpa [e0, q1] using q5⟩
  have HV : VRs (frnEnv (Fence.there P) (ov z) (ov_one z) hH ps w.heap.size) (AV.tos (gTr n k) [cavA, stA] ++ (slArgs 0 [(10, n, rowsX n)] ++ (AV.tos (gTr n k) [pXt 0] ++ slArgs 1 [(1, n, tN 820 n), (1, n, tN 840 n)]))) (#[cavV z, stV z, .slice (some ⟨b, off, none⟩) n cap, pV (pzt z 0), v2, v3] : Array Value).toList := by
    refine vrs_append (x := [cavV z, stV z]) (y := [.slice (some ⟨b, off, none⟩) n cap, pV (pzt z 0), v2, v3]) ((VRs.to al [cavA, stA] _).1 (vrs_cons (vf _ _ rfl (vr_cav hG.gx.hc)) (vrs_cons (vf _ _ rfl (vr_st hs)) vrs_nil))) ?_
    refine vrs_append (x := [.slice (some ⟨b, off, none⟩) n cap]) (y := [pV (pzt z 0), v2, v3]) (vrs_sl _ _ 0 rfl fun i s hk => ?_) ?_
    · match i, hk with
      | 0, hk =>
        cases hk
        obtain ⟨b1, o1, c1, t1, t2, t3, t4⟩ := slot 0 _ _ rfl rfl
        exact ⟨_, b1, o1, c1, rfl, t1, t2, t3, t4⟩
      | i + 1, hk => simp at hk
    refine vrs_append (x := [pV (pzt z 0)]) (y := [v2, v3]) ((VRs.to al [pXt 0] _).1 (vrs_cons (vf _ _ rfl vp) vrs_nil)) (vrs_sl _ _ 1 rfl fun i s hk => ?_)
    match i, hk with
    | 0, hk =>
      cases hk
      obtain ⟨b1, o1, c1, t1, t2, t3, t4⟩ := slot 1 _ _ rfl rfl
      exact ⟨_, b1, o1, c1, rfl, t1, t2, t3, t4⟩
    | 1, hk =>
      cases hk
      obtain ⟨b1, o1, c1, t1, t2, t3, t4⟩ := slot 2 _ _ rfl rfl
      exact ⟨_, b1, o1, c1, rfl, t1, t2, t3, t4⟩
    | i + 2, hk => simp at hk
  unfold okT at hr
  unfold isRes at hr
  split at hr
  · rename_i v hh hev
    have hsame := sameA_eq hr
    subst hsame
    have job := kj _ _ hev
    have := job _ _ w 0 (fun e w' => e = .returned (.bool true) ∧ Below w.heap.size w w') rfl HE HV (fun e' v' w' S hvr => by
      have hv' : VR e' (AV.bool true) v' := hvr
      simp only [VR] at hv'
      exact ⟨by rw [hv'], S.below HE⟩)
    exact this.calls (room_there P)
  · cases hr
  · cases hr
end Go.Ev.Gas
end

