import Derived.Test.YtdpegcimhhegmaaDoV
import Derived.Handy
set_option linter.unusedVariables false
set_option linter.unusedSimpArgs false
set_option linter.unusedSectionVars false
noncomputable section
set_option maxRecDepth 100000
namespace Go.Ev.Gas
open Go.Ev.Num
/-- All contents of the second state are in the first one; all else is the same. -/
structure In (z y : Nat → Int) : Prop where
  cav : ∀ i, i < 11 → y i = z i
  op : ∀ i, 19 ≤ i → y i = z i
  gas : z 11 ≤ y 11 ∧ y 12 ≤ z 12
  hyd : z 13 ≤ y 13 ∧ y 14 ≤ z 14
  heat : z 15 ≤ y 15 ∧ y 16 ≤ z 16
  water : z 17 ≤ y 17 ∧ y 18 ≤ z 18
/-- .. so is what an operation makes of them. -/
def Inner (a b : Nat → Int) : Prop := (a 0 ≤ b 0 ∧ b 1 ≤ a 1) ∧ (a 2 ≤ b 2 ∧ b 3 ≤ a 3) ∧ (a 4 ≤ b 4 ∧ b 5 ≤ a 5) ∧ (a 6 ≤ b 6 ∧ b 7 ≤ a 7)
/-- Warm gas. -/
def wt (S C T L : Int) : Int := if S + C = 0 then T else mx S C T L
theorem wt_zero {S T L : Int} : wt S 0 T L = T := by
  unfold wt mx
  by_cases h : S + 0 = 0
  · rw [if_pos h]
  · rw [if_neg h, Int.zero_mul, Int.add_zero, Int.add_zero]; exact Int.mul_tdiv_cancel_left _ (by omega)
theorem wt_T {S C T T' L : Int} (hS : 0 ≤ S) (hC : 0 ≤ C) (hT : 0 ≤ T) (hL : 0 ≤ L) (h : T ≤ T') : wt S C T L ≤ wt S C T' L := by
  unfold wt
  by_cases k : S + C = 0
  · rw [if_pos k, if_pos k]; exact h
  · rw [if_neg k, if_neg k, mx_eq hS hC hT hL, mx_eq hS hC (by omega) hL]; exact mix_T hS (by omega) h
theorem wt_lo {S0 S S3 C T L : Int} (h0 : 0 ≤ S0) (h1 : S0 ≤ S) (h3 : S ≤ S3) (hC : 0 ≤ C) (hT : 0 ≤ T) (hL : 0 ≤ L) : sxOp 3 (wt S0 C T L) (wt S3 C T L) ≤ wt S C T L := by
  by_cases k : C = 0
  · subst k; rw [wt_zero, wt_zero, wt_zero, sx3_l (Int.le_refl _)]; exact Int.le_refl _
  · unfold wt
    rw [if_neg (by omega), if_neg (by omega), if_neg (by omega), mx_eq h0 hC hT hL, mx_eq (by omega) hC hT hL, mx_eq (by omega) hC hT hL]
    by_cases h : L ≤ T
    · have a := mix_up (S := S0) (S' := S) (C := C) h0 hC (by omega) h1 h
      have b : sxOp 3 (mix S0 C T L) (mix S3 C T L) ≤ mix S0 C T L := by show (if _ < _ then _ else _) ≤ _; split <;> omega
      omega
    · have a := mix_down (S := S) (S' := S3) (C := C) (T := T) (L := L) (by omega) hC (by omega) h3 (by omega)
      have b : sxOp 3 (mix S0 C T L) (mix S3 C T L) ≤ mix S3 C T L := by show (if _ < _ then _ else _) ≤ _; split <;> omega
      omega
theorem wt_hi {S0 S S3 C T L : Int} (h0 : 0 ≤ S0) (h1 : S0 ≤ S) (h3 : S ≤ S3) (hC : 0 ≤ C) (hT : 0 ≤ T) (hL : 0 ≤ L) : wt S C T L ≤ sxOp 4 (wt S0 C T L) (wt S3 C T L) := by
  by_cases k : C = 0
  · subst k; rw [wt_zero, wt_zero, wt_zero, sx4_l (Int.le_refl _)]; exact Int.le_refl _
  · unfold wt
    rw [if_neg (by omega), if_neg (by omega), if_neg (by omega), mx_eq h0 hC hT hL, mx_eq (by omega) hC hT hL, mx_eq (by omega) hC hT hL]
    by_cases h : L ≤ T
    · have a := mix_up (S := S) (S' := S3) (C := C) (by omega) hC (by omega) h3 h
      have b : mix S3 C T L ≤ sxOp 4 (mix S0 C T L) (mix S3 C T L) := by show _ ≤ (if _ > _ then _ else _); split <;> omega
      omega
    · have a := mix_down (S := S0) (S' := S) (C := C) (T := T) (L := L) (by omega) hC (by omega) h1 (by omega)
      have b : mix S0 C T L ≤ sxOp 4 (mix S0 C T L) (mix S3 C T L) := by show _ ≤ (if _ > _ then _ else _); split <;> omega
      omega
theorem sm_le {z y : Nat → Int} (h6 : 0 ≤ z 6) (h7 : 0 ≤ z 7) {g h g' h' : Nat} (e6 : y 6 = z 6) (e7 : y 7 = z 7) (a : z g ≤ y g') (b : z h ≤ y h') : sm z g h ≤ sm y g' h' := by
  unfold sm
  rw [e6, e7]
  have := Int.mul_le_mul_of_nonneg_right a h6
  have := Int.mul_le_mul_of_nonneg_right b h7
  omega
theorem sm_ge {z y : Nat → Int} (h6 : 0 ≤ z 6) (h7 : 0 ≤ z 7) {g h g' h' : Nat} (e6 : y 6 = z 6) (e7 : y 7 = z 7) (a : y g' ≤ z g) (b : y h' ≤ z h) : sm y g' h' ≤ sm z g h := by
  unfold sm
  rw [e6, e7]
  have := Int.mul_le_mul_of_nonneg_right a h6
  have := Int.mul_le_mul_of_nonneg_right b h7
  omega
section
variable {z y : Nat → Int} (hc : cavP z) (hs : stP z) (hy : stP y) (hi : In z y)
include hc hs hy hi
theorem more1 (ho : op1 z) : Inner (aft1 z) (aft1 y) := by
  obtain ⟨i1, i2, i3, i4, i5, i6⟩ := hi
  have e19 := i2 19 (by omega); have e20 := i2 20 (by omega); have e21 := i2 21 (by omega); have e22 := i2 22 (by omega)
  have e6 := i1 6 (by omega); have e7 := i1 7 (by omega)
  have hc' := hc; have hs' := hs; have hy' := hy; have ho' := ho
  simp only [cavP, stP, op1] at hc' hs' hy' ho'
  have hb := sm_in hc hs ho
  have ec : cm y = cm z := by unfold cm; rw [e19, e20, e6, e7]
  have l0 : sm z 11 13 ≤ sm y 11 13 := sm_le (by omega) (by omega) e6 e7 i3.1 i4.1
  have l3 : sm y 12 14 ≤ sm z 12 14 := sm_ge (by omega) (by omega) e6 e7 i3.2 i4.2
  have lm : sm y 11 13 ≤ sm y 12 14 := by
    unfold sm
    have := Int.mul_le_mul_of_nonneg_right (show y 11 ≤ y 12 by omega) (show 0 ≤ y 6 by omega)
    have := Int.mul_le_mul_of_nonneg_right (show y 13 ≤ y 14 by omega) (show 0 ≤ y 7 by omega)
    omega
  have w : ∀ (x : Nat → Int) (S T : Int), warmT x S T = wt S (cm x) T (x 21) := fun _ _ _ => rfl
  have c0 := hb.2.2.2.2.1.1
  have s0 := hb.1.1
  refine ⟨⟨?_, ?_⟩, ⟨?_, ?_⟩, ⟨?_, ?_⟩, ⟨?_, ?_⟩⟩
  · simp only [aft1]; omega
  · simp only [aft1]; omega
  · simp only [aft1]; omega
  · simp only [aft1]; omega
  · simp only [aft1, w, ec, e21]
    refine sx3_ge (Int.le_trans (wt_lo s0 l0 (by omega) c0 (by omega) (by omega)) (wt_T (by omega) c0 (by omega) (by omega) i5.1)) (Int.le_trans (wt_lo s0 (by omega) l3 c0 (by omega) (by omega)) (wt_T (by omega) c0 (by omega) (by omega) i5.1))
  · simp only [aft1, w, ec, e21]
    refine sx4_le (Int.le_trans (wt_T (by omega) c0 (by omega) (by omega) i5.2) (wt_hi s0 l0 (by omega) c0 (by omega) (by omega))) (Int.le_trans (wt_T (by omega) c0 (by omega) (by omega) i5.2) (wt_hi s0 (by omega) l3 c0 (by omega) (by omega)))
  · simp only [aft1]; omega
  · simp only [aft1]; omega
theorem more2 (ho : op2 z) (hm : z 23 ≤ z 11 + z 13) : Inner (aft2 z) (aft2 y) := by
  obtain ⟨i1, i2, i3, i4, i5, i6⟩ := hi
  have e23 := i2 23 (by omega)
  simp only [stP, op2] at hs hy ho
  have m0 : 0 ≤ z 23 := by omega
  have q : ∀ (x : Nat → Int) (h A : Int), x 23 = z 23 → 0 ≤ h → qt x h A = Num.part (z 23) h A := fun x h A e hh => by
    rw [← e]; exact qt_eq (by omega) hh
  by_cases hz : z 23 = 0
  · have q0 : ∀ (x : Nat → Int) (h A : Int), x 23 = z 23 → qt x h A = 0 := fun x h A e => by unfold qt; rw [e, hz, Int.zero_mul]; exact Int.zero_tdiv _
    refine ⟨⟨?_, ?_⟩, ⟨?_, ?_⟩, ⟨?_, ?_⟩, ⟨?_, ?_⟩⟩ <;> simp only [aft2, q0 z _ _ rfl, q0 y _ _ e23] <;> omega
  · have A0 : 0 < z 11 + z 13 := by omega
    -- gas that stays, hydrogen that stays, water that stays: each grows with all that is there
    have gas : ∀ g h g' h' : Int, 0 ≤ g → 0 ≤ h → g ≤ g' → h ≤ h' → z 23 ≤ g + h → g - (z 23 - Num.part (z 23) h (g + h)) ≤ g' - (z 23 - Num.part (z 23) h' (g' + h')) := fun g h g' h' a b c d e => by
      have u := gas_up (M := z 23) (g := g) (h := h) (A := g + h) (d := g' - g) m0 e b (by omega) (by omega) (by omega)
      have v := gas_h (M := z 23) (g := g') (h := h) (d := h' - h) (A := g' + h) m0 b (by omega) (by omega) (by omega)
      rw [show g + (g' - g) = g' by omega, show g + h + (g' - g) = g' + h by omega] at u
      rw [show h + (h' - h) = h' by omega, show g' + h + (h' - h) = g' + h' by omega] at v
      omega
    have hyd : ∀ g h g' h' : Int, 0 ≤ g → 0 ≤ h → g ≤ g' → h ≤ h' → z 23 ≤ g + h → h - Num.part (z 23) h (g + h) ≤ h' - Num.part (z 23) h' (g' + h') := fun g h g' h' a b c d e => by
      have u := stay_up (M := z 23) (h := h) (A := g + h) (d := h' - h) m0 e b (by omega) (by omega)
      have v := stay_A (M := z 23) (h := h') (A := g + h') (A' := g' + h') m0 (by omega) (by omega) (by omega)
      rw [show h + (h' - h) = h' by omega, show g + h + (h' - h) = g + h' by omega] at u
      omega
    have wat : ∀ w w' A A' : Int, 0 ≤ w → w ≤ w' → 0 < A → A ≤ A' → z 23 ≤ A → w - Num.part (z 23) w A ≤ w' - Num.part (z 23) w' A' := fun w w' A A' a b c d e => by
      have u := stay_w (M := z 23) (w := w) (d := w' - w) (A := A) m0 e (by omega) c
      have v := stay_A (M := z 23) (h := w') (A := A) (A' := A') m0 (by omega) c d
      rw [show w + (w' - w) = w' by omega] at u
      omega
    refine ⟨⟨?_, ?_⟩, ⟨?_, ?_⟩, ⟨?_, ?_⟩, ⟨?_, ?_⟩⟩
    · simp only [aft2, am]; rw [q z _ _ rfl (by omega), q y _ _ e23 (by omega), e23]; exact gas _ _ _ _ (by omega) (by omega) i3.1 i4.1 hm
    · simp only [aft2, am]; rw [q z _ _ rfl (by omega), q y _ _ e23 (by omega), e23]; exact gas _ _ _ _ (by omega) (by omega) i3.2 i4.2 (by omega)
    · simp only [aft2, am]; rw [q z _ _ rfl (by omega), q y _ _ e23 (by omega)]; exact hyd _ _ _ _ (by omega) (by omega) i3.1 i4.1 hm
    · simp only [aft2, am]; rw [q z _ _ rfl (by omega), q y _ _ e23 (by omega)]; exact hyd _ _ _ _ (by omega) (by omega) i3.2 i4.2 (by omega)
    · simp only [aft2]; omega
    · simp only [aft2]; omega
    · simp only [aft2, am]; rw [q z _ _ rfl (by omega), q y _ _ e23 (by omega)]; exact wat _ _ _ _ (by omega) i6.1 A0 (by omega) hm
    · simp only [aft2, am]; rw [q z _ _ rfl (by omega), q y _ _ e23 (by omega)]; exact wat _ _ _ _ (by omega) i6.2 (by omega) (by omega) (by omega)
theorem more3 (ho : op3 z) : Inner (aft3 z) (aft3 y) := by
  obtain ⟨i1, i2, i3, i4, i5, i6⟩ := hi
  have e24 := i2 24 (by omega); have e25 := i2 25 (by omega); have e26 := i2 26 (by omega); have e27 := i2 27 (by omega)
  have e8 := i1 8 (by omega)
  simp only [cavP, stP, op3] at hc hs hy ho
  have n1 : ∀ (t s : Nat), 0 ≤ z s → z s ≤ 1000 → y s = z s → z t ≤ y t → nr z t s ≤ nr y t s := fun t s a b c d => by
    unfold nr; rw [e8, c]; exact near_T a b d
  have n2 : ∀ (t s : Nat), 0 ≤ z s → z s ≤ 1000 → y s = z s → y t ≤ z t → nr y t s ≤ nr z t s := fun t s a b c d => by
    unfold nr; rw [e8, c]; exact near_T a b d
  have b3 : ∀ a b : Int, sxOp 3 a b ≤ a ∧ sxOp 3 a b ≤ b := fun a b => by constructor <;> (show (if _ < _ then _ else _) ≤ _; split <;> omega)
  have b4 : ∀ a b : Int, a ≤ sxOp 4 a b ∧ b ≤ sxOp 4 a b := fun a b => by constructor <;> (show _ ≤ (if _ > _ then _ else _); split <;> omega)
  refine ⟨⟨?_, ?_⟩, ⟨?_, ?_⟩, ⟨?_, ?_⟩, ⟨?_, ?_⟩⟩
  · simp only [aft3]; omega
  · simp only [aft3]; omega
  · simp only [aft3]; omega
  · simp only [aft3]; omega
  · simp only [aft3]
    exact sx3_ge (Int.le_trans (b3 _ _).1 (n1 15 24 (by omega) (by omega) e24 i5.1)) (Int.le_trans (b3 _ _).2 (n1 15 25 (by omega) (by omega) e25 i5.1))
  · simp only [aft3]
    exact sx4_le (Int.le_trans (n2 16 24 (by omega) (by omega) e24 i5.2) (b4 _ _).1) (Int.le_trans (n2 16 25 (by omega) (by omega) e25 i5.2) (b4 _ _).2)
  · simp only [aft3]; omega
  · simp only [aft3]; omega
end
end Go.Ev.Gas
end

noncomputable section
set_option maxRecDepth 100000
namespace Go.Ev.Gas
open Go.RowKit Go.Proofs
/-! ### What the definitions of the specification say -/
noncomputable def kT (f : Nat) (a : AV plain) : KC := { f := f, args := [a], res := .ret (.bool true) }
noncomputable def gCav : Ctx := ⟨[], cavL, [], fun _ => True⟩
noncomputable def gSt : Ctx := ⟨[], stL, [], fun _ => True⟩
theorem r19 : isRes (kT 19 cavA).res (runK P L true [] [] gCav (kT 19 cavA)) = true := by decide +kernel
theorem r20 : isRes (kT 20 stA).res (runK P L true [] [] gSt (kT 20 stA)) = true := by decide +kernel
noncomputable def inA : AV plain := .agg [one 1, iv 19 0 1000000, iv 20 0 1000000, iv 21 2000 5000, iv 22 0 1000000000, Z, Z, Z, Z, Z]
noncomputable def wiA : AV plain := .agg [one 2, Z, Z, Z, Z, iv 23 0 2000000, Z, Z, Z, Z]
noncomputable def reA : AV plain := .agg [one 3, Z, Z, Z, Z, Z, iv 24 0 1000, iv 25 0 1000, iv 26 0 1000000, iv 27 0 1000000]
noncomputable def gRe : Ctx := ⟨[], [(.v 25, .v 24, false), (.v 27, .v 26, false)], [], fun _ => True⟩
theorem r30a : isRes (kT 30 inA).res (runK P L true [] [] plain (kT 30 inA)) = true := by decide +kernel
theorem r30b : isRes (kT 30 wiA).res (runK P L true [] [] plain (kT 30 wiA)) = true := by decide +kernel
theorem r30c : isRes (kT 30 reA).res (runK P L true [] [] gRe (kT 30 reA)) = true := by decide +kernel
def Says (f : Nat) (v : Value) (b : Bool) : Prop := ∀ w, Calls P f #[v] w fun e w' => e = .returned (.bool b) ∧ Below w.heap.size w w'
theorem says_of {f : Nat} {a : AV plain} {b : Bool} {H : (Nat → Value) → Prop} (c : Con P (Fence.there P) H { f := f, args := [a], res := .ret (.bool b) }) (z : Nat → Int) (h : H (ov z)) {v : Value} (hv : VR (envZ z) a v) : Says f v b :=
  fun w => c.at (room_there P) rfl z h rfl #[v] (vrs_cons hv vrs_nil) w
theorem says19 {z : Nat → Int} (hz : ints z) : (cavP z → Says 19 (cavV z) true) ∧ (¬ cavP z → Says 19 (cavV z) false) :=
  ⟨fun hc => says_of (con_of_run (H := fun _ => True) fbT rfl no_k no_p (fun _ _ => trivial) r19) z (holds_of (G := gCav) trivial (lts_cav hc) trivial trivial) (vr_cav hc),
   fun hc => says_of no19 z hc (raw_c hz)⟩
theorem says20 {z : Nat → Int} (hz : ints z) : (stP z → Says 20 (stV z) true) ∧ (¬ stP z → Says 20 (stV z) false) :=
  ⟨fun hs => says_of (con_of_run (H := fun _ => True) fbT rfl no_k no_p (fun _ _ => trivial) r20) z (holds_of (G := gSt) trivial (by simp only [stP] at hs; exact ⟨hs.1.2.1, hs.2.1.2.1, hs.2.2.1.2.1, hs.2.2.2.2.1, trivial⟩) trivial trivial) (vr_st hs),
   fun hs => says_of no20 z hs (raw_s hz)⟩
theorem says30 {z : Nat → Int} (hz : ints z) : (opP z → Says 30 (opV z) true) ∧ (¬ opP z → Says 30 (opV z) false) := by
  refine ⟨fun ho => ?_, fun ho => says_of no30 z ho (raw_o hz)⟩
  rcases ho with h | h | h
  · exact says_of (con_of_run (H := fun _ => True) fbT rfl no_k no_p (fun _ _ => trivial) r30a) z (plain_holds _) (vr_inj (m := 1000000) h (by simp only [op1] at h; omega) (by simp only [op1] at h; omega))
  · exact says_of (con_of_run (H := fun _ => True) fbT rfl no_k no_p (fun _ _ => trivial) r30b) z (plain_holds _) (vr_wit (m := 2000000) h (by simp only [op2] at h; omega))
  · exact says_of (con_of_run (H := fun _ => True) fbT rfl no_k no_p (fun _ _ => trivial) r30c) z (holds_of (G := gRe) trivial (by simp only [op3] at h; exact ⟨h.2.2.2.2.2.2.1.2.1, h.2.2.2.2.2.2.2.2.1, trivial⟩) trivial trivial) (vr_rst h)
theorem known_says : ∀ w, Calls P 21 #[] w fun e w' => e = .returned (.bool true) ∧ Below w.heap.size w w' :=
  fun w => (k21_con (fun _ => True)).at (room_there P) rfl (fun _ => 0) trivial rfl #[] vrs_nil w
end Go.Ev.Gas
end

noncomputable section
set_option maxRecDepth 1000000
set_option maxHeartbeats 0
namespace Go.Ev.Gas
noncomputable def nA : AV plain := .agg [iv 80 0 1000000, iv 12 0 1000000, iv 13 0 1000000, iv 81 0 1000000, iv 82 2000 5000, iv 16 2000 5000, iv 17 0 1000000000, iv 83 0 1000000000]
noncomputable def xA : AV plain := .agg [iv 90 0 1000000, iv 91 0 1000000, iv 92 0 1000000, iv 93 0 1000000, iv 94 2000 5000, iv 95 2000 5000, iv 96 0 1000000000, iv 97 0 1000000000]
noncomputable def yA : AV plain := .agg [iv 110 0 1000000, iv 111 0 1000000, iv 112 0 1000000, iv 113 0 1000000, iv 114 2000 5000, iv 115 2000 5000, iv 116 0 1000000000, iv 117 0 1000000000]
noncomputable def gxA : AV plain := .agg [rv 100, rv 101, rv 102, rv 103, rv 104, rv 105]
noncomputable def gyA : AV plain := .agg [rv 120, rv 121, rv 122, rv 123, rv 124, rv 125]
noncomputable def z6A : AV plain := .agg [Z, Z, Z, Z, Z, Z]
noncomputable def z8A : AV plain := .agg [Z, Z, Z, Z, Z, Z, Z, Z]
noncomputable def moreN : List (SX × Nat × Int × Int) := [((.bin 0 (.v 11) (.bin 4 (.c 0) (.bin 3 (.v 40) (.bin 1 (.v 12) (.v 11))))), 80, 0, 1000000), ((.bin 1 (.v 14) (.bin 4 (.c 0) (.bin 3 (.v 41) (.bin 1 (.v 14) (.v 13))))), 81, 0, 1000000), ((.bin 0 (.v 15) (.bin 4 (.c 0) (.bin 3 (.v 42) (.bin 1 (.v 16) (.v 15))))), 82, 2000, 5000), ((.bin 1 (.v 18) (.bin 4 (.c 0) (.bin 3 (.v 43) (.bin 1 (.v 18) (.v 17))))), 83, 0, 1000000000)]
noncomputable def innL : List (SX × SX × Bool) := [((.v 110), (.v 90), false), ((.v 91), (.v 111), false), ((.v 112), (.v 92), false), ((.v 93), (.v 113), false), ((.v 114), (.v 94), false), ((.v 95), (.v 115), false), ((.v 116), (.v 96), false), ((.v 97), (.v 117), false)]
noncomputable def trL : List (SX × SX × Bool) := [(.v 25, .v 24, false), (.v 27, .v 26, false)]
noncomputable def kDo (s o x g : AV plain) (e : Int) : KC := { f := 29, args := [cavA, s, o], res := .ret (.tuple [x, g, .int .i64 e]) }
noncomputable def oW : AV plain := .agg [one 2, Z, Z, Z, Z, Z, Z, Z, Z, Z]
noncomputable def oI (h : AV plain) : AV plain := .agg [one 1, Z, Z, h, Z, Z, Z, Z, Z, Z]
noncomputable def oR : AV plain := .agg [one 3, Z, Z, Z, Z, Z, Z, Z, Z, Z]
noncomputable def kS (o : AV plain) : KC := kDo stA o stA z6A 0
noncomputable def kMore (o : AV plain) : KC := { f := 14, obj := some [rv 40, rv 41, rv 42, rv 43], args := [cavA, stA, o, .slice 0 0 4 1 true], res := .ret (.bool true) }
noncomputable def gM (l : List (SX × SX × Bool)) (p : (Nat → Value) → Prop) : Ctx := ⟨moreN, cavL ++ stL ++ l, [], p⟩
end Go.Ev.Gas
end

noncomputable section
set_option maxRecDepth 1000000
set_option maxHeartbeats 0
namespace Go.Ev.Gas
open Go.RowKit Go.Ev.Num
mutual
/-- The bounds of a plain value are kept. -/
def bnd (o : Nat → Value) : AV plain → Prop
  | .sx x lo hi => lo ≤ x.eval o ∧ x.eval o ≤ hi
  | .agg cs => bnds o cs
  | .tuple cs => bnds o cs
  | _ => True
def bnds (o : Nat → Value) : List (AV plain) → Prop
  | [] => True
  | a :: r => bnd o a ∧ bnds o r
end
mutual
theorem vr_val {e : Env plain} : ∀ (a : AV plain), pureA a = true → bnd e.opq a → VR e a (valOf e.opq a)
  | .bool b, _, _ => by simp only [VR, valOf]
  | .int k n, _, _ => by simp only [VR, valOf]
  | .sx x lo hi, _, h => by simp only [VR, valOf]; simp only [bnd] at h; exact ⟨trivial, h⟩
  | .agg cs, hp, h => by
    simp only [VR, valOf]
    exact ⟨_, rfl, vrs_val cs (by simpa only [pureA] using hp) (by simpa only [bnd] using h)⟩
  | .tuple cs, hp, h => by
    simp only [VR, valOf]
    exact ⟨_, rfl, vrs_val cs (by simpa only [pureA] using hp) (by simpa only [bnd] using h)⟩
theorem vrs_val {e : Env plain} : ∀ (a : List (AV plain)), puresA a = true → bnds e.opq a → VRs e a (valsOf e.opq a)
  | [], _, _ => by simp only [VRs, valsOf]
  | a :: r, hp, h => by
    simp only [puresA, Bool.and_eq_true] at hp
    simp only [bnds] at h
    simp only [VRs, valsOf]
    exact ⟨_, _, rfl, vr_val a hp.1 h.1, vrs_val r hp.2 h.2⟩
end
/-- A contract for whoever knows it of numbers. -/
theorem con_val {H : (Nat → Value) → Prop} {k : KC} {a : AV plain} (ho : k.obj = none) (hr : k.res = .ret a) (hpa : puresA k.args = true) (hp : pureA a = true)
    (h : ∀ o, H o → Gives (Fence.there P) k.f (valsOf o k.args).toArray (valOf o a) ∧ bnd o a) : Con P (Fence.there P) H k := by
  intro o h1 hH e0 ps vs w n he _ hv
  obtain ⟨hg, hb⟩ := h o hH
  have := vals_of k.args vs.toList hpa hv
  rw [he] at this
  have hvs : vs = (valsOf o k.args).toArray := by rw [← this]
  rw [hvs]
  refine (hg n w).mono fun e w' ⟨h3, h4⟩ => ⟨?_, h4⟩
  rw [hr]
  exact ⟨valOf o a, h3, e0, he, by rw [← he] at hb ⊢; exact vr_val a hp hb⟩

/-! ### Any operation -/
def aft (z : Nat → Int) : Nat → Int := if z 28 = 1 then aft1 z else if z 28 = 2 then aft2 z else aft3 z
def gon (z : Nat → Int) : Nat → Int := if z 28 = 2 then gon2 z else zeros
def can (z : Nat → Int) : Prop := (z 28 = 1 ∧ z 12 + z 19 ≤ 1000000 ∧ z 14 + z 20 ≤ 1000000 ∧ z 18 + z 22 ≤ 1000000000) ∨ (z 28 = 2 ∧ z 23 ≤ z 11 + z 13) ∨ (z 28 = 3 ∧ z 18 + z 27 ≤ 1000000000)
theorem do_all {z : Nat → Int} (hc : cavP z) (hs : stP z) (ho : opP z) : (can z → Both z (aft z) (gon z) true) ∧ (¬ can z → Both z zeros zeros false) := by
  rcases ho with h | h | h
  · have k : z 28 = 1 := h.1
    have e1 : aft z = aft1 z := by unfold aft; rw [if_pos k]
    have e2 : gon z = zeros := by unfold gon; rw [if_neg (by omega)]
    have := do_inject hc hs h
    rw [e1, e2]
    exact ⟨fun c => this.1 (by simp only [can] at c; omega), fun c => this.2 (by simp only [can] at c; omega)⟩
  · have k : z 28 = 2 := h.1
    have e1 : aft z = aft2 z := by unfold aft; rw [if_neg (by omega), if_pos k]
    have e2 : gon z = gon2 z := by unfold gon; rw [if_pos k]
    have := do_withdraw hc hs h
    rw [e1, e2]
    exact ⟨fun c => this.1 (by simp only [can] at c; omega), fun c => this.2 (by simp only [can] at c; omega)⟩
  · have k : z 28 = 3 := h.1
    have e1 : aft z = aft3 z := by unfold aft; rw [if_neg (by omega), if_neg (by omega)]
    have e2 : gon z = zeros := by unfold gon; rw [if_neg (by omega)]
    have := do_rest hc hs h
    rw [e1, e2]
    exact ⟨fun c => this.1 (by simp only [can] at c; omega), fun c => this.2 (by simp only [can] at c; omega)⟩
theorem part_ge {M g h : Int} (_hM : 0 ≤ M) (hg : 0 ≤ g) (hA : 0 < g + h) (hm : M ≤ g + h) : M - g ≤ Num.part M h (g + h) := by
  show M - g ≤ M * h / (g + h)
  rw [Int.le_ediv_iff_mul_le hA]
  have := Int.mul_le_mul_of_nonneg_left hm hg
  have e : (M - g) * (g + h) = M * h + g * M - g * (g + h) := by grind
  omega
/-- What is behind an operation that can be done is a state. -/
def StI (a : Nat → Int) : Prop := (0 ≤ a 0 ∧ a 0 ≤ a 1 ∧ a 1 ≤ 1000000) ∧ (0 ≤ a 2 ∧ a 2 ≤ a 3 ∧ a 3 ≤ 1000000) ∧ (2000 ≤ a 4 ∧ a 4 ≤ a 5 ∧ a 5 ≤ 5000) ∧ (0 ≤ a 6 ∧ a 6 ≤ a 7 ∧ a 7 ≤ 1000000000)
def GoI (g : Nat → Int) : Prop := ∀ i, -9223372036854775808 ≤ g i ∧ g i ≤ 9223372036854775807
theorem sx_mm {a b c d lo hi : Int} (h1 : lo ≤ a) (h2 : lo ≤ b) (h3 : c ≤ hi) (h4 : d ≤ hi) (h5 : a ≤ c) : lo ≤ sxOp 3 a b ∧ sxOp 3 a b ≤ sxOp 4 c d ∧ sxOp 4 c d ≤ hi := by
  refine ⟨sx3_ge h1 h2, ?_, sx4_le h3 h4⟩
  have e1 : sxOp 3 a b ≤ a := by show (if _ < _ then _ else _) ≤ _; split <;> omega
  have e2 : c ≤ sxOp 4 c d := by show _ ≤ (if _ > _ then _ else _); split <;> omega
  omega
theorem aft_in {z : Nat → Int} (hc : cavP z) (hs : stP z) (ho : opP z) (h : can z) : StI (aft z) ∧ GoI (gon z) := by
  rcases ho with k | k | k
  · have k1 : z 28 = 1 := k.1
    have e1 : aft z = aft1 z := by unfold aft; rw [if_pos k1]
    have e2 : gon z = zeros := by unfold gon; rw [if_neg (by omega)]
    rw [e1, e2]
    refine ⟨?_, fun i => ⟨by simp only [zeros]; omega, by simp only [zeros]; omega⟩⟩
    have hb := sm_in hc hs k
    have hw : ∀ S T : Int, 0 ≤ S → 2000 ≤ T → T ≤ 5000 → 2000 ≤ wt S (cm z) T (z 21) ∧ wt S (cm z) T (z 21) ≤ 5000 := fun S T a b c => by
      by_cases hC : cm z = 0
      · rw [hC, wt_zero]; exact ⟨b, c⟩
      · unfold wt; rw [if_neg (by omega)]; exact mx_in hc hs k (by omega) a b c
    have hs' := hs; have k' := k
    simp only [stP, op1, can] at hs' k' h
    have w1 := hw (sm z 11 13) (z 15) hb.1.1 (by omega) (by omega)
    have w2 := hw (sm z 12 14) (z 15) hb.2.2.2.1.1 (by omega) (by omega)
    have w3 := hw (sm z 11 13) (z 16) hb.1.1 (by omega) (by omega)
    have w4 := hw (sm z 12 14) (z 16) hb.2.2.2.1.1 (by omega) (by omega)
    refine ⟨?_, ?_, ?_, ?_⟩
    · simp only [aft1]; omega
    · simp only [aft1]; omega
    · exact sx_mm w1.1 w2.1 w3.2 w4.2 (wt_T hb.1.1 hb.2.2.2.2.1.1 (by omega) (by omega) (by omega))
    · simp only [aft1]; omega
  · have k1 : z 28 = 2 := k.1
    have e1 : aft z = aft2 z := by unfold aft; rw [if_neg (by omega), if_pos k1]
    have e2 : gon z = gon2 z := by unfold gon; rw [if_pos k1]
    rw [e1, e2]
    have hs' := hs; have k' := k
    simp only [stP, op2, can] at hs' k' h
    by_cases h1 : 1 ≤ z 11 + z 13
    · have q := qt_all hs k h1 (by omega)
      simp only [zW] at q
      have pg : z 23 - z 11 ≤ qt z (z 13) (am z 11 13) := by rw [qt_eq (by omega) (by omega)]; exact part_ge (by omega) (by omega) (by omega) (by omega)
      refine ⟨?_, fun i => ?_⟩
      · refine ⟨?_, ?_, ?_, ?_⟩ <;> simp only [aft2] <;> omega
      · unfold gon2; split <;> omega
    · have hz : z 23 = 0 := by omega
      have q0 : ∀ h A : Int, qt z h A = 0 := fun h A => by unfold qt; rw [hz, Int.zero_mul]; exact Int.zero_tdiv _
      refine ⟨?_, fun i => ?_⟩
      · refine ⟨?_, ?_, ?_, ?_⟩ <;> simp only [aft2, q0, hz] <;> omega
      · unfold gon2; split <;> simp only [q0, hz] <;> omega
  · have k1 : z 28 = 3 := k.1
    have e1 : aft z = aft3 z := by unfold aft; rw [if_neg (by omega), if_neg (by omega)]
    have e2 : gon z = zeros := by unfold gon; rw [if_neg (by omega)]
    rw [e1, e2]
    refine ⟨?_, fun i => ⟨by simp only [zeros]; omega, by simp only [zeros]; omega⟩⟩
    have o := nr_ord hc hs k
    simp only [cavP, stP, op3, can] at hc hs k h
    have q : ∀ (t s : Nat), 0 ≤ z s → z s ≤ 1000 → 2000 ≤ z t → z t ≤ 5000 → 2000 ≤ nr z t s ∧ nr z t s ≤ 5000 := fun t s a b c d => near_in a b (by omega) (by omega) c d
    refine ⟨?_, ?_, ?_, ?_⟩
    · simp only [aft3]; omega
    · simp only [aft3]; omega
    · exact sx_mm (q 15 24 (by omega) (by omega) (by omega) (by omega)).1 (q 15 25 (by omega) (by omega) (by omega) (by omega)).1 (q 16 24 (by omega) (by omega) (by omega) (by omega)).2 (q 16 25 (by omega) (by omega) (by omega) (by omega)).2 o.1
    · simp only [aft3]; omega
/-- More is known: as much can be done, and more is known behind it. -/
theorem more_all {z y : Nat → Int} (hc : cavP z) (hs : stP z) (hy : stP y) (hi : In z y) (ho : opP z) (h : can z) : can y ∧ Inner (aft z) (aft y) := by
  have e28 := hi.op 28 (by omega); have e19 := hi.op 19 (by omega); have e20 := hi.op 20 (by omega); have e22 := hi.op 22 (by omega); have e23 := hi.op 23 (by omega); have e27 := hi.op 27 (by omega)
  have i3 := hi.gas; have i4 := hi.hyd; have i6 := hi.water
  refine ⟨by simp only [can] at h ⊢; omega, ?_⟩
  rcases ho with k | k | k
  · have k1 : z 28 = 1 := k.1
    rw [show aft z = aft1 z by unfold aft; rw [if_pos k1], show aft y = aft1 y by unfold aft; rw [if_pos (by omega)]]
    exact more1 hc hs hy hi k
  · have k1 : z 28 = 2 := k.1
    rw [show aft z = aft2 z by unfold aft; rw [if_neg (by omega), if_pos k1], show aft y = aft2 y by unfold aft; rw [if_neg (by omega), if_pos (by omega)]]
    exact more2 hc hs hy hi k (by simp only [can] at h; omega)
  · have k1 : z 28 = 3 := k.1
    rw [show aft z = aft3 z by unfold aft; rw [if_neg (by omega), if_neg (by omega)], show aft y = aft3 y by unfold aft; rw [if_neg (by omega), if_neg (by omega)]]
    exact more3 hc hs hy hi k
end Go.Ev.Gas
end

