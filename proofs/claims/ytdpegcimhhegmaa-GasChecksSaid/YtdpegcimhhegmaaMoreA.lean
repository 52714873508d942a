import Derived.Test.YtdpegcimhhegmaaDoV
import Derived.Handy
set_option linter.unusedVariables false
set_option linter.unusedSimpArgs false
set_option linter.unusedSectionVars false
noncomputable section
set_option maxRecDepth 100000
namespace Go.Ev.Gas
open Go.Ev.Num
/-- All contents of the second state are in the first one; all else is the same. -/
structure In (z y : Nat → Int) : Prop where
  cav : ∀ i, i < 11 → y i = z i
  op : ∀ i, 19 ≤ i → y i = z i
  gas : z 11 ≤ y 11 ∧ y 12 ≤ z 12
  hyd : z 13 ≤ y 13 ∧ y 14 ≤ z 14
  heat : z 15 ≤ y 15 ∧ y 16 ≤ z 16
  water : z 17 ≤ y 17 ∧ y 18 ≤ z 18
/-- .. so is what an operation makes of them. -/
def Inner (a b : Nat → Int) : Prop := (a 0 ≤ b 0 ∧ b 1 ≤ a 1) ∧ (a 2 ≤ b 2 ∧ b 3 ≤ a 3) ∧ (a 4 ≤ b 4 ∧ b 5 ≤ a 5) ∧ (a 6 ≤ b 6 ∧ b 7 ≤ a 7)
/-- Warm gas. -/
def wt (S C T L : Int) : Int := if S + C = 0 then T else mx S C T L
theorem wt_zero {S T L : Int} : wt S 0 T L = T := by
  unfold wt mx
  by_cases h : S + 0 = 0
  · rw [if_pos h]
  · rw [if_neg h, Int.zero_mul, Int.add_zero, Int.add_zero]; exact Int.mul_tdiv_cancel_left _ (by omega)
theorem wt_T {S C T T' L : Int} (hS : 0 ≤ S) (hC : 0 ≤ C) (hT : 0 ≤ T) (hL : 0 ≤ L) (h : T ≤ T') : wt S C T L ≤ wt S C T' L := by
  unfold wt
  by_cases k : S + C = 0
  · rw [if_pos k, if_pos k]; exact h
  · rw [if_neg k, if_neg k, mx_eq hS hC hT hL, mx_eq hS hC (by omega) hL]; exact mix_T hS (by omega) h
theorem wt_lo {S0 S S3 C T L : Int} (h0 : 0 ≤ S0) (h1 : S0 ≤ S) (h3 : S ≤ S3) (hC : 0 ≤ C) (hT : 0 ≤ T) (hL : 0 ≤ L) : sxOp 3 (wt S0 C T L) (wt S3 C T L) ≤ wt S C T L := by
  by_cases k : C = 0
  · subst k; rw [wt_zero, wt_zero, wt_zero, sx3_l (Int.le_refl _)]; exact Int.le_refl _
  · unfold wt
    rw [if_neg (by omega), if_neg (by omega), if_neg (by omega), mx_eq h0 hC hT hL, mx_eq (by omega) hC hT hL, mx_eq (by omega) hC hT hL]
    by_cases h : L ≤ T
    · have a := mix_up (S := S0) (S' := S) (C := C) h0 hC (by omega) h1 h
      have b : sxOp 3 (mix S0 C T L) (mix S3 C T L) ≤ mix S0 C T L := by show (if _ < _ then _ else _) ≤ _; split <;> omega
      omega
    · have a := mix_down (S := S) (S' := S3) (C := C) (T := T) (L := L) (by omega) hC (by omega) h3 (by omega)
      have b : sxOp 3 (mix S0 C T L) (mix S3 C T L) ≤ mix S3 C T L := by show (if _ < _ then _ else _) ≤ _; split <;> omega
      omega
theorem wt_hi {S0 S S3 C T L : Int} (h0 : 0 ≤ S0) (h1 : S0 ≤ S) (h3 : S ≤ S3) (hC : 0 ≤ C) (hT : 0 ≤ T) (hL : 0 ≤ L) : wt S C T L ≤ sxOp 4 (wt S0 C T L) (wt S3 C T L) := by
  by_cases k : C = 0
  · subst k; rw [wt_zero, wt_zero, wt_zero, sx4_l (Int.le_refl _)]; exact Int.le_refl _
  · unfold wt
    rw [if_neg (by omega), if_neg (by omega), if_neg (by omega), mx_eq h0 hC hT hL, mx_eq (by omega) hC hT hL, mx_eq (by omega) hC hT hL]
    by_cases h : L ≤ T
    · have a := mix_up (S := S) (S' := S3) (C := C) (by omega) hC (by omega) h3 h
      have b : mix S3 C T L ≤ sxOp 4 (mix S0 C T L) (mix S3 C T L) := by show _ ≤ (if _ > _ then _ else _); split <;> omega
      omega
    · have a := mix_down (S := S0) (S' := S) (C := C) (T := T) (L := L) (by omega) hC (by omega) h1 (by omega)
      have b : mix S0 C T L ≤ sxOp 4 (mix S0 C T L) (mix S3 C T L) := by show _ ≤ (if _ > _ then _ else _); split <;> omega
      omega
theorem sm_le {z y : Nat → Int} (h6 : 0 ≤ z 6) (h7 : 0 ≤ z 7) {g h g' h' : Nat} (e6 : y 6 = z 6) (e7 : y 7 = z 7) (a : z g ≤ y g') (b : z h ≤ y h') : sm z g h ≤ sm y g' h' := by
  unfold sm
  rw [e6, e7]
  have := Int.mul_le_mul_of_nonneg_right a h6
  have := Int.mul_le_mul_of_nonneg_right b h7
  omega
theorem sm_ge {z y : Nat → Int} (h6 : 0 ≤ z 6) (h7 : 0 ≤ z 7) {g h g' h' : Nat} (e6 : y 6 = z 6) (e7 : y 7 = z 7) (a : y g' ≤ z g) (b : y h' ≤ z h) : sm y g' h' ≤ sm z g h := by
  unfold sm
  rw [e6, e7]
  have := Int.mul_le_mul_of_nonneg_right a h6
  have := Int.mul_le_mul_of_nonneg_right b h7
  omega
section
variable {z y : Nat → Int} (hc : cavP z) (hs : stP z) (hy : stP y) (hi : In z y)
include hc hs hy hi
theorem more1 (ho : op1 z) : Inner (aft1 z) (aft1 y) := by
  obtain ⟨i1, i2, i3, i4, i5, i6⟩ := hi
  have e19 := i2 19 (by omega); have e20 := i2 20 (by omega); have e21 := i2 21 (by omega); have e22 := i2 22 (by omega)
  have e6 := i1 6 (by omega); have e7 := i1 7 (by omega)
  have hc' := hc; have hs' := hs; have hy' := hy; have ho' := ho
  simp only [cavP, stP, op1] at hc' hs' hy' ho'
  have hb := sm_in hc hs ho
  have ec : cm y = cm z := by unfold cm; rw [e19, e20, e6, e7]
  have l0 : sm z 11 13 ≤ sm y 11 13 := sm_le (by omega) (by omega) e6 e7 i3.1 i4.1
  have l3 : sm y 12 14 ≤ sm z 12 14 := sm_ge (by omega) (by omega) e6 e7 i3.2 i4.2
  have lm : sm y 11 13 ≤ sm y 12 14 := by
    unfold sm
    have := Int.mul_le_mul_of_nonneg_right (show y 11 ≤ y 12 by omega) (show 0 ≤ y 6 by omega)
    have := Int.mul_le_mul_of_nonneg_right (show y 13 ≤ y 14 by omega) (show 0 ≤ y 7 by omega)
    omega
  have w : ∀ (x : Nat → Int) (S T : Int), warmT x S T = wt S (cm x) T (x 21) := fun _ _ _ => rfl
  have c0 := hb.2.2.2.2.1.1
  have s0 := hb.1.1
  refine ⟨⟨?_, ?_⟩, ⟨?_, ?_⟩, ⟨?_, ?_⟩, ⟨?_, ?_⟩⟩
  · simp only [aft1]; omega
  · simp only [aft1]; omega
  · simp only [aft1]; omega
  · simp only [aft1]; omega
  · simp only [aft1, w, ec, e21]
    refine sx3_ge (Int.le_trans (wt_lo s0 l0 (by omega) c0 (by omega) (by omega)) (wt_T (by omega) c0 (by omega) (by omega) i5.1)) (Int.le_trans (wt_lo s0 (by omega) l3 c0 (by omega) (by omega)) (wt_T (by omega) c0 (by omega) (by omega) i5.1))
  · simp only [aft1, w, ec, e21]
    refine sx4_le (Int.le_trans (wt_T (by omega) c0 (by omega) (by omega) i5.2) (wt_hi s0 l0 (by omega) c0 (by omega) (by omega))) (Int.le_trans (wt_T (by omega) c0 (by omega) (by omega) i5.2) (wt_hi s0 (by omega) l3 c0 (by omega) (by omega)))
  · simp only [aft1]; omega
  · simp only [aft1]; omega
theorem more2 (ho : op2 z) (hm : z 23 ≤ z 11 + z 13) : Inner (aft2 z) (aft2 y) := by
  obtain ⟨i1, i2, i3, i4, i5, i6⟩ := hi
  have e23 := i2 23 (by omega)
  simp only [stP, op2] at hs hy ho
  have m0 : 0 ≤ z 23 := by omega
  have q : ∀ (x : Nat → Int) (h A : Int), x 23 = z 23 → 0 ≤ h → qt x h A = Num.part (z 23) h A := fun x h A e hh => by
    rw [← e]; exact qt_eq (by omega) hh
  by_cases hz : z 23 = 0
  · have q0 : ∀ (x : Nat → Int) (h A : Int), x 23 = z 23 → qt x h A = 0 := fun x h A e => by unfold qt; rw [e, hz, Int.zero_mul]; exact Int.zero_tdiv _
    refine ⟨⟨?_, ?_⟩, ⟨?_, ?_⟩, ⟨?_, ?_⟩, ⟨?_, ?_⟩⟩ <;> simp only [aft2, q0 z _ _ rfl, q0 y _ _ e23] <;> omega
  · have A0 : 0 < z 11 + z 13 := by omega
    -- gas that stays, hydrogen that stays, water that stays: each grows with all that is there
    have gas : ∀ g h g' h' : Int, 0 ≤ g → 0 ≤ h → g ≤ g' → h ≤ h' → z 23 ≤ g + h → g - (z 23 - Num.part (z 23) h (g + h)) ≤ g' - (z 23 - Num.part (z 23) h' (g' + h')) := fun g h g' h' a b c d e => by
      have u := gas_up (M := z 23) (g := g) (h := h) (A := g + h) (d := g' - g) m0 e b (by omega) (by omega) (by omega)
      have v := gas_h (M := z 23) (g := g') (h := h) (d := h' - h) (A := g' + h) m0 b (by omega) (by omega) (by omega)
      rw [show g + (g' - g) = g' by omega, show g + h + (g' - g) = g' + h by omega] at u
      rw [show h + (h' - h) = h' by omega, show g' + h + (h' - h) = g' + h' by omega] at v
      omega
    have hyd : ∀ g h g' h' : Int, 0 ≤ g → 0 ≤ h → g ≤ g' → h ≤ h' → z 23 ≤ g + h → h - Num.part (z 23) h (g + h) ≤ h' - Num.part (z 23) h' (g' + h') := fun g h g' h' a b c d e => by
      have u := stay_up (M := z 23) (h := h) (A := g + h) (d := h' - h) m0 e b (by omega) (by omega)
      have v := stay_A (M := z 23) (h := h') (A := g + h') (A' := g' + h') m0 (by omega) (by omega) (by omega)
      rw [show h + (h' - h) = h' by omega, show g + h + (h' - h) = g + h' by omega] at u
      omega
    have wat : ∀ w w' A A' : Int, 0 ≤ w → w ≤ w' → 0 < A → A ≤ A' → z 23 ≤ A → w - Num.part (z 23) w A ≤ w' - Num.part (z 23) w' A' := fun w w' A A' a b c d e => by
      have u := stay_w (M := z 23) (w := w) (d := w' - w) (A := A) m0 e (by omega) c
      have v := stay_A (M := z 23) (h := w') (A := A) (A' := A') m0 (by omega) c d
      rw [show w + (w' - w) = w' by omega] at u
      omega
    refine ⟨⟨?_, ?_⟩, ⟨?_, ?_⟩, ⟨?_, ?_⟩, ⟨?_, ?_⟩⟩
    · simp only [aft2, am]; rw [q z _ _ rfl (by omega), q y _ _ e23 (by omega), e23]; exact gas _ _ _ _ (by omega) (by omega) i3.1 i4.1 hm
    · simp only [aft2, am]; rw [q z _ _ rfl (by omega), q y _ _ e23 (by omega), e23]; exact gas _ _ _ _ (by omega) (by omega) i3.2 i4.2 (by omega)
    · simp only [aft2, am]; rw [q z _ _ rfl (by omega), q y _ _ e23 (by omega)]; exact hyd _ _ _ _ (by omega) (by omega) i3.1 i4.1 hm
    · simp only [aft2, am]; rw [q z _ _ rfl (by omega), q y _ _ e23 (by omega)]; exact hyd _ _ _ _ (by omega) (by omega) i3.2 i4.2 (by omega)
    · simp only [aft2]; omega
    · simp only [aft2]; omega
    · simp only [aft2, am]; rw [q z _ _ rfl (by omega), q y _ _ e23 (by omega)]; exact wat _ _ _ _ (by omega) i6.1 A0 (by omega) hm
    · simp only [aft2, am]; rw [q z _ _ rfl (by omega), q y _ _ e23 (by omega)]; exact wat _ _ _ _ (by omega) i6.2 (by omega) (by omega) (by omega)
theorem more3 (ho : op3 z) : Inner (aft3 z) (aft3 y) := by
  obtain ⟨i1, i2, i3, i4, i5, i6⟩ := hi
  have e24 := i2 24 (by omega); have e25 := i2 25 (by omega); have e26 := i2 26 (by omega); have e27 := i2 27 (by omega)
  have e8 := i1 8 (by omega)
  simp only [cavP, stP, op3] at hc hs hy ho
  have n1 : ∀ (t s : Nat), 0 ≤ z s → z s ≤ 1000 → y s = z s → z t ≤ y t → nr z t s ≤ nr y t s := fun t s a b c d => by
    unfold nr; rw [e8, c]; exact near_T a b d
  have n2 : ∀ (t s : Nat), 0 ≤ z s → z s ≤ 1000 → y s = z s → y t ≤ z t → nr y t s ≤ nr z t s := fun t s a b c d => by
    unfold nr; rw [e8, c]; exact near_T a b d
  have b3 : ∀ a b : Int, sxOp 3 a b ≤ a ∧ sxOp 3 a b ≤ b := fun a b => by constructor <;> (show (if _ < _ then _ else _) ≤ _; split <;> omega)
  have b4 : ∀ a b : Int, a ≤ sxOp 4 a b ∧ b ≤ sxOp 4 a b := fun a b => by constructor <;> (show _ ≤ (if _ > _ then _ else _); split <;> omega)
  refine ⟨⟨?_, ?_⟩, ⟨?_, ?_⟩, ⟨?_, ?_⟩, ⟨?_, ?_⟩⟩
  · simp only [aft3]; omega
  · simp only [aft3]; omega
  · simp only [aft3]; omega
  · simp only [aft3]; omega
  · simp only [aft3]
    exact sx3_ge (Int.le_trans (b3 _ _).1 (n1 15 24 (by omega) (by omega) e24 i5.1)) (Int.le_trans (b3 _ _).2 (n1 15 25 (by omega) (by omega) e25 i5.1))
  · simp only [aft3]
    exact sx4_le (Int.le_trans (n2 16 24 (by omega) (by omega) e24 i5.2) (b4 _ _).1) (Int.le_trans (n2 16 25 (by omega) (by omega) e25 i5.2) (b4 _ _).2)
  · simp only [aft3]; omega
  · simp only [aft3]; omega
end
end Go.Ev.Gas
end

noncomputable section
set_option maxRecDepth 100000
namespace Go.Ev.Gas
open Go.RowKit Go.Proofs
/-! ### What the definitions of the specification say -/
noncomputable def kT (f : Nat) (a : AV plain) : KC := { f := f, args := [a], res := .ret (.bool true) }
noncomputable def gCav : Ctx := ⟨[], cavL, [], fun _ => True⟩
noncomputable def gSt : Ctx := ⟨[], stL, [], fun _ => True⟩
theorem r19 : isRes (kT 19 cavA).res (runK P L true [] [] gCav (kT 19 cavA)) = true := by decide +kernel
theorem r20 : isRes (kT 20 stA).res (runK P L true [] [] gSt (kT 20 stA)) = true := by decide +kernel
noncomputable def inA : AV plain := .agg [one 1, iv 19 0 1000000, iv 20 0 1000000, iv 21 2000 5000, iv 22 0 1000000000, Z, Z, Z, Z, Z]
noncomputable def wiA : AV plain := .agg [one 2, Z, Z, Z, Z, iv 23 0 2000000, Z, Z, Z, Z]
noncomputable def reA : AV plain := .agg [one 3, Z, Z, Z, Z, Z, iv 24 0 1000, iv 25 0 1000, iv 26 0 1000000, iv 27 0 1000000]
noncomputable def gRe : Ctx := ⟨[], [(.v 25, .v 24, false), (.v 27, .v 26, false)], [], fun _ => True⟩
theorem r30a : isRes (kT 30 inA).res (runK P L true [] [] plain (kT 30 inA)) = true := by decide +kernel
theorem r30b : isRes (kT 30 wiA).res (runK P L true [] [] plain (kT 30 wiA)) = true := by decide +kernel
theorem r30c : isRes (kT 30 reA).res (runK P L true [] [] gRe (kT 30 reA)) = true := by decide +kernel
def Says (f : Nat) (v : Value) (b : Bool) : Prop := ∀ w, Calls P f #[v] w fun e w' => e = .returned (.bool b) ∧ Below w.heap.size w w'
theorem says_of {f : Nat} {a : AV plain} {b : Bool} {H : (Nat → Value) → Prop} (c : Con P (Fence.there P) H { f := f, args := [a], res := .ret (.bool b) }) (z : Nat → Int) (h : H (ov z)) {v : Value} (hv : VR (envZ z) a v) : Says f v b :=
  fun w => c.at (room_there P) rfl z h rfl #[v] (vrs_cons hv vrs_nil) w
theorem says19 {z : Nat → Int} (hz : ints z) : (cavP z → Says 19 (cavV z) true) ∧ (¬ cavP z → Says 19 (cavV z) false) :=
  ⟨fun hc => says_of (con_of_run (H := fun _ => True) fbT rfl no_k no_p (fun _ _ => trivial) r19) z (holds_of (G := gCav) trivial (lts_cav hc) trivial trivial) (vr_cav hc),
   fun hc => says_of no19 z hc (raw_c hz)⟩
theorem says20 {z : Nat → Int} (hz : ints z) : (stP z → Says 20 (stV z) true) ∧ (¬ stP z → Says 20 (stV z) false) :=
  ⟨fun hs => says_of (con_of_run (H := fun _ => True) fbT rfl no_k no_p (fun _ _ => trivial) r20) z (holds_of (G := gSt) trivial (by simp only [stP] at hs; exact ⟨hs.1.2.1, hs.2.1.2.1, hs.2.2.1.2.1, hs.2.2.2.2.1, trivial⟩) trivial trivial) (vr_st hs),
   fun hs => says_of no20 z hs (raw_s hz)⟩
theorem says30 {z : Nat → Int} (hz : ints z) : (opP z → Says 30 (opV z) true) ∧ (¬ opP z → Says 30 (opV z) false) := by
  refine ⟨fun ho => ?_, fun ho => says_of no30 z ho (raw_o hz)⟩
  rcases ho with h | h | h
  · exact says_of (con_of_run (H := fun _ => True) fbT rfl no_k no_p (fun _ _ => trivial) r30a) z (plain_holds _) (vr_inj (m := 1000000) h (by simp only [op1] at h; omega) (by simp only [op1] at h; omega))
  · exact says_of (con_of_run (H := fun _ => True) fbT rfl no_k no_p (fun _ _ => trivial) r30b) z (plain_holds _) (vr_wit (m := 2000000) h (by simp only [op2] at h; omega))
  · exact says_of (con_of_run (H := fun _ => True) fbT rfl no_k no_p (fun _ _ => trivial) r30c) z (holds_of (G := gRe) trivial (by simp only [op3] at h; exact ⟨h.2.2.2.2.2.2.1.2.1, h.2.2.2.2.2.2.2.2.1, trivial⟩) trivial trivial) (vr_rst h)
theorem known_says : ∀ w, Calls P 21 #[] w fun e w' => e = .returned (.bool true) ∧ Below w.heap.size w w' :=
  fun w => (k21_con (fun _ => True)).at (room_there P) rfl (fun _ => 0) trivial rfl #[] vrs_nil w
end Go.Ev.Gas
end

