import Derived.Test.YtdpegcimhhegmaaRoJ
set_option linter.unusedVariables false
set_option linter.unusedSimpArgs false
set_option linter.unusedSectionVars false
noncomputable section
set_option maxRecDepth 1000000
set_option maxHeartbeats 0
namespace Go.Ev.Gas
open Go.RowKit Go.Ev.Num
/-! ### What is true behind an operation keeps the rules, if the state behind it is fine -/
noncomputable def injS : AV plain := .agg [one 1, iv 19 0 1000000, iv 20 0 1000000, iv 21 2000 5000, iv 22 0 1000000000, Z, Z, Z, Z, Z]
noncomputable def witS : AV plain := .agg [one 2, Z, Z, Z, Z, iv 23 0 2000000, Z, Z, Z, Z]
noncomputable def aK (op : AV plain) : List (AV plain) := [cavA, qA, op, iv 36 1 1000000]
noncomputable def thQ : SX := .bin 0 (.bin 2 (.v 44) (.v 6)) (.bin 2 (.v 45) (.v 7))
noncomputable def coQ : SX := .bin 0 (.bin 2 (.v 19) (.v 6)) (.bin 2 (.v 20) (.v 7))
noncomputable def nmQ : List (SX × Nat × Int × Int) := [(.bin 0 thQ coQ, 50, 1, 400000000), (.bin 5 (.bin 0 (.bin 2 thQ (.v 46)) (.bin 2 coQ (.v 21))) (.v 50), 60, 2000, 5000)]
noncomputable def okQ : List (SX × SX × Bool) := [(.c 1000000, .bin 0 (.v 44) (.v 19), false), (.c 1000000, .bin 0 (.v 45) (.v 20), false), (.c 1000000000, .bin 0 (.v 47) (.v 22), false)]
/-- The rules, for a content of so much. -/
noncomputable def ruL (g h t : SX) : List (SX × SX × Bool) := [(.bin 2 (.bin 2 (.bin 0 (.bin 2 g (.v 4)) (.bin 2 h (.v 5))) t) (.c 8314), .bin 2 (.bin 2 (.v 2) (.v 36)) (.c 10000000), false), (.bin 2 (.bin 2 (.v 3) (.v 36)) (.c 10000000), .bin 2 (.bin 2 (.bin 0 (.bin 2 g (.v 4)) (.bin 2 h (.v 5))) t) (.c 8314), false),
  (.bin 2 (.c 1000) h, .bin 2 (.v 9) (.bin 0 g h), false), (.bin 2 (.v 10) (.bin 0 g h), .bin 2 (.c 1000) h, false)]
noncomputable def gI : SX := .bin 0 (.v 44) (.v 19)
noncomputable def hI : SX := .bin 0 (.v 45) (.v 20)
noncomputable def gW : SX := .bin 1 (.v 44) (.bin 1 (.v 23) (.v 60))
noncomputable def hW : SX := .bin 1 (.v 45) (.v 60)
noncomputable def gKi : Ctx := ⟨nmQ, cavL ++ (okQ ++ ruL gI hI (.v 60)), [], fun _ => True⟩
noncomputable def gKz : Ctx := ⟨[], cavL ++ (okQ ++ ((.c 0, .bin 0 thQ coQ, false) :: ruL gI hI (.v 46))), [], fun _ => True⟩
noncomputable def nmW : List (SX × Nat × Int × Int) := [(.bin 0 (.v 44) (.v 45), 50, 1, 2000000), (.bin 5 (.bin 2 (.v 23) (.v 45)) (.v 50), 60, 0, 1000000), (.bin 5 (.bin 2 (.v 23) (.v 47)) (.v 50), 61, 0, 1000000000)]
noncomputable def gKw : Ctx := ⟨nmW, cavL ++ ((.v 50, .v 23, false) :: ruL gW hW (.v 46)), [], fun _ => True⟩
noncomputable def gKw0 : Ctx := ⟨[], cavL ++ ((.bin 0 (.v 44) (.v 45), .v 23, false) :: ruL (.v 44) (.v 45) (.v 46)), [(.bin 0 (.v 44) (.v 45), .c 0, true)], fun _ => True⟩
noncomputable def k48 (op : AV plain) : KC := { f := 48, args := aK op, res := .ret (.bool true) }
theorem con_s {G : Ctx} {k : KC} (hf : k.res.free = true) (h : isRes k.res (runK P L true [] sDo G k) = true) : Con P (Fence.there P) G.holds k := con_of_run (H := fun _ => True) fbT hf no_k sDo_ok (fun _ _ => trivial) h
theorem c48i : Con P (Fence.there P) gKi.holds (k48 injS) := con_s (by decide +kernel) (by decide +kernel)
theorem c48z : Con P (Fence.there P) gKz.holds (k48 injS) := con_s (by decide +kernel) (by decide +kernel)
theorem c48w : Con P (Fence.there P) gKw.holds (k48 witS) := con_s (by decide +kernel) (by decide +kernel)
theorem c48w0 : Con P (Fence.there P) gKw0.holds (k48 witS) := con_s (by decide +kernel) (by decide +kernel)
/-- The state of one content. -/
def yp (y : Nat → Int) (i : Nat) : Int :=
  match i with
  | 11 => y 44 | 12 => y 44 | 13 => y 45 | 14 => y 45 | 15 => y 46 | 16 => y 46 | 17 => y 47 | 18 => y 47
  | _ => y i
def yk (y : Nat → Int) (g h t w : Int) (i : Nat) : Int :=
  match i with
  | 30 => g | 31 => h | 32 => t | 33 => w
  | _ => zs y i
def volP (y : Nat → Int) : Prop := y 0 ≤ y 36 ∧ y 36 ≤ y 1
theorem sure_ok {y : Nat → Int} (h : sureN y = 1) : ¬ lowP y ∧ ¬ highP y ∧ ¬ thinP y ∧ ¬ richP y := by
  unfold sureN at h
  by_cases a : lowP y
  · rw [if_pos a] at h; omega
  rw [if_neg a] at h
  by_cases b : highP y
  · rw [if_pos b] at h; omega
  rw [if_neg b] at h
  exact ⟨a, b, pure_ok h⟩
section
variable {y : Nat → Int} (hc : cavP y) (hs : stP y) (hq : hasQ y) (hv : volP y)
include hc hs hq hv
theorem ru_of (hs2 : stP (zs y)) (hf : sureN (zs y) = 1) {g h t w : Int} (g1 : zs y 11 ≤ g ∧ g ≤ zs y 12) (h1 : zs y 13 ≤ h ∧ h ≤ zs y 14) (t1 : zs y 15 ≤ t ∧ t ≤ zs y 16) (w1 : zs y 17 ≤ w ∧ w ≤ zs y 18) :
    y 2 * y 36 * 10000000 ≤ (g * y 4 + h * y 5) * t * 8314 ∧ (g * y 4 + h * y 5) * t * 8314 ≤ y 3 * y 36 * 10000000 ∧ y 9 * (g + h) ≤ 1000 * h ∧ 1000 * h ≤ y 10 * (g + h) := by
  obtain ⟨a, b, c, d⟩ := sure_ok hf
  have hp : hasP (yk y g h t w) := ⟨g1, h1, t1, w1⟩
  have hc' : cavP (yk y g h t w) := hc
  have hs' : stP (yk y g h t w) := hs2
  have hv' : (yk y g h t w) 0 ≤ (yk y g h t w) 36 ∧ (yk y g h t w) 36 ≤ (yk y g h t w) 1 := hv
  refine ⟨kl_of hc' hs' hp hv' ?_, kh_of hc' hs' hp hv' ?_, thin_in hc' hs' hp hv' c g h g1.1 g1.2 h1.1 h1.2, rich_in hc' hs' hp hv' d g h g1.1 g1.2 h1.1 h1.2⟩
  · have : ¬ fo (zs y) (zs y 11) (zs y 13) (zs y 15) * 8314 < thr (zs y) 2 1 := a
    exact Int.not_lt.1 this
  · have : ¬ thr (zs y) 3 0 < fo (zs y) (zs y 12) (zs y 14) (zs y 16) * 8314 := b
    exact Int.not_lt.1 this
theorem in_yp : In y (yp y) ∧ stP (yp y) := by
  simp only [hasQ, stP] at hq hs
  refine ⟨⟨fun i hi => ?_, fun i hi => ?_, hq.1, hq.2.1, hq.2.2.1, hq.2.2.2⟩, ⟨(show 0 ≤ y 44 by omega), Int.le_refl _, (show y 44 ≤ 1000000 by omega)⟩, ⟨(show 0 ≤ y 45 by omega), Int.le_refl _, (show y 45 ≤ 1000000 by omega)⟩, ⟨(show 2000 ≤ y 46 by omega), Int.le_refl _, (show y 46 ≤ 5000 by omega)⟩, ⟨(show 0 ≤ y 47 by omega), Int.le_refl _, (show y 47 ≤ 1000000000 by omega)⟩⟩
  · unfold yp; split <;> first | omega | rfl
  · unfold yp; split <;> first | omega | rfl
theorem vr_q : VR (envZ y) qA (qV y) := by
  simp only [hasQ, stP] at hq hs
  exact vr_agg (vrs_cons (vr_iv y (by omega) (by omega)) (vrs_cons (vr_iv y (by omega) (by omega)) (vrs_cons (vr_iv y (by omega) (by omega)) (vrs_cons (vr_iv y (by omega) (by omega)) vrs_nil))))
theorem vr_v : VR (envZ y) (iv 36 1 1000000) (vi (y 36)) := by
  simp only [cavP, volP] at hc hv
  exact vr_iv y (by omega) (by omega)
end
/-- Names that an evaluation gives to what it makes. -/
def y3 (y : Nat → Int) (a b c : Int) (i : Nat) : Int :=
  match i with
  | 50 => a | 60 => b | 61 => c
  | _ => y i
theorem kept_inject {y : Nat → Int} (hc : cavP y) (hs : stP y) (hq : hasQ y) (hv : volP y) (ho : op1 y) (hcan : can y) (hf : sureN (zs y) = 1) : Gives (Fence.there P) 48 #[cavV y, qV y, opV y, vi (y 36)] (.bool true) := by
  obtain ⟨hin, hsp⟩ := in_yp hc hs hq hv
  have hs2 := st_behind hc hs (.inl ho) hcan
  have k1 : y 28 = 1 := ho.1
  have e1 : aft (yp y) = aft1 (yp y) := by unfold aft; exact if_pos k1
  obtain ⟨hcp, i1, i2, i3, i4⟩ := more_all hc hs hsp hin (.inl ho) hcan
  rw [e1] at i1 i2 i3 i4
  have hcan' : y 12 + y 19 ≤ 1000000 ∧ y 14 + y 20 ≤ 1000000 ∧ y 18 + y 22 ≤ 1000000000 := by simp only [can] at hcan; omega
  have hq' := hq; have hs' := hs; have ho' := ho; have hs2' := hs2
  simp only [hasQ, stP, op1] at hq' hs' ho' hs2'
  let Sx : Int := y 44 * y 6 + y 45 * y 7
  have heat : aft1 (yp y) 4 = warmT (yp y) Sx (y 46) ∧ aft1 (yp y) 5 = warmT (yp y) Sx (y 46) := ⟨sx3_l (Int.le_refl _), sx4_l (Int.le_refl _)⟩
  rw [heat.1, heat.2] at i3
  have ru := ru_of hc hs hq hv hs2 hf (g := y 44 + y 19) (h := y 45 + y 20) (t := warmT (yp y) Sx (y 46)) (w := y 47 + y 22) i1 i2 i3 i4
  have args : ∀ a b c : Int, VRs (envZ (y3 y a b c)) (aK injS) (#[cavV y, qV y, opV y, vi (y 36)] : Array Value).toList := fun a b c =>
    four (vr_cav (z := y3 y a b c) hc) (vr_q (y := y3 y a b c) hc hs hq hv) (vr_inj (z := y3 y a b c) (m := 1000000) ho (show y 19 ≤ 1000000 by omega) (show y 20 ≤ 1000000 by omega)) (vr_v (y := y3 y a b c) hc hs hq hv)
  have okq : ∀ a b c : Int, LtsP (ov (y3 y a b c)) okQ := fun a b c => ⟨(show y 44 + y 19 ≤ 1000000 by omega), (show y 45 + y 20 ≤ 1000000 by omega), (show y 47 + y 22 ≤ 1000000000 by omega), trivial⟩
  have base : ∀ a b c : Int, LtsP (ov (y3 y a b c)) cavL := fun a b c => lts_cav (z := y3 y a b c) hc
  have hcC : 0 ≤ cm y ∧ cm y ≤ 200000000 := (sm_in hc hs ho).2.2.2.2.1
  have hcS : 0 ≤ Sx ∧ Sx ≤ 200000000 := (sm_in (z := yp y) hc hsp ho).1
  have ecm : cm (yp y) = cm y := rfl
  by_cases hz : Sx + cm y = 0
  · have ew : warmT (yp y) Sx (y 46) = y 46 := by unfold warmT; rw [if_pos (by rw [ecm]; exact hz)]
    rw [ew] at ru
    exact gives_of c48z rfl rfl rfl (y3 y 0 0 0) (holds_of (G := gKz) trivial (lts_app (base 0 0 0) (lts_app (okq 0 0 0) ⟨(show Sx + cm y ≤ 0 by omega), ru.1, ru.2.1, ru.2.2.1, ru.2.2.2, trivial⟩)) trivial trivial) _ (args 0 0 0)
  · have ew : warmT (yp y) Sx (y 46) = (Sx * y 46 + cm y * y 21).tdiv (Sx + cm y) := by unfold warmT; rw [if_neg (by rw [ecm]; exact hz)]; rfl
    have hb : 2000 ≤ warmT (yp y) Sx (y 46) ∧ warmT (yp y) Sx (y 46) ≤ 5000 := by
      have a1 : (2000 : Int) ≤ aft y 4 := hs2.2.2.1.1
      have a2 : aft y 5 ≤ (5000 : Int) := hs2.2.2.1.2.2
      omega
    refine gives_of c48i rfl rfl rfl (y3 y (Sx + cm y) (warmT (yp y) Sx (y 46)) 0) (holds_of (G := gKi) ⟨⟨rfl, (show 1 ≤ Sx + cm y by omega), (show Sx + cm y ≤ 400000000 by omega)⟩, ⟨ew.symm, hb.1, hb.2⟩, trivial⟩ (lts_app (base _ _ _) (lts_app (okq _ _ _) ⟨ru.1, ru.2.1, ru.2.2.1, ru.2.2.2, trivial⟩)) trivial trivial) _ (args _ _ _)
theorem kept_withdraw {y : Nat → Int} (hc : cavP y) (hs : stP y) (hq : hasQ y) (hv : volP y) (ho : op2 y) (hcan : can y) (hf : sureN (zs y) = 1) : Gives (Fence.there P) 48 #[cavV y, qV y, opV y, vi (y 36)] (.bool true) := by
  obtain ⟨hin, hsp⟩ := in_yp hc hs hq hv
  have hs2 := st_behind hc hs (.inr (.inl ho)) hcan
  have k1 : y 28 = 2 := ho.1
  have e1 : aft (yp y) = aft2 (yp y) := by
    unfold aft
    rw [if_neg (show ¬ yp y 28 = 1 by show ¬ y 28 = 1; omega)]; exact if_pos k1
  obtain ⟨hcp, i1, i2, i3, i4⟩ := more_all hc hs hsp hin (.inr (.inl ho)) hcan
  rw [e1] at i1 i2 i3 i4
  have hm : y 23 ≤ y 11 + y 13 := by simp only [can] at hcan; omega
  have hq' := hq; have hs' := hs; have ho' := ho
  simp only [hasQ, stP, op2] at hq' hs' ho'
  let q : Int := (y 23 * y 45).tdiv (y 44 + y 45)
  let qw : Int := (y 23 * y 47).tdiv (y 44 + y 45)
  have ru := ru_of hc hs hq hv hs2 hf (g := y 44 - (y 23 - q)) (h := y 45 - q) (t := y 46) (w := y 47 - qw) i1 i2 i3 i4
  have args : ∀ a b c : Int, VRs (envZ (y3 y a b c)) (aK witS) (#[cavV y, qV y, opV y, vi (y 36)] : Array Value).toList := fun a b c =>
    four (vr_cav (z := y3 y a b c) hc) (vr_q (y := y3 y a b c) hc hs hq hv) (vr_wit (z := y3 y a b c) (m := 2000000) ho (show y 23 ≤ 2000000 by omega)) (vr_v (y := y3 y a b c) hc hs hq hv)
  have base : ∀ a b c : Int, LtsP (ov (y3 y a b c)) cavL := fun a b c => lts_cav (z := y3 y a b c) hc
  by_cases hz : y 44 + y 45 = 0
  · have h23 : y 23 = 0 := by omega
    have q0 : q = 0 := by show (y 23 * y 45).tdiv _ = 0; rw [h23, Int.zero_mul]; exact Int.zero_tdiv _
    rw [q0, h23, Int.sub_zero, Int.sub_zero, Int.sub_zero] at ru
    exact gives_of c48w0 rfl rfl rfl (y3 y 0 0 0) (holds_of (G := gKw0) trivial (lts_app (base 0 0 0) ⟨(show y 23 ≤ y 44 + y 45 by omega), ru.1, ru.2.1, ru.2.2.1, ru.2.2.2, trivial⟩) ⟨(show y 44 + y 45 = 0 from hz), trivial⟩ trivial) _ (args 0 0 0)
  · have a2 : (0 : Int) ≤ aft y 2 := hs2.2.1.1
    have a6 : (0 : Int) ≤ aft y 6 := hs2.2.2.2.1
    have b2 : aft y 2 ≤ y 45 - q := i2.1
    have b6 : aft y 6 ≤ y 47 - qw := i4.1
    have n1 : 0 ≤ q := Int.tdiv_nonneg (Int.mul_nonneg (by omega) (by omega)) (by omega)
    have n2 : 0 ≤ qw := Int.tdiv_nonneg (Int.mul_nonneg (by omega) (by omega)) (by omega)
    refine gives_of c48w rfl rfl rfl (y3 y (y 44 + y 45) q qw) (holds_of (G := gKw) ⟨⟨rfl, (show 1 ≤ y 44 + y 45 by omega), (show y 44 + y 45 ≤ 2000000 by omega)⟩, ⟨rfl, n1, (show q ≤ 1000000 by omega)⟩, ⟨rfl, n2, (show qw ≤ 1000000000 by omega)⟩, trivial⟩ (lts_app (base _ _ _) ⟨(show y 23 ≤ y 44 + y 45 by omega), ru.1, ru.2.1, ru.2.2.1, ru.2.2.2, trivial⟩) trivial trivial) _ (args _ _ _)
end Go.Ev.Gas
end

noncomputable section
set_option maxRecDepth 1000000
set_option maxHeartbeats 0
namespace Go.Ev.Gas
open Go.RowKit Go.Ev.Num
/-! ### An operation that leaves no fine state -/
def nE (y : Nat → Int) (e : Int) (i : Nat) : Int :=
  match i with
  | 240 => e
  | _ => y i
def X29a (x : Nat → Int) : Prop := ∃ y : Nat → Int, cavP y ∧ stP y ∧ opP y ∧ ints y ∧ can y ∧ sureN (zs y) ≠ 1 ∧ x = nw y y zeros 0
def X29b (x : Nat → Int) : Prop := ∃ (y : Nat → Int) (e : Int), cavP y ∧ stP y ∧ ints y ∧ ((¬ opP y ∧ e = 2) ∨ (opP y ∧ ¬ can y ∧ e = 7)) ∧ x = nE y e
noncomputable def k29a : KC := { f := 29, args := [cavA, stA, rawO], res := .ret (.tuple [stN, goN, .int .i64 0]) }
noncomputable def k29b : KC := { f := 29, args := [cavA, stA, rawO], res := .ret (.tuple [z8, z6, iv 240 1 10]) }
noncomputable def k18b : KC := { f := 18, args := [cavA, stN], res := .ret (.tuple [iv 218 2 5, .int .i64 0]) }
noncomputable def k29r : KC := { f := 29, args := [cavA, stA, rawO], res := .ret (.tuple [z8, z6, .int .i64 2]) }
theorem d29r : isRes k29r.res (runK P L true [kNo 67 rawO] [] (gValid (cavL ++ stL) (fun o => ¬ opP (zo o))) k29r) = true := by decide +kernel
theorem c29r : Con P (Fence.there P) (gValid (cavL ++ stL) (fun o => ¬ opP (zo o))).holds k29r := con_of_run fbT (by decide +kernel) (one_t (by decide +kernel) (no67.mono fun o h => h)) no_p (fun o h => h.extra) d29r
theorem c29a : Con P (Fence.there P) (At X29a) k29a := con_num rfl rfl (by decide +kernel) (by decide +kernel) (by decide +kernel) (by decide +kernel) fun x ⟨y, hc, hs, ho, hi, h, hf, hx⟩ => by
  subst hx
  have hst := st_behind hc hs ho h
  have hg := (aft_in hc hs ho h).2
  exact ⟨((do_all hc hs ho).1 h).2, (show bnd _ stN ∧ bnd _ goN ∧ bnd _ (.int .i64 0) ∧ True from ⟨bnd_stw hst, bnd_gow hg, by simp only [bnd], trivial⟩)⟩
theorem c29b : Con P (Fence.there P) (At X29b) k29b := con_num rfl rfl (by decide +kernel) (by decide +kernel) (by decide +kernel) (by decide +kernel) fun x ⟨y, e, hc, hs, hi, h, hx⟩ => by
  subst hx
  rcases h with ⟨h1, rfl⟩ | ⟨h1, h2, rfl⟩
  · exact ⟨gives_of c29r rfl rfl rfl y (no_holds (lts_cs hc hs) h1) _ (three (vr_cav hc) (vr_st hs) (raw_o hi)), (show bnd _ z8 ∧ bnd _ z6 ∧ ((1 : Int) ≤ 2 ∧ (2 : Int) ≤ 10) ∧ True from ⟨bnd_z8 _, bnd_z6 _, by omega, trivial⟩)⟩
  · exact ⟨((do_all hc hs h1).2 h2).2, (show bnd _ z8 ∧ bnd _ z6 ∧ ((1 : Int) ≤ 7 ∧ (7 : Int) ≤ 10) ∧ True from ⟨bnd_z8 _, bnd_z6 _, by omega, trivial⟩)⟩
theorem c18b : Con P (Fence.there P) (At X29a) k18b := con_num rfl rfl (by decide +kernel) (by decide +kernel) (by decide +kernel) (by decide +kernel) fun x ⟨y, hc, hs, ho, hi, h, hf, hx⟩ => by
  subst hx
  have hst := st_behind hc hs ho h
  have hb := sureN_bad hf
  exact ⟨sure_any (z := zs y) hc hst, (show ((2 : Int) ≤ sureN (zs y) ∧ sureN (zs y) ≤ 5) ∧ bnd _ (.int .i64 0) ∧ True from ⟨hb, by simp only [bnd], trivial⟩)⟩
noncomputable def k50 : KC := { f := 50, args := [cavA, stA, rawO], res := .ret (.bool false) }
theorem d50a : isRes k50.res (runK P L true [k29a, k18b] [] (gValid [] (At X29a)) k50) = true := by decide +kernel
theorem d50b : isRes k50.res (runK P L true [k29b] [] (gValid [] (At X29b)) k50) = true := by decide +kernel
theorem c50a : Con P (Fence.there P) (gValid [] (At X29a)).holds k50 := con_of_run fbT (by decide +kernel) (List.forall_mem_cons.2 ⟨⟨by decide +kernel, c29a⟩, one_t (by decide +kernel) c18b⟩) no_p (fun o h => h.extra) d50a
theorem c50b : Con P (Fence.there P) (gValid [] (At X29b)).holds k50 := con_of_run fbT (by decide +kernel) (one_t (by decide +kernel) c29b) no_p (fun o h => h.extra) d50b
theorem fine_no {y : Nat → Int} (hc : cavP y) (hs : stP y) (hi : ints y) (h : ¬ okL y) : Gives (Fence.there P) 50 #[cavV y, stV y, opV y] (.bool false) := by
  by_cases ho : opP y
  · by_cases hcan : can y
    · have hX : At X29a (ov (nw y y zeros 0)) := ⟨_, fun _ _ => rfl, y, hc, hs, ho, hi, hcan, fun hf => h ⟨hcan, hf⟩, rfl⟩
      have hr : VR (envZ (nw y y zeros 0)) rawO (opV y) := by
        have e : ∀ i, i < 200 → VR (envZ (nw y y zeros 0)) (rv i) (vi (y i)) := fun i hi' => by
          have : nw y y zeros 0 i = y i := by
            unfold nw nm
            split <;> first | omega | (split <;> first | omega | rfl)
          simp only [rv, VR, SX.eval, envZ, ov, valI, this]
          exact ⟨trivial, hi i⟩
        exact vr_agg (vrs_cons (e 28 (by omega)) (vrs_cons (e 19 (by omega)) (vrs_cons (e 20 (by omega)) (vrs_cons (e 21 (by omega)) (vrs_cons (e 22 (by omega)) (vrs_cons (e 23 (by omega)) (vrs_cons (e 24 (by omega)) (vrs_cons (e 25 (by omega)) (vrs_cons (e 26 (by omega)) (vrs_cons (e 27 (by omega)) vrs_nil))))))))))
      exact gives_of c50a rfl rfl rfl (nw y y zeros 0) (no_holds trivial hX) _ (three (vr_cav (z := nw y y zeros 0) hc) (vr_st (z := nw y y zeros 0) hs) hr)
    · have hX : At X29b (ov (nE y 7)) := ⟨_, fun _ _ => rfl, y, 7, hc, hs, hi, .inr ⟨ho, hcan, rfl⟩, rfl⟩
      have hin : ints (nE y 7) := fun i => by unfold nE; split <;> first | exact hi i | omega
      exact gives_of c50b rfl rfl rfl (nE y 7) (no_holds trivial hX) _ (three (vr_cav (z := nE y 7) hc) (vr_st (z := nE y 7) hs) (raw_o hin))
  · have hX : At X29b (ov (nE y 2)) := ⟨_, fun _ _ => rfl, y, 2, hc, hs, hi, .inl ⟨ho, rfl⟩, rfl⟩
    have hin : ints (nE y 2) := fun i => by unfold nE; split <;> first | exact hi i | omega
    exact gives_of c50b rfl rfl rfl (nE y 2) (no_holds trivial hX) _ (three (vr_cav (z := nE y 2) hc) (vr_st (z := nE y 2) hs) (raw_o hin))
end Go.Ev.Gas
end

