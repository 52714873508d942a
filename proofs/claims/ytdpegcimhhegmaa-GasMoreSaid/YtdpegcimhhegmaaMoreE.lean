import Derived.Test.YtdpegcimhhegmaaMoreC
import Derived.Test.YtdpegcimhhegmaaMoreD
set_option linter.unusedVariables false
set_option linter.unusedSimpArgs false
set_option linter.unusedSectionVars false
noncomputable section
set_option maxRecDepth 100000
namespace Go.Ev.Gas
open Go.RowKit Go.Ev.Num
theorem aft_congr {z w : Nat → Int} (h : ∀ i, i < 40 → z i = w i) : aft z = aft w ∧ gon z = gon w ∧ (can z ↔ can w) := by
  have e4 := h 4 (by omega); have e6 := h 6 (by omega); have e7 := h 7 (by omega); have e8 := h 8 (by omega)
  have e11 := h 11 (by omega); have e12 := h 12 (by omega); have e13 := h 13 (by omega); have e14 := h 14 (by omega); have e15 := h 15 (by omega); have e16 := h 16 (by omega); have e17 := h 17 (by omega); have e18 := h 18 (by omega)
  have e19 := h 19 (by omega); have e20 := h 20 (by omega); have e21 := h 21 (by omega); have e22 := h 22 (by omega); have e23 := h 23 (by omega); have e24 := h 24 (by omega); have e25 := h 25 (by omega); have e26 := h 26 (by omega); have e27 := h 27 (by omega); have e28 := h 28 (by omega)
  refine ⟨?_, ?_, ?_⟩
  · funext i
    unfold aft
    rw [e28]
    have ec : cm z = cm w := by simp only [cm, e6, e7, e19, e20]
    have s1 : sm z 11 13 = sm w 11 13 := by simp only [sm, e6, e7, e11, e13]
    have s2 : sm z 12 14 = sm w 12 14 := by simp only [sm, e6, e7, e12, e14]
    have ew : ∀ S T : Int, warmT z S T = warmT w S T := fun S T => by unfold warmT; rw [ec, e21]
    have a1 : aft1 z i = aft1 w i := by simp only [aft1, ew, s1, s2, e11, e12, e13, e14, e15, e16, e17, e18, e19, e20, e22]
    have a2 : aft2 z i = aft2 w i := by simp only [aft2, qt, am, e11, e12, e13, e14, e15, e16, e17, e18, e23]
    have a3 : aft3 z i = aft3 w i := by simp only [aft3, nr, e8, e11, e12, e13, e14, e15, e16, e17, e18, e24, e25, e26, e27]
    by_cases k : w 28 = 1
    · rw [if_pos k, if_pos k, a1]
    · rw [if_neg k, if_neg k]
      by_cases k : w 28 = 2
      · rw [if_pos k, if_pos k, a2]
      · rw [if_neg k, if_neg k, a3]
  · funext i
    unfold gon
    rw [e28]
    have a2 : gon2 z i = gon2 w i := by simp only [gon2, qt, am, e11, e12, e13, e14, e15, e16, e17, e18, e23]
    by_cases k : w 28 = 2
    · rw [if_pos k, if_pos k, a2]
    · rw [if_neg k, if_neg k]
  · simp only [can, e11, e12, e13, e14, e18, e19, e20, e22, e23, e27, e28]
/-- By how much less is unknown. -/
def inr (n lo hi : Int) : Int := sxOp 4 0 (sxOp 3 n (hi - lo))
theorem inr_in {n lo hi : Int} (h : lo ≤ hi) : 0 ≤ inr n lo hi ∧ inr n lo hi ≤ hi - lo := by
  unfold inr
  have e1 : sxOp 3 n (hi - lo) ≤ hi - lo := by show (if _ < _ then _ else _) ≤ _; split <;> omega
  generalize sxOp 3 n (hi - lo) = x at *
  show 0 ≤ (if _ > _ then _ else _) ∧ (if _ > _ then _ else _) ≤ _
  split <;> omega
def yM (z l : Nat → Int) (i : Nat) : Int := if i = 11 then z 11 + inr (l 0) (z 11) (z 12) else if i = 14 then z 14 - inr (l 1) (z 13) (z 14) else if i = 15 then z 15 + inr (l 2) (z 15) (z 16) else if i = 18 then z 18 - inr (l 3) (z 17) (z 18) else z i
def zM (z l : Nat → Int) (i : Nat) : Int :=
  if i < 40 then z i else if i < 44 then l (i - 40) else if i = 80 then z 11 + inr (l 0) (z 11) (z 12) else if i = 81 then z 14 - inr (l 1) (z 13) (z 14) else if i = 82 then z 15 + inr (l 2) (z 15) (z 16) else if i = 83 then z 18 - inr (l 3) (z 17) (z 18)
  else if i < 90 then 0 else if i < 98 then aft z (i - 90) else if i < 100 then 0 else if i < 106 then gon z (i - 100) else if i < 110 then 0 else if i < 118 then aft (yM z l) (i - 110) else if i < 120 then 0 else gon (yM z l) (i - 120)
theorem zM_lo {z l : Nat → Int} {i : Nat} (h : i < 40) : zM z l i = z i := by unfold zM; rw [if_pos h]
theorem zM_x {z l : Nat → Int} {i : Nat} (h : i < 8) : zM z l (90 + i) = aft z i := by
  unfold zM
  rw [if_neg (by omega), if_neg (by omega), if_neg (by omega), if_neg (by omega), if_neg (by omega), if_neg (by omega), if_neg (by omega), if_pos (by omega)]
  congr 1; omega
theorem zM_g {z l : Nat → Int} {i : Nat} (h : i < 6) : zM z l (100 + i) = gon z i := by
  unfold zM
  rw [if_neg (by omega), if_neg (by omega), if_neg (by omega), if_neg (by omega), if_neg (by omega), if_neg (by omega), if_neg (by omega), if_neg (by omega), if_neg (by omega), if_pos (by omega)]
  congr 1; omega
theorem zM_y {z l : Nat → Int} {i : Nat} (h : i < 8) : zM z l (110 + i) = aft (yM z l) i := by
  unfold zM
  rw [if_neg (by omega), if_neg (by omega), if_neg (by omega), if_neg (by omega), if_neg (by omega), if_neg (by omega), if_neg (by omega), if_neg (by omega), if_neg (by omega), if_neg (by omega), if_neg (by omega), if_pos (by omega)]
  congr 1; omega
theorem zM_h {z l : Nat → Int} {i : Nat} (h : i < 6) : zM z l (120 + i) = gon (yM z l) i := by
  unfold zM
  rw [if_neg (by omega), if_neg (by omega), if_neg (by omega), if_neg (by omega), if_neg (by omega), if_neg (by omega), if_neg (by omega), if_neg (by omega), if_neg (by omega), if_neg (by omega), if_neg (by omega), if_neg (by omega), if_neg (by omega)]
  congr 1; omega
theorem ny_zM {z l : Nat → Int} {i : Nat} (h : i < 40) : ny (zM z l) i = yM z l i := by
  unfold ny yM
  by_cases k1 : i = 11
  · rw [if_pos k1, if_pos k1]; rfl
  rw [if_neg k1, if_neg k1]
  by_cases k2 : i = 14
  · rw [if_pos k2, if_pos k2]; rfl
  rw [if_neg k2, if_neg k2]
  by_cases k3 : i = 15
  · rw [if_pos k3, if_pos k3]; rfl
  rw [if_neg k3, if_neg k3]
  by_cases k4 : i = 18
  · rw [if_pos k4, if_pos k4]; rfl
  rw [if_neg k4, if_neg k4, zM_lo h]
section
variable {z : Nat → Int} (l : Nat → Int) (hc : cavP z) (hs : stP z) (ho : opP z)
include hc hs ho
theorem yM_in : In z (yM z l) ∧ stP (yM z l) := by
  have hs' := hs
  simp only [stP] at hs'
  have a := inr_in (n := l 0) (lo := z 11) (hi := z 12) (by omega)
  have b := inr_in (n := l 1) (lo := z 13) (hi := z 14) (by omega)
  have c := inr_in (n := l 2) (lo := z 15) (hi := z 16) (by omega)
  have d := inr_in (n := l 3) (lo := z 17) (hi := z 18) (by omega)
  have y11 : yM z l 11 = z 11 + inr (l 0) (z 11) (z 12) := rfl
  have y12 : yM z l 12 = z 12 := rfl
  have y13 : yM z l 13 = z 13 := rfl
  have y14 : yM z l 14 = z 14 - inr (l 1) (z 13) (z 14) := rfl
  have y15 : yM z l 15 = z 15 + inr (l 2) (z 15) (z 16) := rfl
  have y16 : yM z l 16 = z 16 := rfl
  have y17 : yM z l 17 = z 17 := rfl
  have y18 : yM z l 18 = z 18 - inr (l 3) (z 17) (z 18) := rfl
  refine ⟨⟨fun i hi => ?_, fun i hi => ?_, by omega, by omega, by omega, by omega⟩, ?_⟩
  · unfold yM; rw [if_neg (by omega), if_neg (by omega), if_neg (by omega), if_neg (by omega)]
  · unfold yM; rw [if_neg (by omega), if_neg (by omega), if_neg (by omega), if_neg (by omega)]
  · simp only [stP, y11, y12, y13, y14, y15, y16, y17, y18]; omega
theorem names_M : NamesP (ov (zM z l)) moreN := by
  have hs' := hs
  simp only [stP] at hs'
  have a := inr_in (n := l 0) (lo := z 11) (hi := z 12) (by omega)
  have b := inr_in (n := l 1) (lo := z 13) (hi := z 14) (by omega)
  have c := inr_in (n := l 2) (lo := z 15) (hi := z 16) (by omega)
  have d := inr_in (n := l 3) (lo := z 17) (hi := z 18) (by omega)
  have e0 : valI (ov (zM z l) 80) = z 11 + inr (l 0) (z 11) (z 12) := rfl
  have e1 : valI (ov (zM z l) 81) = z 14 - inr (l 1) (z 13) (z 14) := rfl
  have e2 : valI (ov (zM z l) 82) = z 15 + inr (l 2) (z 15) (z 16) := rfl
  have e3 : valI (ov (zM z l) 83) = z 18 - inr (l 3) (z 17) (z 18) := rfl
  exact ⟨⟨rfl, by omega, by omega⟩, ⟨rfl, by omega, by omega⟩, ⟨rfl, by omega, by omega⟩, ⟨rfl, by omega, by omega⟩, trivial⟩
theorem hm_of (b1 b2 : Bool) (h1 : b1 = true ↔ can z) (h2 : b2 = true ↔ can (yM z l)) : HM b1 b2 (zM z l) := by
  have y := yM_in l hc hs ho
  have A := aft_congr (z := zM z l) (w := z) (fun i h => zM_lo h)
  have B := aft_congr (z := ny (zM z l)) (w := yM z l) (fun i h => ny_zM h)
  refine ⟨hc, hs, ?_, ho, ?_, ?_⟩
  · have e := fun i (h : i < 40) => ny_zM (z := z) (l := l) h
    have := y.2
    simp only [stP] at this ⊢
    rw [e 11 (by omega), e 12 (by omega), e 13 (by omega), e 14 (by omega), e 15 (by omega), e 16 (by omega), e 17 (by omega), e 18 (by omega)]
    exact this
  · cases b1 with
    | true => exact ⟨A.2.2.2 (h1.1 rfl), fun i h => by rw [zM_x h, A.1], fun i h => by rw [zM_g h, A.2.1]⟩
    | false => exact fun c => by have := h1.2 (A.2.2.1 c); cases this
  · cases b2 with
    | true => exact ⟨B.2.2.2 (h2.1 rfl), fun i h => by rw [zM_y h, B.1], fun i h => by rw [zM_h h, B.2.1]⟩
    | false => exact fun c => by have := h2.2 (B.2.2.1 c); cases this
theorem inn_of (h : can z) : LtsP (ov (zM z l)) innL := by
  have y := yM_in l hc hs ho
  obtain ⟨a, b, c, d⟩ := (more_all hc hs y.2 y.1 ho h).2
  have ex := fun i (h : i < 8) => zM_x (z := z) (l := l) h
  have ey := fun i (h : i < 8) => zM_y (z := z) (l := l) h
  have t : ∀ i j, i < 8 → j < 8 → aft z i ≤ aft (yM z l) j → valI (ov (zM z l) (90 + i)) ≤ valI (ov (zM z l) (110 + j)) := fun i j hi hj k => by
    show zM z l (90 + i) ≤ zM z l (110 + j); rw [ex i hi, ey j hj]; exact k
  have t' : ∀ i j, i < 8 → j < 8 → aft (yM z l) j ≤ aft z i → valI (ov (zM z l) (110 + j)) ≤ valI (ov (zM z l) (90 + i)) := fun i j hi hj k => by
    show zM z l (110 + j) ≤ zM z l (90 + i); rw [ex i hi, ey j hj]; exact k
  exact ⟨t 0 0 (by omega) (by omega) a.1, t' 1 1 (by omega) (by omega) a.2, t 2 2 (by omega) (by omega) b.1, t' 3 3 (by omega) (by omega) b.2, t 4 4 (by omega) (by omega) c.1, t' 5 5 (by omega) (by omega) c.2, t 6 6 (by omega) (by omega) d.1, t' 7 7 (by omega) (by omega) d.2, trivial⟩
end
end Go.Ev.Gas
end

noncomputable section
set_option maxRecDepth 100000
namespace Go.Ev.Gas
open Go.RowKit Go.Ev.Num
theorem lts_ap {o : Nat → Value} : ∀ {a b : List (SX × SX × Bool)}, LtsP o a → LtsP o b → LtsP o (a ++ b)
  | [], _, _, h => h
  | (x, y, true) :: r, b, h, k => ⟨h.1, lts_ap h.2 k⟩
  | (x, y, false) :: r, b, h, k => ⟨h.1, lts_ap h.2 k⟩
/-- The world in which a list of four lies. -/
def envS (z : Nat → Int) (p : Plc) : Env plain := ⟨fun i => ([p][i]?).map fun p => (p.b, p.o), ov z, 0, fun i => (([p][i]?).map (·.room)).getD 0, fun _ => True, ov_one z, plain_holds _⟩
theorem vr_to {z : Nat → Int} {p : Plc} {a : AV plain} {v : Value} (hp : pureA a = true) (hf : a.free = true) (h : VR (envZ z) a v) : VR (envS z p) a v :=
  VR.free (e := envZ z) (e' := envS z p) rfl a v hf h
theorem more_run {z : Nat → Int} {G : Ctx} {o : AV plain} (c : Con P (Fence.there P) G.holds (kMore o)) (hG : G.holds (ov z)) (hc : cavP z) (hs : stP z) (hop : pureA o = true) (hof : o.free = true) (hv : VR (envZ z) o (opV z)) (b off cap : Nat) (w : World)
    (hb : b < w.heap.size) (hcap : 4 ≤ cap) (hcells : ∀ j, j < 4 → w.cell? ⟨b, off + j, none⟩ = some (vi (z (40 + j)))) (hl : ∀ j, j < 4 → -9223372036854775808 ≤ z (40 + j) ∧ z (40 + j) ≤ 9223372036854775807) :
    Calls P 14 #[cavV z, stV z, opV z, .slice (some ⟨b, off, none⟩) 4 cap] w fun e w' => e = .returned (.bool true) ∧ Below w.heap.size w w' := by
  let p : Plc := ⟨b, off, cap⟩
  have hr : ∀ j, j < 4 → VR (envS z p) (rv (40 + j)) (vi (z (40 + j))) := fun j hj => vr_to rfl rfl (vr_iv z (hl j hj).1 (hl j hj).2)
  have := c (ov z) (ov_one z) hG (envS z p) [p] #[cavV z, stV z, opV z, .slice (some ⟨b, off, none⟩) 4 cap] w 0 rfl ⟨rfl, fun i => rfl, fun i => rfl, fun cc q hcc hq => ?_⟩ ?_
  · refine (this.calls (room_there P)).mono fun e w' ⟨h1, h2⟩ => ⟨?_, h2⟩
    obtain ⟨v', rfl, e2, _, h3⟩ := h1
    simp only [VR] at h3
    rw [h3]
  · have e1 : [rv 40, rv 41, rv 42, rv 43] = cc := Option.some.inj hcc
    have e2 : p = q := (List.cons.inj hq).1
    subst e1; subst e2
    refine ⟨hb, fun j a ha => ?_⟩
    match j, ha with
    | 0, ha => cases ha; exact ⟨_, hcells 0 (by omega), hr 0 (by omega)⟩
    | 1, ha => cases ha; exact ⟨_, hcells 1 (by omega), hr 1 (by omega)⟩
    | 2, ha => cases ha; exact ⟨_, hcells 2 (by omega), hr 2 (by omega)⟩
    | 3, ha => cases ha; exact ⟨_, hcells 3 (by omega), hr 3 (by omega)⟩
    | j + 4, ha => simp at ha
  · refine vrs_cons (vr_to rfl rfl (vr_cav hc)) (vrs_cons (vr_to rfl rfl (vr_st hs)) (vrs_cons (vr_to hop hof hv) (vrs_cons ?_ vrs_nil)))
    simp only [VR]
    exact ⟨b, off, cap, rfl, rfl, hcap, fun h => (by cases h), fun _ _ => (by show cap * 1 ≤ cap; omega)⟩
theorem more_in {z : Nat → Int} (l : Nat → Int) (hc : cavP z) (hs : stP z) (ho : opP z) (b off cap : Nat) (w : World) (hb : b < w.heap.size) (hcap : 4 ≤ cap) (hcells : ∀ j, j < 4 → w.cell? ⟨b, off + j, none⟩ = some (vi (l j))) (hl : ∀ j, j < 4 → -9223372036854775808 ≤ l j ∧ l j ≤ 9223372036854775807) :
    Calls P 14 #[cavV z, stV z, opV z, .slice (some ⟨b, off, none⟩) 4 cap] w fun e w' => e = .returned (.bool true) ∧ Below w.heap.size w w' := by
  have ex : ∀ j, j < 4 → zM z l (40 + j) = l j := fun j hj => by unfold zM; rw [if_neg (by omega), if_pos (by omega)]; congr 1; omega
  have hcells' : ∀ j, j < 4 → w.cell? ⟨b, off + j, none⟩ = some (vi (zM z l (40 + j))) := fun j hj => by rw [ex j hj]; exact hcells j hj
  have hl' : ∀ j, j < 4 → -9223372036854775808 ≤ zM z l (40 + j) ∧ zM z l (40 + j) ≤ 9223372036854775807 := fun j hj => by rw [ex j hj]; exact hl j hj
  have nm := names_M l hc hs ho
  have cs : LtsP (ov (zM z l)) (cavL ++ stL) := lts_cs (z := zM z l) hc hs
  have y := yM_in l hc hs ho
  have run : ∀ {G : Ctx} {o : AV plain}, Con P (Fence.there P) G.holds (kMore o) → pureA o = true → o.free = true → VR (envZ (zM z l)) o (opV (zM z l)) → G.holds (ov (zM z l)) → Calls P 14 #[cavV z, stV z, opV z, .slice (some ⟨b, off, none⟩) 4 cap] w fun e w' => e = .returned (.bool true) ∧ Below w.heap.size w w' :=
    fun c h1 h2 h3 hG => more_run (z := zM z l) c hG hc hs h1 h2 h3 b off cap w hb hcap hcells' hl'
  have val : ∀ {o : AV plain}, pureA o = true → VR (envZ (zM z l)) o (opV (zM z l)) → valOf (ov (zM z l)) o = opV (zo (ov (zM z l))) := fun h1 h2 => (val_of _ _ h1 h2).symm
  have hm := hm_of l hc hs ho
  by_cases c1 : can z
  · have c2 := (more_all hc hs y.2 y.1 ho c1).1
    have hm := hm true true ⟨fun _ => c1, fun _ => rfl⟩ ⟨fun _ => c2, fun _ => rfl⟩
    have inn := inn_of l hc hs ho c1
    rcases ho with k | k | k
    · have hv : VR (envZ (zM z l)) inA (opV (zM z l)) := vr_inj (z := zM z l) (m := 1000000) k (by simp only [op1] at k; show z 19 ≤ _; omega) (by simp only [op1] at k; show z 20 ≤ _; omega)
      exact run cM_IA rfl rfl hv (holds_of (G := gM_IA) nm (lts_ap cs inn) trivial ⟨hm, val rfl hv⟩)
    · have hv : VR (envZ (zM z l)) wiA (opV (zM z l)) := vr_wit (z := zM z l) (m := 2000000) k (by simp only [op2] at k; show z 23 ≤ _; omega)
      exact run cM_WA rfl rfl hv (holds_of (G := gM_WA) nm (lts_ap cs inn) trivial ⟨hm, val rfl hv⟩)
    · have hv : VR (envZ (zM z l)) reA (opV (zM z l)) := vr_rst (z := zM z l) k
      have tr : LtsP (ov (zM z l)) trL := by simp only [op3] at k; exact ⟨k.2.2.2.2.2.2.1.2.1, k.2.2.2.2.2.2.2.2.1, trivial⟩
      exact run cM_RA rfl rfl hv (holds_of (G := gM_RA) nm (lts_ap cs (lts_ap tr inn)) trivial ⟨hm, val rfl hv⟩)
  · by_cases c2 : can (yM z l)
    · have hm := hm false true ⟨fun h => (by cases h), fun h => absurd h c1⟩ ⟨fun _ => c2, fun _ => rfl⟩
      rcases ho with k | k | k
      · have hv : VR (envZ (zM z l)) inA (opV (zM z l)) := vr_inj (z := zM z l) (m := 1000000) k (by simp only [op1] at k; show z 19 ≤ _; omega) (by simp only [op1] at k; show z 20 ≤ _; omega)
        exact run cM_IB rfl rfl hv (holds_of (G := gM_IB) nm (lts_ap cs trivial) trivial ⟨hm, val rfl hv⟩)
      · have hv : VR (envZ (zM z l)) wiA (opV (zM z l)) := vr_wit (z := zM z l) (m := 2000000) k (by simp only [op2] at k; show z 23 ≤ _; omega)
        exact run cM_WB rfl rfl hv (holds_of (G := gM_WB) nm (lts_ap cs trivial) trivial ⟨hm, val rfl hv⟩)
      · have hv : VR (envZ (zM z l)) reA (opV (zM z l)) := vr_rst (z := zM z l) k
        have tr : LtsP (ov (zM z l)) trL := by simp only [op3] at k; exact ⟨k.2.2.2.2.2.2.1.2.1, k.2.2.2.2.2.2.2.2.1, trivial⟩
        exact run cM_RB rfl rfl hv (holds_of (G := gM_RB) nm (lts_ap cs tr) trivial ⟨hm, val rfl hv⟩)
    · have hm := hm false false ⟨fun h => (by cases h), fun h => absurd h c1⟩ ⟨fun h => (by cases h), fun h => absurd h c2⟩
      rcases ho with k | k | k
      · have hv : VR (envZ (zM z l)) inA (opV (zM z l)) := vr_inj (z := zM z l) (m := 1000000) k (by simp only [op1] at k; show z 19 ≤ _; omega) (by simp only [op1] at k; show z 20 ≤ _; omega)
        exact run cM_IC rfl rfl hv (holds_of (G := gM_IC) nm (lts_ap cs trivial) trivial ⟨hm, val rfl hv⟩)
      · have hv : VR (envZ (zM z l)) wiA (opV (zM z l)) := vr_wit (z := zM z l) (m := 2000000) k (by simp only [op2] at k; show z 23 ≤ _; omega)
        exact run cM_WC rfl rfl hv (holds_of (G := gM_WC) nm (lts_ap cs trivial) trivial ⟨hm, val rfl hv⟩)
      · have hv : VR (envZ (zM z l)) reA (opV (zM z l)) := vr_rst (z := zM z l) k
        have tr : LtsP (ov (zM z l)) trL := by simp only [op3] at k; exact ⟨k.2.2.2.2.2.2.1.2.1, k.2.2.2.2.2.2.2.2.1, trivial⟩
        exact run cM_RC rfl rfl hv (holds_of (G := gM_RC) nm (lts_ap cs tr) trivial ⟨hm, val rfl hv⟩)
/-- What is less, at a call: a list that reads. -/
def ListI (w : World) (v : Value) (n : Nat) (l : Nat → Int) : Prop :=
  ∃ (a : Option Addr) (cap : Nat), v = .slice a n cap ∧ (n = 4 → ∃ b off, a = some ⟨b, off, none⟩ ∧ b < w.heap.size ∧ 4 ≤ cap ∧ (∀ j, j < 4 → w.cell? ⟨b, off + j, none⟩ = some (vi (l j))) ∧ ∀ j, j < 4 → -9223372036854775808 ≤ l j ∧ l j ≤ 9223372036854775807)
theorem more {z : Nat → Int} (hz : ints z) {v : Value} {n : Nat} {l : Nat → Int} {w : World} (h : ListI w v n l) : Calls P 14 #[cavV z, stV z, opV z, v] w fun e w' => e = .returned (.bool true) ∧ Below w.heap.size w w' := by
  by_cases hc : cavP z
  · by_cases hs : stP z
    · by_cases ho : opP z
      · obtain ⟨a, cap, rfl, h4⟩ := h
        by_cases hn : n = 4
        · subst hn
          obtain ⟨b, off, rfl, h1, h2, h3, h5⟩ := h4 rfl
          exact more_in l hc hs ho b off cap w h1 h2 h3 h5
        · exact out4 a n cap (by omega) ((says19 hz).1 hc) ((says20 hz).1 hs) ((says30 hz).1 ho) w
      · exact out3 v ((says19 hz).1 hc) ((says20 hz).1 hs) ((says30 hz).2 ho) w
    · exact out2 v ((says19 hz).1 hc) ((says20 hz).2 hs) w
  · exact out1 v ((says19 hz).2 hc) w
end Go.Ev.Gas
end

