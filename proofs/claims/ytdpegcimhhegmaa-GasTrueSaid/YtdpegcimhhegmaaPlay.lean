import Derived.Test.YtdpegcimhhegmaaMoreA
import Derived.Test.YtdpegcimhhegmaaLoop
import Derived.Test.YtdpegcimhhegmaaStA
set_option linter.unusedVariables false
set_option linter.unusedSimpArgs false
set_option linter.unusedSectionVars false
noncomputable section
set_option maxRecDepth 100000
namespace Go.Ev.Gas
open Go.RowKit Go.Ev.Num
/-! ### Words for contents -/
noncomputable def qA : AV plain := .agg [iv 44 0 1000000, iv 45 0 1000000, iv 46 2000 5000, iv 47 0 1000000000]
def qV (z : Nat → Int) : Value := .agg [vi (z 44), vi (z 45), vi (z 46), vi (z 47)].toArray
def hasQ (z : Nat → Int) : Prop := (z 11 ≤ z 44 ∧ z 44 ≤ z 12) ∧ (z 13 ≤ z 45 ∧ z 45 ≤ z 14) ∧ (z 15 ≤ z 46 ∧ z 46 ≤ z 16) ∧ (z 17 ≤ z 47 ∧ z 47 ≤ z 18)
noncomputable def hasQL : List (SX × SX × Bool) := [((.v 44), (.v 11), false), ((.v 12), (.v 44), false), ((.v 45), (.v 13), false), ((.v 14), (.v 45), false), ((.v 46), (.v 15), false), ((.v 16), (.v 46), false), ((.v 47), (.v 17), false), ((.v 18), (.v 47), false)]
theorem lts_app {o : Nat → Value} : ∀ {a b : List (SX × SX × Bool)}, LtsP o a → LtsP o b → LtsP o (a ++ b)
  | [], _, _, h => h
  | (x, y, true) :: r, b, h, k => ⟨h.1, lts_app h.2 k⟩
  | (x, y, false) :: r, b, h, k => ⟨h.1, lts_app h.2 k⟩
noncomputable def thQ : SX := .bin 0 (.bin 2 (.v 44) (.v 6)) (.bin 2 (.v 45) (.v 7))
noncomputable def coQ : SX := .bin 0 (.bin 2 (.v 19) (.v 6)) (.bin 2 (.v 20) (.v 7))
noncomputable def nmQ : List (SX × Nat × Int × Int) := [(.bin 0 thQ coQ, 50, 1, 400000000), (.bin 5 (.bin 0 (.bin 2 thQ (.v 46)) (.bin 2 coQ (.v 21))) (.v 50), 60, 2000, 5000)]
noncomputable def okQ : List (SX × SX × Bool) := [(.c 1000000, .bin 0 (.v 44) (.v 19), false), (.c 1000000, .bin 0 (.v 45) (.v 20), false), (.c 1000000000, .bin 0 (.v 47) (.v 22), false)]
noncomputable def nmW : List (SX × Nat × Int × Int) := [(.bin 0 (.v 44) (.v 45), 50, 1, 2000000), (.bin 5 (.bin 2 (.v 23) (.v 45)) (.v 50), 60, 0, 1000000), (.bin 5 (.bin 2 (.v 23) (.v 47)) (.v 50), 61, 0, 1000000000)]
def yp (y : Nat → Int) (i : Nat) : Int :=
  match i with
  | 11 => y 44 | 12 => y 44 | 13 => y 45 | 14 => y 45 | 15 => y 46 | 16 => y 46 | 17 => y 47 | 18 => y 47
  | _ => y i
end Go.Ev.Gas
end

noncomputable section
set_option maxRecDepth 1000000
set_option maxHeartbeats 0
namespace Go.Ev.Gas
open Go.RowKit Go.Ev.Num
/-! ### Play of one operation, which can be done -/
noncomputable def opIn : List (AV plain) := [one 1, iv 19 0 1000000, iv 20 0 1000000, iv 21 2000 5000, iv 22 0 1000000000, Z, Z, Z, Z, Z]
noncomputable def opWi : List (AV plain) := [one 2, Z, Z, Z, Z, iv 23 0 2000000, Z, Z, Z, Z]
noncomputable def opRe : List (AV plain) := [one 3, Z, Z, Z, Z, Z, iv 24 0 1000, iv 25 0 1000, iv 26 0 1000000, iv 27 0 1000000]
noncomputable def gPi : Ctx := ⟨nmQ, cavL ++ okQ, [], fun _ => True⟩
noncomputable def gPz : Ctx := ⟨[], cavL ++ (okQ ++ [(.c 0, .bin 0 thQ coQ, false)]), [], fun _ => True⟩
noncomputable def gPw : Ctx := ⟨nmW, cavL ++ [(.v 50, .v 23, false)], [], fun _ => True⟩
noncomputable def gPw0 : Ctx := ⟨[], cavL ++ [(.bin 0 (.v 44) (.v 45), .v 23, false)], [(.bin 0 (.v 44) (.v 45), .c 0, true)], fun _ => True⟩
noncomputable def nrX : SX := .bin 0 (.v 46) (.bin 5 (.bin 2 (.bin 1 (.v 8) (.v 46)) (.v 37)) (.c 1000))
noncomputable def gPr : Ctx := ⟨[(nrX, 62, 2000, 5000)], cavL ++ [(.v 25, .v 24, false), (.v 27, .v 26, false), (.v 37, .v 24, false), (.v 25, .v 37, false), (.v 38, .v 26, false), (.v 27, .v 38, false), (.c 1000000000, .bin 0 (.v 47) (.v 38), false)], [], fun _ => True⟩
noncomputable def kP (op : List (AV plain)) (sh wt res : AV plain) : KW := ⟨33, [cavA, qA], [(10, 1, op), (1, 1, [sh]), (1, 1, [wt])], res⟩
noncomputable def oP (G : Ctx) : Oracle G := ora G [] sDo
theorem oP_ok (G : Ctx) : (oP G).ok P (Fence.there P) := ora_ok (H := fun _ => True) (fun _ _ => trivial) no_k sDo_ok
end Go.Ev.Gas
end

noncomputable section
set_option maxRecDepth 100000
namespace Go.Ev.Gas
open Go.RowKit Go.Ev.Num
/-! ### Play of one operation: the runs -/
noncomputable def u0P : AV plain := .agg [.int .i64 0, .int .i64 0, .int .i64 0, .int .i64 0]
noncomputable def kPi : KW := kP opIn Z Z (.tuple [.agg [.sx (.bin 0 (.v 44) (.v 19)) 0 2000000, .sx (.bin 0 (.v 45) (.v 20)) 0 2000000, .sx (.v 60) 2000 5000, .sx (.bin 0 (.v 47) (.v 22)) 0 2000000000], u0P, .int .i64 0])
noncomputable def kPz : KW := kP opIn Z Z (.tuple [.agg [.sx (.bin 0 (.v 44) (.v 19)) 0 2000000, .sx (.bin 0 (.v 45) (.v 20)) 0 2000000, .sx (.v 46) 2000 5000, .sx (.bin 0 (.v 47) (.v 22)) 0 2000000000], u0P, .int .i64 0])
noncomputable def kPw : KW := kP opWi Z Z (.tuple [.agg [.sx (.bin 1 (.v 44) (.bin 1 (.v 23) (.v 60))) (-2000000) 2000000, .sx (.bin 1 (.v 45) (.v 60)) (-1000000) 1000000, .sx (.v 46) 2000 5000, .sx (.bin 1 (.v 47) (.v 61)) (-1000000000) 1000000000], .agg [.sx (.bin 1 (.v 23) (.v 60)) (-1000000) 2000000, .sx (.v 60) 0 1000000, .int .i64 0, .sx (.v 61) 0 1000000000], .int .i64 0])
noncomputable def kPw0 : KW := kP opWi Z Z (.tuple [.agg [.sx (.v 44) 0 1000000, .sx (.v 45) 0 1000000, .sx (.v 46) 2000 5000, .sx (.v 47) 0 1000000000], u0P, .int .i64 0])
noncomputable def kPr : KW := kP opRe (iv 37 0 1000) (iv 38 0 1000000) (.tuple [.agg [.sx (.v 44) 0 1000000, .sx (.v 45) 0 1000000, .sx (.v 62) 2000 5000, .sx (.bin 0 (.v 47) (.v 38)) 0 1001000000], u0P, .int .i64 0])
theorem cPi : ConW P (Fence.there P) gPi.holds kPi := conW_of_run fbT (by decide +kernel) (oP_ok gPi) (by decide +kernel)
theorem cPz : ConW P (Fence.there P) gPz.holds kPz := conW_of_run fbT (by decide +kernel) (oP_ok gPz) (by decide +kernel)
theorem cPw : ConW P (Fence.there P) gPw.holds kPw := conW_of_run fbT (by decide +kernel) (oP_ok gPw) (by decide +kernel)
theorem cPw0 : ConW P (Fence.there P) gPw0.holds kPw0 := conW_of_run fbT (by decide +kernel) (oP_ok gPw0) (by decide +kernel)
theorem cPr : ConW P (Fence.there P) gPr.holds kPr := conW_of_run fbT (by decide +kernel) (oP_ok gPr) (by decide +kernel)
/-! ### At numbers -/
def CellsAt (w : World) (v : Value) (len : Nat) (vals : List Value) : Prop := ∃ b off cap, v = .slice (some ⟨b, off, none⟩) len cap ∧ len ≤ cap ∧ b < w.heap.size ∧ ∀ (j : Nat) (x : Value), vals[j]? = some x → w.cell? ⟨b, off + j, none⟩ = some x
def opL (y : Nat → Int) : List Value := [vi (y 28), vi (y 19), vi (y 20), vi (y 21), vi (y 22), vi (y 23), vi (y 24), vi (y 25), vi (y 26), vi (y 27)]
def pV (q : Nat → Int) : Value := .agg [vi (q 0), vi (q 1), vi (q 2), vi (q 3)].toArray
/-- What Play gives. -/
def PlayG (y q u : Nat → Int) : Prop := ∀ (w : World) (n : Nat) (v1 v2 v3 : Value), CellsAt w v1 1 (opL y) → CellsAt w v2 1 [vi (y 37)] → CellsAt w v3 1 [vi (y 38)] →
  CallsIn (Fence.there P) n P 33 #[cavV y, qV y, v1, v2, v3] w fun e w' => e = .returned (.tuple [pV q, pV u, vi 0].toArray) ∧ Below w.heap.size w w'
theorem vrs_get {e : Env plain} : ∀ {a : List (AV plain)} {v : List Value}, VRs e a v → ∀ (j : Nat) (c : AV plain), a[j]? = some c → ∃ x, v[j]? = some x ∧ VR e c x
  | [], v, _, j, c, h => by simp at h
  | a :: r, v, h, j, c, hc => by
    simp only [VRs] at h
    obtain ⟨x, xs, rfl, h1, h2⟩ := h
    match j, hc with
    | 0, hc => simp at hc; subst hc; exact ⟨x, rfl, h1⟩
    | j + 1, hc => simpa using vrs_get h2 j c (by simpa using hc)
theorem row_of {z : Nat → Int} {w : World} {v : Value} {len sz : Nat} {cs : List (AV plain)} {vals : List Value} (h : CellsAt w v len vals) (hv : VRs (envZ z) cs vals) : RowAt (ov z) w v (sz, len, cs) := by
  obtain ⟨b, off, cap, h1, h2, h3, h4⟩ := h
  refine ⟨b, off, cap, h1, h2, h3, fun j a ha => ?_⟩
  obtain ⟨x, hx, hr⟩ := vrs_get hv j a ha
  exact ⟨x, h4 j x hx, envZ z, rfl, hr⟩
theorem play_of {G : Ctx} {op : List (AV plain)} {sh wt res : AV plain} (c : ConW P (Fence.there P) G.holds (kP op sh wt res)) (hp : pureA res = true) {z y q u : Nat → Int} (hG : G.holds (ov z)) (hc : VR (envZ z) cavA (cavV y)) (hq : VR (envZ z) qA (qV y)) (ho : VR (envZ z) (.agg op) (opV y)) (hs : VR (envZ z) sh (vi (y 37))) (hw : VR (envZ z) wt (vi (y 38))) (hr : valOf (ov z) res = .tuple [pV q, pV u, vi 0].toArray) : PlayG y q u := by
  intro w n v1 v2 v3 h1 h2 h3
  have hov : VRs (envZ z) op (opL y) := by
    simp only [VR] at ho
    obtain ⟨xs, h1, h2⟩ := ho
    have : xs.toList = opL y := by
      have h1' : (opV y) = .agg (opL y).toArray := rfl
      rw [h1'] at h1
      injection h1 with h1
      rw [← h1]
    rwa [this] at h2
  have := c (ov z) (ov_one z) hG [cavV y, qV y] [v1, v2, v3] w n ⟨envZ z, rfl, vrs_cons hc (vrs_cons hq vrs_nil)⟩ ⟨row_of h1 hov, row_of h2 (vrs_cons hs vrs_nil), row_of h3 (vrs_cons hw vrs_nil), trivial⟩
  refine this.mono fun e w' ⟨⟨v', h4, e2, h5, h6⟩, h7⟩ => ⟨?_, h7⟩
  rw [h4]
  have h8 := val_of res v' hp h6
  rw [h5] at h8
  rw [h8, hr]
/-! ### The content behind -/
def trueP (y : Nat → Int) : Prop := (y 24 ≤ y 37 ∧ y 37 ≤ y 25) ∧ (y 26 ≤ y 38 ∧ y 38 ≤ y 27)
def qw1 (y : Nat → Int) : Int := (y 23 * y 45).tdiv (y 44 + y 45)
def qw2 (y : Nat → Int) : Int := (y 23 * y 47).tdiv (y 44 + y 45)
def nrP (y : Nat → Int) : Int := y 46 + ((y 8 - y 46) * y 37).tdiv 1000
def plq (y : Nat → Int) (i : Nat) : Int :=
  if y 28 = 1 then (match i with | 0 => y 44 + y 19 | 1 => y 45 + y 20 | 2 => warmT (yp y) (y 44 * y 6 + y 45 * y 7) (y 46) | _ => y 47 + y 22)
  else if y 28 = 2 then (match i with | 0 => y 44 - (y 23 - qw1 y) | 1 => y 45 - qw1 y | 2 => y 46 | _ => y 47 - qw2 y)
  else (match i with | 0 => y 44 | 1 => y 45 | 2 => nrP y | _ => y 47 + y 38)
def plu (y : Nat → Int) (i : Nat) : Int :=
  if y 28 = 2 then (match i with | 0 => y 23 - qw1 y | 1 => qw1 y | 3 => qw2 y | _ => 0) else 0
/-- Names that an evaluation gives to what it makes. -/
def y4 (y : Nat → Int) (a b c d : Int) (i : Nat) : Int :=
  match i with
  | 50 => a | 60 => b | 61 => c | 62 => d
  | _ => y i
theorem near_mid {r t a s b : Int} (h1 : a ≤ s) (h2 : s ≤ b) : sxOp 3 (Num.near r t a) (Num.near r t b) ≤ Num.near r t s ∧ Num.near r t s ≤ sxOp 4 (Num.near r t a) (Num.near r t b) := by
  have mono : ∀ x y : Int, x ≤ y → x.tdiv 1000 ≤ y.tdiv 1000 := fun x y h => Int.tdiv_le_tdiv (by omega) h
  show (if _ < _ then _ else _) ≤ _ ∧ _ ≤ (if _ > _ then _ else _)
  unfold Num.near
  by_cases hr : t ≤ r
  · have m1 := mono _ _ (Int.mul_le_mul_of_nonneg_left h1 (show 0 ≤ r - t by omega))
    have m2 := mono _ _ (Int.mul_le_mul_of_nonneg_left h2 (show 0 ≤ r - t by omega))
    constructor <;> split <;> omega
  · have m1 := mono _ _ (Int.mul_le_mul_of_nonpos_left (show r - t ≤ 0 by omega) h1)
    have m2 := mono _ _ (Int.mul_le_mul_of_nonpos_left (show r - t ≤ 0 by omega) h2)
    constructor <;> split <;> omega
end Go.Ev.Gas
end

noncomputable section
set_option maxRecDepth 100000
namespace Go.Ev.Gas
open Go.RowKit Go.Ev.Num
/-- The content behind lies in the state behind, and what goes out lies within what is told. -/
def InN (y : Nat → Int) : Prop := (aft y 0 ≤ plq y 0 ∧ plq y 0 ≤ aft y 1) ∧ (aft y 2 ≤ plq y 1 ∧ plq y 1 ≤ aft y 3) ∧ (aft y 4 ≤ plq y 2 ∧ plq y 2 ≤ aft y 5) ∧ (aft y 6 ≤ plq y 3 ∧ plq y 3 ≤ aft y 7)
def OutN (y : Nat → Int) : Prop := (gon y 0 ≤ plu y 0 ∧ plu y 0 ≤ gon y 1) ∧ (gon y 2 ≤ plu y 1 ∧ plu y 1 ≤ gon y 3) ∧ (gon y 4 ≤ plu y 3 ∧ plu y 3 ≤ gon y 5) ∧ plu y 2 = 0
theorem pt_up {M h g H G : Int} (hM : 0 ≤ M) (h0 : 0 ≤ h) (hH : h ≤ H) (hG : 0 ≤ G) (hg : G ≤ g) : (M * h).tdiv (g + h) ≤ (M * H).tdiv (G + H) := by
  rw [Int.tdiv_eq_ediv_of_nonneg (Int.mul_nonneg hM h0), Int.tdiv_eq_ediv_of_nonneg (Int.mul_nonneg hM (by omega))]
  by_cases z : h = 0
  · subst z
    rw [Int.mul_zero, Int.zero_ediv]
    exact Int.ediv_nonneg (Int.mul_nonneg hM hH) (by omega)
  · have a := part_A (M := M) (h := h) (A := G + h) (A' := g + h) hM h0 (by omega) (by omega)
    have b := part_up (M := M) (h := h) (A := G + h) (d := H - h) hM h0 (by omega) (by omega) (by omega)
    rw [show h + (H - h) = H by omega, show G + h + (H - h) = G + H by omega] at b
    exact Int.le_trans a b
theorem pt_h {M w A W B : Int} (hM : 0 ≤ M) (h0 : 0 ≤ w) (hW : w ≤ W) (hB : 0 < B) (hA : B ≤ A) : (M * w).tdiv A ≤ (M * W).tdiv B := by
  rw [Int.tdiv_eq_ediv_of_nonneg (Int.mul_nonneg hM h0), Int.tdiv_eq_ediv_of_nonneg (Int.mul_nonneg hM (by omega))]
  exact Int.le_trans (part_A (M := M) (h := w) hM h0 hB hA) (part_h (M := M) hM hB hW)
theorem play1 {y : Nat → Int} (hc : cavP y) (hs : stP y) (hq : hasQ y) (ho : op1 y) (ht : trueP y) (hcan : can y) : PlayG y (plq y) (plu y) ∧ InN y ∧ OutN y := by
  have hv : True := trivial
  have hin : In y (yp y) ∧ stP (yp y) := by
    have h1 := hq; have h2 := hs
    simp only [hasQ, stP] at h1 h2
    refine ⟨⟨fun i hi => ?_, fun i hi => ?_, h1.1, h1.2.1, h1.2.2.1, h1.2.2.2⟩, ⟨(show 0 ≤ y 44 by omega), Int.le_refl _, (show y 44 ≤ 1000000 by omega)⟩, ⟨(show 0 ≤ y 45 by omega), Int.le_refl _, (show y 45 ≤ 1000000 by omega)⟩, ⟨(show 2000 ≤ y 46 by omega), Int.le_refl _, (show y 46 ≤ 5000 by omega)⟩, ⟨(show 0 ≤ y 47 by omega), Int.le_refl _, (show y 47 ≤ 1000000000 by omega)⟩⟩
    · unfold yp; split <;> first | omega | rfl
    · unfold yp; split <;> first | omega | rfl
  obtain ⟨hin, hsp⟩ := hin
  have k1 : y 28 = 1 := ho.1
  have e1 : aft (yp y) = aft1 (yp y) := by unfold aft; exact if_pos k1
  have hs2 := (aft_in hc hs (.inl ho) hcan).1
  obtain ⟨hcp, i1, i2, i3, i4⟩ := more_all hc hs hsp hin (.inl ho) hcan
  rw [e1] at i1 i2 i3 i4
  have hcan' : y 12 + y 19 ≤ 1000000 ∧ y 14 + y 20 ≤ 1000000 ∧ y 18 + y 22 ≤ 1000000000 := by simp only [can] at hcan; omega
  have hq' := hq; have hs' := hs; have ho' := ho; have ht' := ht
  simp only [hasQ, stP, op1, trueP] at hq' hs' ho' ht'
  let Sx : Int := y 44 * y 6 + y 45 * y 7
  have heat : aft1 (yp y) 4 = warmT (yp y) Sx (y 46) ∧ aft1 (yp y) 5 = warmT (yp y) Sx (y 46) := ⟨sx3_l (Int.le_refl _), sx4_l (Int.le_refl _)⟩
  rw [heat.1, heat.2] at i3
  have p0 : plq y 0 = y 44 + y 19 := by unfold plq; rw [if_pos k1]; rfl
  have p1 : plq y 1 = y 45 + y 20 := by unfold plq; rw [if_pos k1]; rfl
  have p2 : plq y 2 = warmT (yp y) Sx (y 46) := by unfold plq; rw [if_pos k1]; rfl
  have p3 : plq y 3 = y 47 + y 22 := by unfold plq; rw [if_pos k1]; rfl
  have u0 : ∀ i, plu y i = 0 := fun i => by unfold plu; rw [if_neg (by omega)]
  have g0 : ∀ i, gon y i = 0 := fun i => by unfold gon; rw [if_neg (by omega)]; rfl
  refine ⟨?_, ⟨by rw [p0]; exact i1, by rw [p1]; exact i2, by rw [p2]; exact i3, by rw [p3]; exact i4⟩, ?_⟩
  · have okq : ∀ a b c d : Int, LtsP (ov (y4 y a b c d)) okQ := fun a b c d => ⟨(show y 44 + y 19 ≤ 1000000 by omega), (show y 45 + y 20 ≤ 1000000 by omega), (show y 47 + y 22 ≤ 1000000000 by omega), trivial⟩
    have base : ∀ a b c d : Int, LtsP (ov (y4 y a b c d)) cavL := fun a b c d => lts_cav (z := y4 y a b c d) hc
    have hcC : 0 ≤ cm y ∧ cm y ≤ 200000000 := (sm_in hc hs ho).2.2.2.2.1
    have hcS : 0 ≤ Sx ∧ Sx ≤ 200000000 := (sm_in (z := yp y) hc hsp ho).1
    have ecm : cm (yp y) = cm y := rfl
    have vq : ∀ a b c d : Int, VR (envZ (y4 y a b c d)) qA (qV y) := fun a b c d => vr_agg (vrs_cons (vr_iv (y4 y a b c d) (show 0 ≤ y 44 by omega) (show y 44 ≤ 1000000 by omega)) (vrs_cons (vr_iv (y4 y a b c d) (show 0 ≤ y 45 by omega) (show y 45 ≤ 1000000 by omega)) (vrs_cons (vr_iv (y4 y a b c d) (show 2000 ≤ y 46 by omega) (show y 46 ≤ 5000 by omega)) (vrs_cons (vr_iv (y4 y a b c d) (show 0 ≤ y 47 by omega) (show y 47 ≤ 1000000000 by omega)) vrs_nil))))
    have vo : ∀ a b c d : Int, VR (envZ (y4 y a b c d)) (.agg opIn) (opV y) := fun a b c d => vr_inj (z := y4 y a b c d) (m := 1000000) ho (show y 19 ≤ 1000000 by omega) (show y 20 ≤ 1000000 by omega)
    have vs : ∀ a b c d : Int, VR (envZ (y4 y a b c d)) Z (vi (y 37)) := fun a b c d => vr_Z (y4 y a b c d) (show y 37 = 0 by omega)
    have vw : ∀ a b c d : Int, VR (envZ (y4 y a b c d)) Z (vi (y 38)) := fun a b c d => vr_Z (y4 y a b c d) (show y 38 = 0 by omega)
    have hpq : pV (plq y) = .agg [vi (y 44 + y 19), vi (y 45 + y 20), vi (warmT (yp y) Sx (y 46)), vi (y 47 + y 22)].toArray := by simp only [pV, p0, p1, p2, p3]
    have hpu : pV (plu y) = .agg [vi 0, vi 0, vi 0, vi 0].toArray := by simp only [pV, u0]
    by_cases hz : Sx + cm y = 0
    · have ew : warmT (yp y) Sx (y 46) = y 46 := by unfold warmT; rw [if_pos (by rw [ecm]; exact hz)]
      refine play_of cPz rfl (z := y4 y 0 0 0 0) (holds_of (G := gPz) trivial (lts_app (base 0 0 0 0) (lts_app (okq 0 0 0 0) ⟨(show Sx + cm y ≤ 0 by omega), trivial⟩)) trivial trivial) (vr_cav (z := y4 y 0 0 0 0) hc) (vq 0 0 0 0) (vo 0 0 0 0) (vs 0 0 0 0) (vw 0 0 0 0) ?_
      rw [hpq, hpu, ew]; rfl
    · have ew : warmT (yp y) Sx (y 46) = (Sx * y 46 + cm y * y 21).tdiv (Sx + cm y) := by unfold warmT; rw [if_neg (by rw [ecm]; exact hz)]; rfl
      have hb : 2000 ≤ warmT (yp y) Sx (y 46) ∧ warmT (yp y) Sx (y 46) ≤ 5000 := by
        have a1 : (2000 : Int) ≤ aft y 4 := hs2.2.2.1.1
        have a2 : aft y 5 ≤ (5000 : Int) := hs2.2.2.1.2.2
        omega
      refine play_of cPi rfl (z := y4 y (Sx + cm y) (warmT (yp y) Sx (y 46)) 0 0) (holds_of (G := gPi) ⟨⟨rfl, (show 1 ≤ Sx + cm y by omega), (show Sx + cm y ≤ 400000000 by omega)⟩, ⟨ew.symm, hb.1, hb.2⟩, trivial⟩ (lts_app (base _ _ _ _) (okq _ _ _ _)) trivial trivial) (vr_cav (z := y4 y _ _ _ _) hc) (vq _ _ _ _) (vo _ _ _ _) (vs _ _ _ _) (vw _ _ _ _) ?_
      rw [hpq, hpu]; rfl
  · refine ⟨?_, ?_, ?_, u0 2⟩ <;> rw [g0, u0, g0] <;> omega
theorem play2 {y : Nat → Int} (hc : cavP y) (hs : stP y) (hq : hasQ y) (ho : op2 y) (ht : trueP y) (hcan : can y) : PlayG y (plq y) (plu y) ∧ InN y ∧ OutN y := by
  have hin : In y (yp y) ∧ stP (yp y) := by
    have h1 := hq; have h2 := hs
    simp only [hasQ, stP] at h1 h2
    refine ⟨⟨fun i hi => ?_, fun i hi => ?_, h1.1, h1.2.1, h1.2.2.1, h1.2.2.2⟩, ⟨(show 0 ≤ y 44 by omega), Int.le_refl _, (show y 44 ≤ 1000000 by omega)⟩, ⟨(show 0 ≤ y 45 by omega), Int.le_refl _, (show y 45 ≤ 1000000 by omega)⟩, ⟨(show 2000 ≤ y 46 by omega), Int.le_refl _, (show y 46 ≤ 5000 by omega)⟩, ⟨(show 0 ≤ y 47 by omega), Int.le_refl _, (show y 47 ≤ 1000000000 by omega)⟩⟩
    · unfold yp; split <;> first | omega | rfl
    · unfold yp; split <;> first | omega | rfl
  obtain ⟨hin, hsp⟩ := hin
  have k2 : y 28 = 2 := ho.1
  have e1 : aft (yp y) = aft2 (yp y) := by
    unfold aft
    rw [if_neg (show ¬ yp y 28 = 1 by show ¬ y 28 = 1; omega)]; exact if_pos k2
  have hs2 := (aft_in hc hs (.inr (.inl ho)) hcan).1
  obtain ⟨hcp, i1, i2, i3, i4⟩ := more_all hc hs hsp hin (.inr (.inl ho)) hcan
  rw [e1] at i1 i2 i3 i4
  have hm : y 23 ≤ y 11 + y 13 := by simp only [can] at hcan; omega
  have hq' := hq; have hs' := hs; have ho' := ho; have ht' := ht
  simp only [hasQ, stP, op2, trueP] at hq' hs' ho' ht'
  have p0 : plq y 0 = y 44 - (y 23 - qw1 y) := by unfold plq; rw [if_neg (by omega), if_pos k2]; rfl
  have p1 : plq y 1 = y 45 - qw1 y := by unfold plq; rw [if_neg (by omega), if_pos k2]; rfl
  have p2 : plq y 2 = y 46 := by unfold plq; rw [if_neg (by omega), if_pos k2]; rfl
  have p3 : plq y 3 = y 47 - qw2 y := by unfold plq; rw [if_neg (by omega), if_pos k2]; rfl
  have u0 : plu y 0 = y 23 - qw1 y := by unfold plu; rw [if_pos k2]; rfl
  have u1 : plu y 1 = qw1 y := by unfold plu; rw [if_pos k2]; rfl
  have u2 : plu y 2 = 0 := by unfold plu; rw [if_pos k2]; rfl
  have u3 : plu y 3 = qw2 y := by unfold plu; rw [if_pos k2]; rfl
  have g2 : ∀ i, gon y i = gon2 y i := fun i => by unfold gon; rw [if_pos k2]
  have hpq : pV (plq y) = .agg [vi (y 44 - (y 23 - qw1 y)), vi (y 45 - qw1 y), vi (y 46), vi (y 47 - qw2 y)].toArray := by simp only [pV, p0, p1, p2, p3]
  have hpu : pV (plu y) = .agg [vi (y 23 - qw1 y), vi (qw1 y), vi 0, vi (qw2 y)].toArray := by simp only [pV, u0, u1, u2, u3]
  have n1 : 0 ≤ qw1 y := Int.tdiv_nonneg (Int.mul_nonneg (by omega) (by omega)) (by omega)
  have n2 : 0 ≤ qw2 y := Int.tdiv_nonneg (Int.mul_nonneg (by omega) (by omega)) (by omega)
  refine ⟨?_, ⟨by rw [p0]; exact i1, by rw [p1]; exact i2, by rw [p2]; exact i3, by rw [p3]; exact i4⟩, ?_⟩
  · have base : ∀ a b c d : Int, LtsP (ov (y4 y a b c d)) cavL := fun a b c d => lts_cav (z := y4 y a b c d) hc
    have vq : ∀ a b c d : Int, VR (envZ (y4 y a b c d)) qA (qV y) := fun a b c d => vr_agg (vrs_cons (vr_iv (y4 y a b c d) (show 0 ≤ y 44 by omega) (show y 44 ≤ 1000000 by omega)) (vrs_cons (vr_iv (y4 y a b c d) (show 0 ≤ y 45 by omega) (show y 45 ≤ 1000000 by omega)) (vrs_cons (vr_iv (y4 y a b c d) (show 2000 ≤ y 46 by omega) (show y 46 ≤ 5000 by omega)) (vrs_cons (vr_iv (y4 y a b c d) (show 0 ≤ y 47 by omega) (show y 47 ≤ 1000000000 by omega)) vrs_nil))))
    have vo : ∀ a b c d : Int, VR (envZ (y4 y a b c d)) (.agg opWi) (opV y) := fun a b c d => vr_wit (z := y4 y a b c d) (m := 2000000) ho (show y 23 ≤ 2000000 by omega)
    have vs : ∀ a b c d : Int, VR (envZ (y4 y a b c d)) Z (vi (y 37)) := fun a b c d => vr_Z (y4 y a b c d) (show y 37 = 0 by omega)
    have vw : ∀ a b c d : Int, VR (envZ (y4 y a b c d)) Z (vi (y 38)) := fun a b c d => vr_Z (y4 y a b c d) (show y 38 = 0 by omega)
    by_cases hz : y 44 + y 45 = 0
    · have h23 : y 23 = 0 := by omega
      have q1 : qw1 y = 0 := by unfold qw1; rw [h23, Int.zero_mul]; exact Int.zero_tdiv _
      have q2 : qw2 y = 0 := by unfold qw2; rw [h23, Int.zero_mul]; exact Int.zero_tdiv _
      refine play_of cPw0 rfl (z := y4 y 0 0 0 0) (holds_of (G := gPw0) trivial (lts_app (base 0 0 0 0) ⟨(show y 23 ≤ y 44 + y 45 by omega), trivial⟩) ⟨(show y 44 + y 45 = 0 from hz), trivial⟩ trivial) (vr_cav (z := y4 y 0 0 0 0) hc) (vq 0 0 0 0) (vo 0 0 0 0) (vs 0 0 0 0) (vw 0 0 0 0) ?_
      rw [hpq, hpu, q1, q2, h23]
      simp only [Int.sub_zero]
      rfl
    · have a2 : (0 : Int) ≤ aft y 2 := hs2.2.1.1
      have a6 : (0 : Int) ≤ aft y 6 := hs2.2.2.2.1
      have b2 : aft y 2 ≤ y 45 - qw1 y := i2.1
      have b6 : aft y 6 ≤ y 47 - qw2 y := i4.1
      refine play_of cPw rfl (z := y4 y (y 44 + y 45) (qw1 y) (qw2 y) 0) (holds_of (G := gPw) ⟨⟨rfl, (show 1 ≤ y 44 + y 45 by omega), (show y 44 + y 45 ≤ 2000000 by omega)⟩, ⟨rfl, n1, (show qw1 y ≤ 1000000 by omega)⟩, ⟨rfl, n2, (show qw2 y ≤ 1000000000 by omega)⟩, trivial⟩ (lts_app (base _ _ _ _) ⟨(show y 23 ≤ y 44 + y 45 by omega), trivial⟩) trivial trivial) (vr_cav (z := y4 y _ _ _ _) hc) (vq _ _ _ _) (vo _ _ _ _) (vs _ _ _ _) (vw _ _ _ _) ?_
      rw [hpq, hpu]; rfl
  · have m0 : 0 ≤ y 23 := by omega
    have a1 : qw1 y ≤ qt y (y 14) (am y 11 14) := pt_up m0 (by omega) (by omega) (by omega) (by omega)
    have a2 : qt y (y 13) (am y 12 13) ≤ qw1 y := pt_up m0 (by omega) (by omega) (by omega) (by omega)
    have a3 : qt y (y 17) (am y 12 14) ≤ qw2 y ∧ qw2 y ≤ qt y (y 18) (am y 11 13) := by
      by_cases hz : y 11 + y 13 = 0
      · have h23 : y 23 = 0 := by omega
        have q0 : ∀ h A : Int, qt y h A = 0 := fun h A => by unfold qt; rw [h23, Int.zero_mul]; exact Int.zero_tdiv _
        have q2 : qw2 y = 0 := by unfold qw2; rw [h23, Int.zero_mul]; exact Int.zero_tdiv _
        rw [q0, q0, q2]; omega
      · exact ⟨pt_h m0 (by omega) (by omega) (by omega) (show y 44 + y 45 ≤ y 12 + y 14 by omega), pt_h m0 (by omega) (by omega) (show 0 < y 11 + y 13 by omega) (show y 11 + y 13 ≤ y 44 + y 45 by omega)⟩
    refine ⟨?_, ?_, ?_, u2⟩
    · rw [g2, u0, g2]; simp only [gon2]; omega
    · rw [g2, u1, g2]; simp only [gon2]; omega
    · rw [g2, u3, g2]; simp only [gon2]; omega
theorem play3 {y : Nat → Int} (hc : cavP y) (hs : stP y) (hq : hasQ y) (ho : op3 y) (ht : trueP y) (hcan : can y) : PlayG y (plq y) (plu y) ∧ InN y ∧ OutN y := by
  have k3 : y 28 = 3 := ho.1
  have e1 : aft y = aft3 y := by unfold aft; rw [if_neg (by omega), if_neg (by omega)]
  have hw : y 18 + y 27 ≤ 1000000000 := by simp only [can] at hcan; omega
  have hc' := hc; have hq' := hq; have hs' := hs; have ho' := ho; have ht' := ht
  simp only [cavP, hasQ, stP, op3, trueP] at hc' hq' hs' ho' ht'
  have p0 : plq y 0 = y 44 := by unfold plq; rw [if_neg (by omega), if_neg (by omega)]; rfl
  have p1 : plq y 1 = y 45 := by unfold plq; rw [if_neg (by omega), if_neg (by omega)]; rfl
  have p2 : plq y 2 = nrP y := by unfold plq; rw [if_neg (by omega), if_neg (by omega)]; rfl
  have p3 : plq y 3 = y 47 + y 38 := by unfold plq; rw [if_neg (by omega), if_neg (by omega)]; rfl
  have u0 : ∀ i, plu y i = 0 := fun i => by unfold plu; rw [if_neg (by omega)]
  have g0 : ∀ i, gon y i = 0 := fun i => by unfold gon; rw [if_neg (by omega)]; rfl
  have hn : nrP y = Num.near (y 8) (y 46) (y 37) := rfl
  have hb := near_in (r := y 8) (t := y 46) (s := y 37) (m := 2000) (M := 5000) (by omega) (by omega) (by omega) (by omega) (by omega) (by omega)
  have t1 := near_T (r := y 8) (t := y 15) (t' := y 46) (s := y 37) (by omega) (by omega) (by omega)
  have t2 := near_T (r := y 8) (t := y 46) (t' := y 16) (s := y 37) (by omega) (by omega) (by omega)
  have m1 := (near_mid (r := y 8) (t := y 15) (a := y 24) (s := y 37) (b := y 25) (by omega) (by omega)).1
  have m2 := (near_mid (r := y 8) (t := y 16) (a := y 24) (s := y 37) (b := y 25) (by omega) (by omega)).2
  have hpq : pV (plq y) = .agg [vi (y 44), vi (y 45), vi (nrP y), vi (y 47 + y 38)].toArray := by simp only [pV, p0, p1, p2, p3]
  have hpu : pV (plu y) = .agg [vi 0, vi 0, vi 0, vi 0].toArray := by simp only [pV, u0]
  refine ⟨?_, ⟨?_, ?_, ?_, ?_⟩, ?_⟩
  · refine play_of cPr rfl (z := y4 y 0 0 0 (nrP y)) (holds_of (G := gPr) ⟨⟨rfl, (show 2000 ≤ nrP y by omega), (show nrP y ≤ 5000 by omega)⟩, trivial⟩ (lts_app (lts_cav (z := y4 y 0 0 0 (nrP y)) hc) ⟨(show y 24 ≤ y 25 by omega), (show y 26 ≤ y 27 by omega), (show y 24 ≤ y 37 by omega), (show y 37 ≤ y 25 by omega), (show y 26 ≤ y 38 by omega), (show y 38 ≤ y 27 by omega), (show y 47 + y 38 ≤ 1000000000 by omega), trivial⟩) trivial trivial) (vr_cav (z := y4 y 0 0 0 (nrP y)) hc) ?_ (vr_rst (z := y4 y 0 0 0 (nrP y)) ho) (vr_iv (y4 y 0 0 0 (nrP y)) (show 0 ≤ y 37 by omega) (show y 37 ≤ 1000 by omega)) (vr_iv (y4 y 0 0 0 (nrP y)) (show 0 ≤ y 38 by omega) (show y 38 ≤ 1000000 by omega)) ?_
    · exact vr_agg (vrs_cons (vr_iv (y4 y 0 0 0 (nrP y)) (show 0 ≤ y 44 by omega) (show y 44 ≤ 1000000 by omega)) (vrs_cons (vr_iv (y4 y 0 0 0 (nrP y)) (show 0 ≤ y 45 by omega) (show y 45 ≤ 1000000 by omega)) (vrs_cons (vr_iv (y4 y 0 0 0 (nrP y)) (show 2000 ≤ y 46 by omega) (show y 46 ≤ 5000 by omega)) (vrs_cons (vr_iv (y4 y 0 0 0 (nrP y)) (show 0 ≤ y 47 by omega) (show y 47 ≤ 1000000000 by omega)) vrs_nil))))
    · rw [hpq, hpu]; rfl
  · rw [p0, e1]; simp only [aft3]; omega
  · rw [p1, e1]; simp only [aft3]; omega
  · rw [p2, e1]
    exact ⟨Int.le_trans m1 t1, Int.le_trans t2 m2⟩
  · rw [p3, e1]; simp only [aft3]; omega
  · refine ⟨?_, ?_, ?_, u0 2⟩ <;> rw [g0, u0, g0] <;> omega
theorem play_all {y : Nat → Int} (hc : cavP y) (hs : stP y) (hq : hasQ y) (ho : opP y) (ht : trueP y) (hcan : can y) : PlayG y (plq y) (plu y) ∧ InN y ∧ OutN y := by
  rcases ho with h | h | h
  · exact play1 hc hs hq h ht hcan
  · exact play2 hc hs hq h ht hcan
  · exact play3 hc hs hq h ht hcan
end Go.Ev.Gas
end

