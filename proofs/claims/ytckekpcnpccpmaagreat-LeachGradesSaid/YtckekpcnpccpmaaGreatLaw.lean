import Derived.Test.YtckekpcnpccpmaaGreatStrength
import Derived.Test.YtckekpcnpccpmaaGreatTS
import Derived.Test.YtckekpcnpccpmaaGreatTG
import Derived.Handy
set_option linter.unusedVariables false
set_option linter.unusedSimpArgs false
set_option linter.unusedSectionVars false
noncomputable section
namespace Go.Ev.LG
open Go.Proofs.W Go.RowKit
open Go.Ev.LS (vF slicesC sliceC cavA stageA num den FracB)
open Go.Ev.LT (specT)

theorem colC_len {G : Ctx} (r : Nat) : ∀ n, (colC r n : List (AV G)).length = n
  | 0 => rfl
  | k + 1 => by simp [colC, colC_len r k]
theorem colC_at {G : Ctx} (r : Nat) : ∀ (n s : Nat), s < n → (colC r n : List (AV G))[s]? = some (.sx (.v (vF s r)) 0 300)
  | 0, s, h => by omega
  | k + 1, s, h => by
    simp only [colC]
    by_cases hs : s < k
    · rw [List.getElem?_append_left (by rw [colC_len]; exact hs)]; exact colC_at r k s hs
    · have : s = k := by omega
      subst this
      rw [List.getElem?_append_right (by rw [colC_len]; omega), colC_len]
      simp

theorem hasR_spec {G : Ctx} {id : Nat} {cs : List (AV G)} {h : AH G} (k : hasR id cs h = true) : ∃ g, h.objs.get id = some (.cells cs (some g)) := by
  unfold hasR at k
  split at k
  · rename_i vs g hg; rw [samesA_eq k] at hg; exact ⟨g, hg⟩
  · cases k

theorem strength3 (n : Nat) (h1 : 2 ≤ n) (h2 : n ≤ 10) : LS.chk3 n = true := by
  match n, h1, h2 with
  | 2, _, _ => exact LS.k3_2
  | 3, _, _ => exact LS.k3_3
  | 4, _, _ => exact LS.k3_4
  | 5, _, _ => exact LS.k3_5
  | 6, _, _ => exact LS.k3_6
  | 7, _, _ => exact LS.k3_7
  | 8, _, _ => exact LS.k3_8
  | 9, _, _ => exact LS.k3_9
  | 10, _, _ => exact LS.k3_10
  | n + 11, _, h => omega
theorem strength4 (n : Nat) (h1 : 2 ≤ n) (h2 : n ≤ 10) : LS.chk4 n = true := by
  match n, h1, h2 with
  | 2, _, _ => exact LS.k4_2
  | 3, _, _ => exact LS.k4_3
  | 4, _, _ => exact LS.k4_4
  | 5, _, _ => exact LS.k4_5
  | 6, _, _ => exact LS.k4_6
  | 7, _, _ => exact LS.k4_7
  | 8, _, _ => exact LS.k4_8
  | 9, _, _ => exact LS.k4_9
  | 10, _, _ => exact LS.k4_10
  | n + 11, _, h => omega

theorem inq_spec {G : Ctx} {e : Env G} {n : Nat} {v : Value} (h : VR e (inqG n) v) :
    ∃ b o c fv, v = .agg #[.slice (some ⟨b, o, none⟩) n c, .int .i64 (valI (e.opq 0)), .int .i64 (valI (e.opq 3)), fv] ∧ fv.oneCell' = true ∧ e.φ 0 = some (b, o) ∧ n ≤ c := by
  simp only [inqG] at h
  rw [VR] at h
  obtain ⟨xs, rfl, h⟩ := h
  simp only [VRs] at h
  obtain ⟨sv, l1, e1, h1, hv, l2, rfl, h2, ov, l3, rfl, h3, fv, l4, rfl, h4, rfl⟩ := h
  simp only [VR] at h1 h2 h3
  obtain ⟨b, o, c, h1, rfl, h5, _, _⟩ := h1
  obtain ⟨rfl, _⟩ := h2
  obtain ⟨rfl, _⟩ := h3
  refine ⟨b, o, c, fv, ?_, ?_, h1, h5⟩
  · obtain ⟨l⟩ := xs
    simp only at e1
    subst e1
    rfl
  · simp only [cls, VR] at h4
    obtain ⟨_, _, rfl, _⟩ := h4
    rfl

theorem rate_spec {G : Ctx} {e : Env G} {id n : Nat} {v : Value} (h : VR e (rateG id n) v) : ∃ b o c, v = .slice (some ⟨b, o, none⟩) n c ∧ e.φ id = some (b, o) ∧ n ≤ c := by
  simp only [rateG, VR] at h
  obtain ⟨b, o, c, h1, rfl, h3, _, _⟩ := h
  exact ⟨b, o, c, rfl, h1, h3⟩

theorem sliceAt_of {n : Nat} {e : Env (ctx n)} {h : AH (ctx n)} {w : World} (H : HR e h w) (hm : hasF 0 (slicesC n 0) h = true) {b o : Nat} (h0 : e.φ 0 = some (b, o)) :
    b < w.heap.size ∧ SliceAt w b o n (F7 n e.opq) := by
  obtain ⟨b', o', q1, q2, q3⟩ := H.obj 0 _ (hasF_spec hm)
  rw [h0] at q1; cases q1
  refine ⟨Nat.lt_of_lt_of_le q2 H.base, fun s r hs hr => ?_⟩
  obtain ⟨lo, hi, g1, g2, g3⟩ := LS.sliceC_bd (G := ctx n) hr (e.holds.extra.rows s hs)
  have hat := LS.slicesC_at (G := ctx n) n 0 s r hs hr
  rw [Nat.zero_add, g1] at hat
  obtain ⟨v, k1, k2⟩ := q3 _ _ hat
  simp only [VR, SX.eval] at k2
  rw [k1, k2.1]
  simp only [F7, if_pos (⟨hs, hr⟩ : s < n ∧ r < 7)]

theorem begun_of {n r : Nat} (hr : r = 4 ∨ r = 5) {e : Env (ctx n)} {h : AH (ctx n)} {w : World} (H : HR e h w) {id : Nat} (hm : memG n id r h = true) {b o c b2 o2 c2 : Nat} (h0 : e.φ 0 = some (b, o)) (hc : n ≤ c) (h1 : e.φ id = some (b2, o2)) (hc2 : n ≤ c2)
    {i j : Nat} (hi : i < n) (hj : j < n) (hij : i ≠ j) :
    LS.Begun w b o c b2 o2 c2 n i j (valI (e.opq 0)) (valI (e.opq 3)) (valI (e.opq 1)) (valI (e.opq 2)) (FF n e.opq r) (F7 n e.opq) := by
  have hx : Extra n e.opq := e.holds.extra
  simp only [memG, Bool.and_eq_true] at hm
  obtain ⟨hb, hs⟩ := sliceAt_of H hm.1 h0
  obtain ⟨g, hg⟩ := hasR_spec hm.2
  obtain ⟨bk, k1, k2, cc, t, k3, _, k4⟩ := H.obj id _ hg
  rw [h1] at k1; cases k1
  have hb2 : b2 < w.heap.size := (Array.getElem?_eq_some_iff.1 k3).1
  have hn := hx.n10
  have hbl := hx.bl
  refine ⟨⟨hx.n10, hb, hc, hb2, hc2, ⟨hx.hold.1, hx.hold.2, fun s => ?_⟩, hx.oil, hx.wa, ⟨hbl.1, by omega⟩, hi, hj, fun s hs => ?_⟩, hij, fun s hs => ?_, hs, hx.rows⟩
  · unfold FF
    split
    · rename_i hs
      have := (LS.row_t (hx.rows s hs)).2.2.2.1
      simp only [F7, if_pos (⟨hs, by omega⟩ : s < n ∧ 4 < 7), if_pos (⟨hs, by omega⟩ : s < n ∧ 5 < 7)] at this
      rcases hr with rfl | rfl <;> omega
    · omega
  · obtain ⟨v, q1, q2⟩ := k4 s _ (colC_at r n s hs)
    simp only [VR, SX.eval] at q2
    simp only [World.cell?, k3, Nat.zero_add]
    simp
    rw [q1, q2.1]
    simp only [FF, if_pos hs]
  · unfold FF; rw [if_neg (by omega)]

theorem within_of {x l h : Int} (h1 : l ≤ x) (h2 : x ≤ h) : within x l h = true := by simp [within, h1, h2]
theorem allB_of {f : Nat → Bool} : ∀ {n : Nat}, (∀ k, k < n → f k = true) → allB f n = true
  | 0, _ => rfl
  | n + 1, h => by simp only [allB, Bool.and_eq_true]; exact ⟨allB_of fun k hk => h k (by omega), h n (by omega)⟩
theorem cavB_of {n : Nat} {o : Nat → Value} (hx : Extra n o) : cavB n (valI (o 0)) (valI (o 3)) (F7 n o) = true := by
  have h1 := hx.n1
  have h2 := hx.n10
  simp only [cavB, headB, Bool.and_eq_true]
  exact ⟨⟨⟨within_of (by omega) (by omega), within_of hx.hold.1 hx.hold.2⟩, within_of hx.oil.1 hx.oil.2⟩, allB_of hx.rows⟩
theorem stageB_of {n : Nat} {o : Nat → Value} (hx : Extra n o) : stageB n (valI (o 1)) (valI (o 8)) (valI (o 9)) (valI (o 2)) = true := by
  obtain ⟨i, j, e1, e2, e3, e4, e5, _⟩ := hx.io
  rw [e1, e2]
  simp only [stageB, Bool.and_eq_true, decide_eq_true_eq]
  exact ⟨⟨⟨⟨within_of hx.wa.1 hx.wa.2, within_of (by omega) (by omega)⟩, within_of (by omega) (by omega)⟩, by omega⟩, within_of hx.bl.1 hx.bl.2⟩

theorem frac_VR {n : Nat} {e : Env (ctx n)} {v : Nat} {x y : Int} (h1 : valI (e.opq v) = x) (h2 : valI (e.opq (v + 1)) = y) (hb : FracB x y) : VR e (fracG v) (.agg #[.int .i64 x, .int .i64 y]) := by
  simp only [VRs, fracG, VR, SX.eval, h1, h2]
  exact ⟨_, rfl, _, _, rfl, ⟨rfl, hb.1⟩, _, _, rfl, ⟨rfl, hb.2⟩, rfl⟩

theorem K_ok {n : Nat} : ∀ k ∈ K n, k.ok P := by
  intro k hk
  simp only [K, List.mem_cons, List.not_mem_nil, or_false] at hk
  rcases hk with rfl | rfl | rfl | rfl | rfl | rfl
  · refine KE.same_ok fun e vs w h hp H hv => ?_
    simp only [VRs] at hv
    obtain ⟨v, l, hl, hv1, rfl⟩ := hv
    obtain ⟨b, o, c, rfl, h0, hc⟩ := LS.cav_spec hv1
    obtain ⟨l⟩ := vs
    simp only at hl; subst hl
    obtain ⟨hb, hs⟩ := sliceAt_of H hp h0
    have hn := e.holds.extra.n10
    refine (cav_any (.slice (some ⟨b, o, none⟩) n c) n _ _ (F7 n e.opq) w (.inr ⟨b, o, c, rfl, hb, hc, by omega, hs⟩)).mono fun en w' ⟨q1, q2⟩ => ?_
    rw [cavB_of e.holds.extra] at q1
    exact ⟨_, q1, by simp only [VR], q2⟩
  · refine KE.same_ok fun e vs w h hp H hv => ?_
    simp only [VRs] at hv
    obtain ⟨v, l, hl, hv1, v2, l2, rfl, hv2, rfl⟩ := hv
    obtain ⟨b, o, c, rfl, h0, hc⟩ := LS.cav_spec hv1
    have := LS.stage_spec hv2; subst this
    obtain ⟨l⟩ := vs
    simp only at hl; subst hl
    have hn := e.holds.extra.n10
    refine (stage23_any ⟨b, o, none⟩ n c _ _ _ _ _ _ w e.holds.extra.n1 (by omega)).mono fun en w' ⟨q1, q2⟩ => ?_
    rw [stageB_of e.holds.extra] at q1
    exact ⟨_, q1, by simp only [VR], q2⟩
  · refine KE.same_ok fun e vs w h hp H hv => ?_
    simp only [VRs] at hv
    obtain ⟨v, l, hl, hv1, v2, l2, rfl, hv2, v3, l3, rfl, hv3, rfl⟩ := hv
    obtain ⟨b, o, c, fv, rfl, hfv, h0, hc⟩ := inq_spec hv1
    have := LS.stage_spec hv2; subst this
    obtain ⟨b2, o2, c2, rfl, h1, hc2⟩ := rate_spec hv3
    obtain ⟨l⟩ := vs
    simp only at hl; subst hl
    obtain ⟨i, j, e1, e2, e3, e4, e5, e6, e7, e8, e9⟩ := e.holds.extra.io
    have S := begun_of (.inl rfl) H hp h0 hc h1 hc2 e3 e4 e5
    rw [e1, e2]
    refine (LS.strength_good S hfv (strength3 n (by omega) e.holds.extra.n10)).mono fun en w' ⟨q1, q2, q3⟩ => ?_
    exact ⟨_, q1, frac_VR e6 e7 q2, q3⟩
  · refine KE.same_ok fun e vs w h hp H hv => ?_
    simp only [VRs] at hv
    obtain ⟨v, l, hl, hv1, v2, l2, rfl, hv2, v3, l3, rfl, hv3, rfl⟩ := hv
    obtain ⟨b, o, c, fv, rfl, hfv, h0, hc⟩ := inq_spec hv1
    have := LS.stage_spec hv2; subst this
    obtain ⟨b2, o2, c2, rfl, h1, hc2⟩ := rate_spec hv3
    obtain ⟨l⟩ := vs
    simp only at hl; subst hl
    obtain ⟨i, j, e1, e2, e3, e4, e5, e6, e7, e8, e9⟩ := e.holds.extra.io
    have S := begun_of (.inr rfl) H hp h0 hc h1 hc2 e3 e4 e5
    rw [e1, e2]
    refine (LS.strength_good S hfv (strength3 n (by omega) e.holds.extra.n10)).mono fun en w' ⟨q1, q2, q3⟩ => ?_
    exact ⟨_, q1, frac_VR e8 e9 q2, q3⟩
  · refine KE.same_ok fun e vs w h hp H hv => ?_
    simp only [VRs] at hv
    obtain ⟨v, l, hl, hv1, v2, l2, rfl, hv2, v3, l3, rfl, hv3, rfl⟩ := hv
    obtain ⟨b, o, c, rfl, h0, hc⟩ := LS.cav_spec hv1
    have := LS.stage_spec hv2; subst this
    obtain ⟨b2, o2, c2, rfl, h1, hc2⟩ := rate_spec hv3
    obtain ⟨l⟩ := vs
    simp only at hl; subst hl
    obtain ⟨i, j, e1, e2, e3, e4, e5, e6, e7, e8, e9⟩ := e.holds.extra.io
    have S := begun_of (.inl rfl) H hp h0 hc h1 hc2 e3 e4 e5
    rw [e1, e2]
    refine (LS.rstrength_good S (strength4 n (by omega) e.holds.extra.n10)).mono fun en w' ⟨q1, q2, q3⟩ => ?_
    exact ⟨_, q1, frac_VR e6 e7 q2, q3⟩
  · refine KE.same_ok fun e vs w h hp H hv => ?_
    simp only [VRs] at hv
    obtain ⟨v, l, hl, hv1, v2, l2, rfl, hv2, v3, l3, rfl, hv3, rfl⟩ := hv
    obtain ⟨b, o, c, rfl, h0, hc⟩ := LS.cav_spec hv1
    have := LS.stage_spec hv2; subst this
    obtain ⟨b2, o2, c2, rfl, h1, hc2⟩ := rate_spec hv3
    obtain ⟨l⟩ := vs
    simp only at hl; subst hl
    obtain ⟨i, j, e1, e2, e3, e4, e5, e6, e7, e8, e9⟩ := e.holds.extra.io
    have S := begun_of (.inr rfl) H hp h0 hc h1 hc2 e3 e4 e5
    rw [e1, e2]
    refine (LS.rstrength_good S (strength4 n (by omega) e.holds.extra.n10)).mono fun en w' ⟨q1, q2, q3⟩ => ?_
    exact ⟨_, q1, frac_VR e8 e9 q2, q3⟩
end Go.Ev.LG

namespace Go.Ev.LG
open Go.Proofs.W Go.RowKit
open Go.Ev.LS (vF slicesC sliceC cavA stageA num den FracB)
open Go.Ev.LT (specT)

theorem cav_t {n : Nat} {hold oil : Int} {F : Nat → Nat → Int} (k : cavB n hold oil F = true) : (1 ≤ n ∧ n ≤ 10) ∧ (1 ≤ hold ∧ hold ≤ 300) ∧ (0 ≤ oil ∧ oil ≤ 10000000000000) ∧ ∀ s, s < n → rowB F s = true := by
  simp only [cavB, headB, Bool.and_eq_true] at k
  obtain ⟨⟨⟨k1, k2⟩, k3⟩, k4⟩ := k
  have := within_t k1
  exact ⟨by omega, within_t k2, within_t k3, fun s hs => allB_get k4 hs⟩
theorem stage_t {n : Nat} {wa i o bl : Int} (k : stageB n wa i o bl = true) : (1 ≤ wa ∧ wa ≤ 1000000) ∧ (0 ≤ i ∧ i ≤ n - 1) ∧ (0 ≤ o ∧ o ≤ n - 1) ∧ i ≠ o ∧ (0 ≤ bl ∧ bl ≤ n) := by
  simp only [stageB, Bool.and_eq_true, decide_eq_true_eq] at k
  obtain ⟨⟨⟨⟨k1, k2⟩, k3⟩, k4⟩, k5⟩ := k
  exact ⟨within_t k1, within_t k2, within_t k3, k4, within_t k5⟩

def cut (n : Nat) (F : Nat → Nat → Int) (s r : Nat) : Int := if s < n ∧ r < 7 then F s r else 0
def colF (n : Nat) (F : Nat → Nat → Int) (r s : Nat) : Int := if s < n then F s r else 0
/-- The strengths of a stage, at the lowest and at the highest rates. -/
def nums (n i j : Nat) (hold wa : Int) (F : Nat → Nat → Int) (r : Nat) : Int := num hold wa (specT hold (colF n F r) i j) (cut n F) n
def dens (n i j : Nat) (hold wa : Int) (F : Nat → Nat → Int) (r : Nat) : Int := den hold wa (specT hold (colF n F r) i j) (cut n F) n

def val (n i j : Nat) (hold oil wa bl : Int) (F : Nat → Nat → Int) (v : Nat) : Int :=
  if v = 0 then hold else if v = 1 then wa else if v = 2 then bl else if v = 3 then oil else if v = 8 then i else if v = 9 then j else if v < 400 then F ((v - 10) / 7) ((v - 10) % 7)
  else if v = 590 then nums n i j hold wa F 4 else if v = 591 then dens n i j hold wa F 4 else if v = 592 then nums n i j hold wa F 5 else dens n i j hold wa F 5
def vals (n i j : Nat) (hold oil wa bl : Int) (F : Nat → Nat → Int) (v : Nat) : Value := .int .i64 (val n i j hold oil wa bl F v)

structure Begun (w : World) (b off n cap i j : Nat) (hold oil wa bl : Int) (F : Nat → Nat → Int) : Prop where
  hs : Sl w (.slice (some ⟨b, off, none⟩) n cap) n F
  cav : cavB n hold oil F = true
  stage : stageB n wa i j bl = true

section
variable {w : World} {b off n cap i j : Nat} {hold oil wa bl : Int} {F : Nat → Nat → Int}
theorem val_F {s r : Nat} (hs : s < 10) (hr : r < 7) : val n i j hold oil wa bl F (vF s r) = F s r := by
  unfold val vF
  rw [if_neg (by omega), if_neg (by omega), if_neg (by omega), if_neg (by omega), if_neg (by omega), if_neg (by omega), if_pos (by omega)]
  have h1 : (10 + 7 * s + r - 10) / 7 = s := by omega
  have h2 : (10 + 7 * s + r - 10) % 7 = r := by omega
  rw [h1, h2]
theorem F7_vals (hn : n ≤ 10) : F7 n (vals n i j hold oil wa bl F) = cut n F := by
  funext s r
  unfold F7 cut
  split
  · rename_i h; exact val_F (by omega) h.2
  · rfl
theorem FF_vals (hn : n ≤ 10) {r : Nat} (hr : r < 7) : FF n (vals n i j hold oil wa bl F) r = colF n F r := by
  funext s
  unfold FF colF
  split
  · rename_i h; exact val_F (by omega) hr
  · rfl

theorem rowB_congr {F F' : Nat → Nat → Int} {s : Nat} (h : ∀ r, r < 7 → F s r = F' s r) : rowB F s = rowB F' s := by
  unfold rowB
  rw [h 0 (by omega), h 1 (by omega), h 2 (by omega), h 3 (by omega), h 4 (by omega), h 5 (by omega), h 6 (by omega)]

variable (S : Begun w b off n cap i j hold oil wa bl F)
include S
theorem Begun.extra : Extra n (vals n i j hold oil wa bl F) := by
  obtain ⟨⟨hn1, hn2⟩, hh, ho, hr⟩ := cav_t S.cav
  obtain ⟨hw, hi, hj, hij, hb⟩ := stage_t S.stage
  refine ⟨hn1, hn2, hh, ho, hw, hb, fun s hs => ?_, ⟨i, j, rfl, rfl, by omega, by omega, by omega, ?_⟩⟩
  · rw [F7_vals hn2, ← hr s hs]
    exact rowB_congr fun r hr => by simp only [cut, if_pos (⟨hs, hr⟩ : s < n ∧ r < 7)]
  · rw [F7_vals hn2, FF_vals hn2 (by omega), FF_vals hn2 (by omega)]
    exact ⟨rfl, rfl, rfl, rfl⟩

theorem Begun.holds : (ctx n).holds (vals n i j hold oil wa bl F) :=
  ⟨(by intro _ _ _ _ h; cases h), (by intro _ _ _ h; cases h), (by intro _ _ _ h; cases h), S.extra⟩

def Begun.env : Env (ctx n) := frnEnv (vals n i j hold oil wa bl F) (fun _ => rfl) S.holds [⟨b, off, cap * 7⟩] w.heap.size

theorem Begun.at : b < w.heap.size ∧ n ≤ cap ∧ n ≤ 9223372036854775807 ∧ SliceAt w b off n F := by
  obtain ⟨⟨hn1, _⟩, _⟩ := cav_t S.cav
  rcases S.hs with ⟨_, _, _, h0⟩ | ⟨b', off', cap', h1, h2, h3, h4, h5⟩
  · omega
  · cases h1; exact ⟨h2, h3, h4, h5⟩

theorem Begun.hr : HR S.env (frnH [slicesC n 0]) w := by
  obtain ⟨⟨hn1, hn2⟩, _, _, hrow⟩ := cav_t S.cav
  obtain ⟨hb, _, _, hs⟩ := S.at
  refine HR.frn _ _ rfl fun x c p hx hp => ?_
  match x, hx, hp with
  | 0, hx, hp =>
    simp at hx hp; subst hx hp
    refine ⟨hb, fun k a ha => ?_⟩
    have hk : k < n * 7 := by
      have := (List.getElem?_eq_some_iff.1 ha).1
      rw [LS.slicesC_len] at this; exact this
    have hq : k / 7 < n := by omega
    have hr : k % 7 < 7 := by omega
    have hk' : k = k / 7 * 7 + k % 7 := by omega
    obtain ⟨lo, hi, g1, g2, g3⟩ := LS.sliceC_bd (G := ctx n) hr (hrow _ hq)
    have hat := LS.slicesC_at (G := ctx n) n 0 (k / 7) (k % 7) hq hr
    rw [← hk', Nat.zero_add, g1] at hat
    rw [hat] at ha
    cases ha
    have hc := hs (k / 7) (k % 7) hq hr
    rw [← hk'] at hc
    refine ⟨_, hc, ?_⟩
    simp only [VR, SX.eval, frnEnv, vals, valI]
    rw [val_F (by omega) hr]
    exact ⟨rfl, g2, g3⟩
  | x + 1, hx, _ => simp at hx

theorem Begun.vstage : VR S.env stageA (.agg #[.int .i64 wa, .int .i64 i, .int .i64 j, .int .i64 bl]) := by
  obtain ⟨⟨hn1, hn2⟩, _⟩ := cav_t S.cav
  obtain ⟨hw, hi, hj, hij, hb⟩ := stage_t S.stage
  have v8 : valI (vals n i j hold oil wa bl F 8) = i := rfl
  have v9 : valI (vals n i j hold oil wa bl F 9) = j := rfl
  have v2 : valI (vals n i j hold oil wa bl F 2) = bl := rfl
  simp only [VRs, stageA, VR, SX.eval, Begun.env, frnEnv]
  refine ⟨_, rfl, _, _, rfl, ⟨rfl, hw⟩, _, _, rfl, ⟨rfl, ?_, ?_⟩, _, _, rfl, ⟨rfl, ?_, ?_⟩, _, _, rfl, ⟨rfl, ?_, ?_⟩, rfl⟩ <;> (first | rw [v8] | rw [v9] | rw [v2]) <;> omega

theorem Begun.vcav : VR S.env (cavA n) (.agg #[.slice (some ⟨b, off, none⟩) n cap, .int .i64 hold, .int .i64 oil]) := by
  obtain ⟨_, hh, ho, _⟩ := cav_t S.cav
  obtain ⟨hb, hc, _, hs⟩ := S.at
  simp only [VRs, cavA, VR, SX.eval, Begun.env, frnEnv]
  exact ⟨_, rfl, _, _, rfl, ⟨b, off, cap, by simp, rfl, hc, by simp, fun _ _ => by simp⟩, _, _, rfl, ⟨rfl, hh⟩, _, _, rfl, ⟨rfl, ho⟩, rfl⟩

theorem Begun.n2 : 2 ≤ n := by
  obtain ⟨⟨hn1, hn2⟩, _⟩ := cav_t S.cav
  obtain ⟨hw, hi, hj, hij, hb⟩ := stage_t S.stage
  omega

omit S in
theorem frac_val {e : Env (ctx n)} {v : Nat} {x y : Int} (h1 : valI (e.opq v) = x) (h2 : valI (e.opq (v + 1)) = y) {u : Value} (h : VR e (fracG v) u) : u = .agg #[.int .i64 x, .int .i64 y] := by
  simp only [fracG, VR, VRs, SX.eval, h1, h2] at h
  obtain ⟨xs, rfl, x1, l1, e1, ⟨rfl, g1⟩, x2, l2, rfl, ⟨rfl, g2⟩, rfl⟩ := h
  obtain ⟨l⟩ := xs
  simp only at e1; subst e1; rfl
end

theorem okG_spec {G : Ctx} {r : Option (Res G)} (k : okG r = true) : ∃ h, r = some (.ret (.tuple [fracG 590, fracG 592, .int .i64 0]) h) := by
  unfold okG at k
  split at k
  · rename_i v h; rw [sameA_eq k]; exact ⟨h, rfl⟩
  · cases k
theorem okR_spec {G : Ctx} {r : Option (Res G)} (k : okR r = true) : ∃ h, r = some (.ret (.tuple [fracG 590, fracG 592]) h) := by
  unfold okR at k
  split at k
  · rename_i v h; rw [sameA_eq k]; exact ⟨h, rfl⟩
  · cases k

theorem all5 (n : Nat) (h1 : 2 ≤ n) (h2 : n ≤ 10) : chk5 n = true := by
  match n, h1, h2 with
  | 2, _, _ => exact k5_2
  | 3, _, _ => exact k5_3
  | 4, _, _ => exact k5_4
  | 5, _, _ => exact k5_5
  | 6, _, _ => exact k5_6
  | 7, _, _ => exact k5_7
  | 8, _, _ => exact k5_8
  | 9, _, _ => exact k5_9
  | 10, _, _ => exact k5_10
  | n + 11, _, h => omega
theorem all6 (n : Nat) (h1 : 2 ≤ n) (h2 : n ≤ 10) : chk6 n = true := by
  match n, h1, h2 with
  | 2, _, _ => exact k6_2
  | 3, _, _ => exact k6_3
  | 4, _, _ => exact k6_4
  | 5, _, _ => exact k6_5
  | 6, _, _ => exact k6_6
  | 7, _, _ => exact k6_7
  | 8, _, _ => exact k6_8
  | 9, _, _ => exact k6_9
  | 10, _, _ => exact k6_10
  | n + 11, _, h => omega

section
variable {w : World} {b off n cap i j : Nat} {hold oil wa bl : Int} {F : Nat → Nat → Int} (S : Begun w b off n cap i j hold oil wa bl F)
include S
theorem grade_good :
    Calls P 38 #[.agg #[.slice (some ⟨b, off, none⟩) n cap, .int .i64 hold, .int .i64 oil], .agg #[.int .i64 wa, .int .i64 i, .int .i64 j, .int .i64 bl]] w
      fun e w' => e = .returned (.tuple #[.agg #[.int .i64 (nums n i j hold wa F 4), .int .i64 (dens n i j hold wa F 4)], .agg #[.int .i64 (nums n i j hold wa F 5), .int .i64 (dens n i j hold wa F 5)], .int .i64 0]) ∧ Below w.heap.size w w' := by
  obtain ⟨h', hr⟩ := okG_spec (all5 n S.n2 S.extra.n10)
  have k := evK_sound P (K_ok (n := n)) 20000 _ _ hr
  refine (callsIn_wide (n := 0)).1 (k S.env _ w 0 _ S.hr ?_ (fun e' v' w' St' hv => ?_))
  · simp only [VRs]
    exact ⟨_, _, rfl, S.vcav, _, _, rfl, S.vstage, rfl⟩
  · have he : e'.opq = vals n i j hold oil wa bl F := St'.le.opq
    obtain ⟨xs, rfl, hx⟩ := hv.tuple
    simp only [VRs] at hx
    obtain ⟨v1, l, hl, hv1, v2, l2, rfl, hv2, v3, l3, rfl, hv3, rfl⟩ := hx
    cases hv3.int
    have := frac_val (by rw [he]) (by rw [he]) hv1
    subst this
    have := frac_val (by rw [he]) (by rw [he]) hv2
    subst this
    obtain ⟨l⟩ := xs
    simp only at hl; subst hl
    exact ⟨rfl, St'.below S.hr⟩

theorem rgrade_good :
    Calls P 39 #[.agg #[.slice (some ⟨b, off, none⟩) n cap, .int .i64 hold, .int .i64 oil], .agg #[.int .i64 wa, .int .i64 i, .int .i64 j, .int .i64 bl]] w
      fun e w' => e = .returned (.tuple #[.agg #[.int .i64 (nums n i j hold wa F 4), .int .i64 (dens n i j hold wa F 4)], .agg #[.int .i64 (nums n i j hold wa F 5), .int .i64 (dens n i j hold wa F 5)]]) ∧ Below w.heap.size w w' := by
  obtain ⟨h', hr⟩ := okR_spec (all6 n S.n2 S.extra.n10)
  have k := evK_sound P (K_ok (n := n)) 20000 _ _ hr
  refine (callsIn_wide (n := 0)).1 (k S.env _ w 0 _ S.hr ?_ (fun e' v' w' St' hv => ?_))
  · simp only [VRs]
    exact ⟨_, _, rfl, S.vcav, _, _, rfl, S.vstage, rfl⟩
  · have he : e'.opq = vals n i j hold oil wa bl F := St'.le.opq
    obtain ⟨xs, rfl, hx⟩ := hv.tuple
    simp only [VRs] at hx
    obtain ⟨v1, l, hl, hv1, v2, l2, rfl, hv2, rfl⟩ := hx
    have := frac_val (by rw [he]) (by rw [he]) hv1
    subst this
    have := frac_val (by rw [he]) (by rw [he]) hv2
    subst this
    obtain ⟨l⟩ := xs
    simp only at hl; subst hl
    exact ⟨rfl, St'.below S.hr⟩
end
end Go.Ev.LG

namespace Go.Proofs.W
open Go.RowKit
theorem sizes {a : World} {x : Nat} {b : World} (h : x + 1 < a.heap.size) (hb : Below a.heap.size a b) : x < b.heap.size ∧ x + 1 < b.heap.size := by
  have := hb.size; omega
theorem sizes0 {w x1 : World} {O O' : Obj} (hb : Below ((w.alloc O).alloc O').heap.size ((w.alloc O).alloc O') x1) : w.heap.size < x1.heap.size ∧ w.heap.size + 1 < x1.heap.size := by
  have := hb.size; simp at this; omega
theorem belowAll {w W a b : World} (h1 : Below w.heap.size w W) (h2 : Below W.heap.size W a) (h3 : Below w.heap.size a b) : Below w.heap.size w b := (h1.trans (h2.mono h1.size)).trans h3
theorem up {w a b : World} (h1 : w.heap.size < a.heap.size) (h2 : Below a.heap.size a b) : Below w.heap.size a b := h2.mono (by omega)

theorem results_cct {P : Program} {fn : Func} {p q u : Tmp} {ty : TypeId} (h : fn.results = #[.cell p ty, .cell q ty, .tmp u]) (tmps : Array Value) (w : World) (g g' : Nat) (t t' : TypeId) (cs cs' : Array Value) (fr fr' : Nat × Nat) (d : TypeDesc)
    (hp : tmps.getD p undef = .pointer (some ⟨g, 0, none⟩)) (hq : tmps.getD q undef = .pointer (some ⟨g', 0, none⟩)) (hg : w.heap[g]? = some (.cells cs t fr)) (hg' : w.heap[g']? = some (.cells cs' t' fr'))
    (hu : P.underlying ty = some d) (hd : (match d with | .struct _ | .array _ _ => true | _ => false) = true) (hi : (P.info? ty).map (·.size) = some cs.size) (hi' : (P.info? ty).map (·.size) = some cs'.size) :
    (results fn tmps).run P w = .ok (.tuple #[.agg cs, .agg cs', tmps.getD u undef]) w := by
  have hp' : tmps[p]?.getD undef = .pointer (some ⟨g, 0, none⟩) := by simpa using hp
  have hq' : tmps[q]?.getD undef = .pointer (some ⟨g', 0, none⟩) := by simpa using hq
  simp [results, h, hp', hq', asAddr, run_loadVar_row w g t ty cs fr d hg hu hd hi, run_loadVar_row w g' t' ty cs' fr' d hg' hu hd hi', Sem.run_bind, Result.andThen]

theorem zrow {w1 : World} {x y : Nat} {t : TypeId} (hx : w1.heap[x]? = some (.cells #[.int .i64 0, .int .i64 0] t (0, 0))) (hy : w1.heap[y]? = some (.cells #[.int .i64 0, .int .i64 0] t (0, 0))) (hxy : x ≠ y) :
    ((((w1.setCell ⟨x, 0, none⟩ (.int .i64 0)).setCell ⟨x, 1, none⟩ (.int .i64 0)).setCell ⟨y, 0, none⟩ (.int .i64 0)).setCell ⟨y, 1, none⟩ (.int .i64 0)).heap[x]? = some (.cells #[.int .i64 0, .int .i64 0] t (0, 0)) ∧
    ((((w1.setCell ⟨x, 0, none⟩ (.int .i64 0)).setCell ⟨x, 1, none⟩ (.int .i64 0)).setCell ⟨y, 0, none⟩ (.int .i64 0)).setCell ⟨y, 1, none⟩ (.int .i64 0)).heap[y]? = some (.cells #[.int .i64 0, .int .i64 0] t (0, 0)) := by
  have a1 := heap_setCell_same w1 x 0 _ t (.int .i64 0) hx
  have a2 := heap_setCell_same _ x 1 _ t (.int .i64 0) a1
  have b0 : ((w1.setCell ⟨x, 0, none⟩ (.int .i64 0)).setCell ⟨x, 1, none⟩ (.int .i64 0)).heap[y]? = some (.cells #[.int .i64 0, .int .i64 0] t (0, 0)) := by
    rw [heap_setCell_other _ _ _ _ (Ne.symm hxy), heap_setCell_other _ _ _ _ (Ne.symm hxy), hy]
  have b1 := heap_setCell_same _ y 0 _ t (.int .i64 0) b0
  have b2 := heap_setCell_same _ y 1 _ t (.int .i64 0) b1
  constructor
  · rw [heap_setCell_other _ _ _ _ hxy, heap_setCell_other _ _ _ _ hxy, a2]; rfl
  · rw [b2]; rfl

def zz : Value := .tuple #[.agg #[.int .i64 0, .int .i64 0], .agg #[.int .i64 0, .int .i64 0], .int .i64 2]
set_option maxHeartbeats 1000000 in
theorem grade_bad (v : Value) (n : Nat) (hold oil wa i o bl : Int) (F : Nat → Nat → Int) (w : World) (hs : Sl w v n F) (hbad : cavB n hold oil F = false) :
    Calls Tryz.prog 38 #[.agg #[v, .int .i64 hold, .int .i64 oil], .agg #[.int .i64 wa, .int .i64 i, .int .i64 o, .int .i64 bl]] w fun e w' => e = .returned zz ∧ Below w.heap.size w w' := by
  have hB := fun O O' O'' O''' => ((((Below.refl w.heap.size w).alloc (Nat.le_refl _) O).alloc (by simp) O').alloc (by simp; omega) O'').alloc (by simp; omega) O'''
  have HB := Lib.hid hB
  clear hB
  have C := fun w hs => cav_any v n hold oil F w hs
  rw [hbad] at C
  have HC := Lib.hid C
  have HS := Lib.hid hs
  clear C hbad hs
  go_enter Tryz.func38, Tryz.ntmps38
  go_wp2_with fail
  refine (HC.out _ ((((HS.out.alloc _).alloc _).alloc _).alloc _)).mono ?_
  rintro e w1 ⟨rfl, hb1⟩
  obtain ⟨hc1, hf1⟩ := bcell hb1
  have hz1 := hb1.size
  simp at hz1
  go_wp2
  have e1 : w1.heap[w.heap.size + 1 + 1]? = some (.cells #[.int .i64 0, .int .i64 0] 68 (0, 0)) := by
    rw [hb1.block _ (by simp), heap_alloc_old _ _ (by simp)]
    have := heap_alloc_new ((w.alloc (Obj.cells #[v, Value.int IntKind.i64 hold, Value.int IntKind.i64 oil] 24)).alloc (Obj.cells #[Value.int IntKind.i64 wa, Value.int IntKind.i64 i, Value.int IntKind.i64 o, Value.int IntKind.i64 bl] 57)) (Obj.cells #[Value.int IntKind.i64 0, Value.int IntKind.i64 0] 68)
    simpa using this
  have e2 : w1.heap[w.heap.size + 1 + 1 + 1]? = some (.cells #[.int .i64 0, .int .i64 0] 68 (0, 0)) := by
    rw [hb1.block _ (by simp)]
    have := heap_alloc_new (((w.alloc (Obj.cells #[v, Value.int IntKind.i64 hold, Value.int IntKind.i64 oil] 24)).alloc (Obj.cells #[Value.int IntKind.i64 wa, Value.int IntKind.i64 i, Value.int IntKind.i64 o, Value.int IntKind.i64 bl] 57)).alloc (Obj.cells #[Value.int IntKind.i64 0, Value.int IntKind.i64 0] 68)) (Obj.cells #[Value.int IntKind.i64 0, Value.int IntKind.i64 0] 68)
    simpa using this
  obtain ⟨r1, r2⟩ := zrow e1 e2 (by omega)
  refine bodyPost_ret (results_cct rfl _ _ _ _ _ _ _ _ _ _ _ rfl rfl r1 r2 Tryz.underlying68 rfl (by kernel_rfl) (by kernel_rfl)) rfl ⟨rfl, ?_⟩
  exact ((((((HB.out _ _ _ _).trans (hb1.mono (by simp; omega))).setCell (by simp; omega) _).setCell (by simp; omega) _).setCell (by simp; omega) _).setCell (by simp; omega) _)
set_option maxHeartbeats 1000000 in
theorem grade_bad2 (a : Addr) (n cap : Nat) (hold oil wa i o bl : Int) (F : Nat → Nat → Int) (w : World) (hs : Sl w (.slice (some a) n cap) n F) (hn : 1 ≤ n) (hm : n ≤ 9223372036854775807) (hcav : cavB n hold oil F = true) (hbad : stageB n wa i o bl = false) :
    Calls Tryz.prog 38 #[.agg #[.slice (some a) n cap, .int .i64 hold, .int .i64 oil], .agg #[.int .i64 wa, .int .i64 i, .int .i64 o, .int .i64 bl]] w fun e w' => e = .returned zz ∧ Below w.heap.size w w' := by
  have hB := fun O O' O'' O''' => ((((Below.refl w.heap.size w).alloc (Nat.le_refl _) O).alloc (by simp) O').alloc (by simp; omega) O'').alloc (by simp; omega) O'''
  have HB := Lib.hid hB
  clear hB
  have C := fun w hs => cav_any (.slice (some a) n cap) n hold oil F w hs
  rw [hcav] at C
  have HC := Lib.hid C
  have HS := Lib.hid hs
  have D := fun w => stage23_any a n cap hold oil wa i o bl w hn hm
  rw [hbad] at D
  have HD := Lib.hid D
  clear C hbad hs D hcav
  go_enter Tryz.func38, Tryz.ntmps38
  go_wp2_with fail
  refine (HC.out _ ((((HS.out.alloc _).alloc _).alloc _).alloc _)).mono ?_
  rintro e w1 ⟨rfl, hb1⟩
  obtain ⟨hc1, hf1⟩ := bcell hb1
  have hz1 := hb1.size
  simp at hz1
  have m1 : w.heap.size < w1.heap.size := by omega
  have m2 : w.heap.size + 1 < w1.heap.size := by omega
  have m3 : w.heap.size + 1 + 1 < w1.heap.size := by omega
  have m4 : w.heap.size + 1 + 1 + 1 < w1.heap.size := by omega
  go_wp2_with fail
  refine (HD.out _).mono ?_
  rintro e w2 ⟨rfl, hb2⟩
  obtain ⟨hc2, hf2⟩ := bcell hb2
  have hz2 := hb2.size
  go_wp2
  have e1 : w2.heap[w.heap.size + 1 + 1]? = some (.cells #[.int .i64 0, .int .i64 0] 68 (0, 0)) := by
    rw [hb2.block _ (by omega), hb1.block _ (by simp), heap_alloc_old _ _ (by simp)]
    have := heap_alloc_new ((w.alloc (Obj.cells #[.slice (some a) n cap, Value.int IntKind.i64 hold, Value.int IntKind.i64 oil] 24)).alloc (Obj.cells #[Value.int IntKind.i64 wa, Value.int IntKind.i64 i, Value.int IntKind.i64 o, Value.int IntKind.i64 bl] 57)) (Obj.cells #[Value.int IntKind.i64 0, Value.int IntKind.i64 0] 68)
    simpa using this
  have e2 : w2.heap[w.heap.size + 1 + 1 + 1]? = some (.cells #[.int .i64 0, .int .i64 0] 68 (0, 0)) := by
    rw [hb2.block _ (by omega), hb1.block _ (by simp)]
    have := heap_alloc_new (((w.alloc (Obj.cells #[.slice (some a) n cap, Value.int IntKind.i64 hold, Value.int IntKind.i64 oil] 24)).alloc (Obj.cells #[Value.int IntKind.i64 wa, Value.int IntKind.i64 i, Value.int IntKind.i64 o, Value.int IntKind.i64 bl] 57)).alloc (Obj.cells #[Value.int IntKind.i64 0, Value.int IntKind.i64 0] 68)) (Obj.cells #[Value.int IntKind.i64 0, Value.int IntKind.i64 0] 68)
    simpa using this
  obtain ⟨r1, r2⟩ := zrow e1 e2 (by omega)
  refine bodyPost_ret (results_cct rfl _ _ _ _ _ _ _ _ _ _ _ rfl rfl r1 r2 Tryz.underlying68 rfl (by kernel_rfl) (by kernel_rfl)) rfl ⟨rfl, ?_⟩
  exact (((((((HB.out _ _ _ _).trans (hb1.mono (by simp; omega))).trans (hb2.mono (by omega))).setCell (by simp; omega) _).setCell (by simp; omega) _).setCell (by simp; omega) _).setCell (by simp; omega) _)
end Go.Proofs.W

namespace Go.Proofs.W
open Go.RowKit Go.Ev.LG
theorem belowA {x y : World} {O O' : Obj} (hb : Below ((x.alloc O).alloc O').heap.size ((x.alloc O).alloc O') y) : Below x.heap.size x y :=
  (((Below.refl x.heap.size x).alloc (Nat.le_refl _) O).alloc (by simp) O').trans (hb.mono (by simp; omega))
theorem sizesA {a x y : World} {O O' : Obj} (h : a.heap.size + 1 < x.heap.size) (hb : Below ((x.alloc O).alloc O').heap.size ((x.alloc O).alloc O') y) : a.heap.size < y.heap.size ∧ a.heap.size + 1 < y.heap.size := by
  have := hb.size; simp at this; omega
theorem law_long (v : Value) (n : Nat) (hold oil wa i o bl : Int) (F : Nat → Nat → Int) (w : World) (hs : Sl w v n F) (h20 : ¬ (n : Int) ≤ 20)
    (hk : ∀ w, Calls Tryz.prog 21 #[] w fun e w' => e = .returned (.bool true) ∧ Below w.heap.size w w') :
    Calls Tryz.prog 9 #[.agg #[v, .int .i64 hold, .int .i64 oil], .agg #[.int .i64 wa, .int .i64 i, .int .i64 o, .int .i64 bl]] w fun e w' => e = .returned (.bool true) ∧ Below w.heap.size w w' := by
  have hB := fun O O' => ((Below.refl w.heap.size w).alloc (Nat.le_refl _) O).alloc (by simp) O'
  have HB := Lib.hid hB
  clear hB
  have HS := Lib.hid hs
  clear hs
  have HK := Lib.hid hk
  clear hk
  have C := fun w hs => short_any v n hold oil F w hs
  rw [decide_eq_false h20] at C
  have HC := Lib.hid C
  clear C h20
  go_enter Tryz.func9, Tryz.ntmps9
  go_wp2_with fail
  refine (HC.out _ ((HS.out.alloc _).alloc _)).mono ?_
  rintro e x1 ⟨rfl, hb1⟩
  obtain ⟨hc1, hf1⟩ := bcell hb1
  obtain ⟨k1, l1⟩ := sizes0 hb1
  go_wp2_with fail
  refine (HK.out _).mono ?_
  rintro e x2 ⟨rfl, hb2⟩
  obtain ⟨hc2, hf2⟩ := bcell hb2
  obtain ⟨k2, l2⟩ := sizes l1 hb2
  go_wp2
  go_ret
  exact ⟨rfl, belowAll (HB.out _ _) hb1 (up k1 hb2)⟩
set_option maxHeartbeats 1000000 in
theorem law_bad (v : Value) (n : Nat) (hold oil wa i o bl : Int) (F : Nat → Nat → Int) (w : World) (hs : Sl w v n F) (h20 : (n : Int) ≤ 20) (hbad : cavB n hold oil F = false)
    (hk : ∀ w, Calls Tryz.prog 21 #[] w fun e w' => e = .returned (.bool true) ∧ Below w.heap.size w w') :
    Calls Tryz.prog 9 #[.agg #[v, .int .i64 hold, .int .i64 oil], .agg #[.int .i64 wa, .int .i64 i, .int .i64 o, .int .i64 bl]] w fun e w' => e = .returned (.bool true) ∧ Below w.heap.size w w' := by
  have hB := fun O O' => ((Below.refl w.heap.size w).alloc (Nat.le_refl _) O).alloc (by simp) O'
  have HB := Lib.hid hB
  clear hB
  have HS := Lib.hid hs
  clear hs
  have HK := Lib.hid hk
  clear hk
  have C := fun w hs => short_any v n hold oil F w hs
  rw [decide_eq_true h20] at C
  have HC := Lib.hid C
  have E := fun w hs => grade_bad v n hold oil wa i o bl F w hs hbad
  simp only [zz] at E
  have HE := Lib.hid E
  have R := fun w hs => rcav_any v n hold oil F w hs
  rw [hbad] at R
  have HR := Lib.hid R
  clear C E R h20 hbad
  go_enter Tryz.func9, Tryz.ntmps9
  go_wp2_with fail
  refine (HC.out _ ((HS.out.alloc _).alloc _)).mono ?_
  rintro e x1 ⟨rfl, hb1⟩
  obtain ⟨hc1, hf1⟩ := bcell hb1
  obtain ⟨k1, l1⟩ := sizes0 hb1
  have S1 := Lib.hid (((HS.out.alloc _).alloc _).below hb1)
  go_wp2_with fail
  refine (HE.out _ S1.out).mono ?_
  rintro e x2 ⟨rfl, hb2⟩
  obtain ⟨hc2, hf2⟩ := bcell hb2
  obtain ⟨k2, l2⟩ := sizes l1 hb2
  have S2 := Lib.hid (S1.out.below hb2)
  go_wp2_with fail
  refine (HR.out _ ((S2.out.alloc _).alloc _)).mono ?_
  rintro e x3 ⟨rfl, hb3⟩
  obtain ⟨hc3, hf3⟩ := bcell hb3
  obtain ⟨k3, l3⟩ := sizesA l2 hb3
  obtain ⟨p3, q3⟩ := sizes0 hb3
  have g3 := belowA hb3
  obtain ⟨hd3, he3⟩ := bcell g3
  go_wp2_with fail
  refine (HK.out _).mono ?_
  rintro e x4 ⟨rfl, hb4⟩
  obtain ⟨hc4, hf4⟩ := bcell hb4
  obtain ⟨k4, l4⟩ := sizes l3 hb4
  obtain ⟨p4, q4⟩ := sizes q3 hb4
  go_wp2
  go_ret
  exact ⟨rfl, belowAll (HB.out _ _) hb1 (((up k1 hb2).trans (up k2 g3)).trans (up k3 hb4))⟩
set_option maxHeartbeats 1000000 in
theorem law_stage (a : Addr) (n cap : Nat) (hold oil wa i o bl : Int) (F : Nat → Nat → Int) (w : World) (hs : Sl w (.slice (some a) n cap) n F) (h20 : (n : Int) ≤ 20) (hn : 1 ≤ n) (hm : n ≤ 9223372036854775807) (hcav : cavB n hold oil F = true) (hbad : stageB n wa i o bl = false)
    (hk : ∀ w, Calls Tryz.prog 21 #[] w fun e w' => e = .returned (.bool true) ∧ Below w.heap.size w w') :
    Calls Tryz.prog 9 #[.agg #[.slice (some a) n cap, .int .i64 hold, .int .i64 oil], .agg #[.int .i64 wa, .int .i64 i, .int .i64 o, .int .i64 bl]] w fun e w' => e = .returned (.bool true) ∧ Below w.heap.size w w' := by
  have hB := fun O O' => ((Below.refl w.heap.size w).alloc (Nat.le_refl _) O).alloc (by simp) O'
  have HB := Lib.hid hB
  clear hB
  have HS := Lib.hid hs
  clear hs
  have HK := Lib.hid hk
  clear hk
  have C := fun w hs => short_any (.slice (some a) n cap) n hold oil F w hs
  rw [decide_eq_true h20] at C
  have HC := Lib.hid C
  have E := fun w hs => grade_bad2 a n cap hold oil wa i o bl F w hs hn hm hcav hbad
  simp only [zz] at E
  have HE := Lib.hid E
  have R := fun w hs => rcav_any (.slice (some a) n cap) n hold oil F w hs
  rw [hcav] at R
  have HR := Lib.hid R
  have T := fun w => stage9_any a n cap hold oil wa i o bl w hn hm
  rw [hbad] at T
  have HT := Lib.hid T
  clear C E R T h20 hbad hcav
  go_enter Tryz.func9, Tryz.ntmps9
  go_wp2_with fail
  refine (HC.out _ ((HS.out.alloc _).alloc _)).mono ?_
  rintro e x1 ⟨rfl, hb1⟩
  obtain ⟨hc1, hf1⟩ := bcell hb1
  obtain ⟨k1, l1⟩ := sizes0 hb1
  have S1 := Lib.hid (((HS.out.alloc _).alloc _).below hb1)
  go_wp2_with fail
  refine (HE.out _ S1.out).mono ?_
  rintro e x2 ⟨rfl, hb2⟩
  obtain ⟨hc2, hf2⟩ := bcell hb2
  obtain ⟨k2, l2⟩ := sizes l1 hb2
  have S2 := Lib.hid (S1.out.below hb2)
  go_wp2_with fail
  refine (HR.out _ ((S2.out.alloc _).alloc _)).mono ?_
  rintro e x3 ⟨rfl, hb3⟩
  obtain ⟨hc3, hf3⟩ := bcell hb3
  obtain ⟨k3, l3⟩ := sizesA l2 hb3
  obtain ⟨p3, q3⟩ := sizes0 hb3
  have g3 := belowA hb3
  obtain ⟨hd3, he3⟩ := bcell g3
  go_wp2_with fail
  refine (HT.out _).mono ?_
  rintro e x4 ⟨rfl, hb4⟩
  obtain ⟨hc4, hf4⟩ := bcell hb4
  obtain ⟨k4, l4⟩ := sizes l3 hb4
  obtain ⟨p4, q4⟩ := sizes q3 hb4
  go_wp2_with fail
  refine (HK.out _).mono ?_
  rintro e x5 ⟨rfl, hb5⟩
  obtain ⟨hc5, hf5⟩ := bcell hb5
  obtain ⟨k5, l5⟩ := sizes l4 hb5
  obtain ⟨p5, q5⟩ := sizes q4 hb5
  go_wp2
  go_ret
  exact ⟨rfl, belowAll (HB.out _ _) hb1 ((((up k1 hb2).trans (up k2 g3)).trans (up k3 hb4)).trans (up k4 hb5))⟩
end Go.Proofs.W

namespace Go.Proofs.W
open Go.RowKit Go.Ev.LG
theorem Begun.below {w w' : World} {b off n cap i j : Nat} {hold oil wa bl : Int} {F : Nat → Nat → Int} (S : Begun w b off n cap i j hold oil wa bl F) (hb : Below w.heap.size w w') : Begun w' b off n cap i j hold oil wa bl F :=
  ⟨S.hs.below hb, S.cav, S.stage⟩
theorem Begun.alloc {w : World} {b off n cap i j : Nat} {hold oil wa bl : Int} {F : Nat → Nat → Int} (S : Begun w b off n cap i j hold oil wa bl F) (O : Obj) : Begun (w.alloc O) b off n cap i j hold oil wa bl F :=
  ⟨S.hs.alloc O, S.cav, S.stage⟩
set_option maxHeartbeats 2000000 in
theorem law_good (b off n cap i j : Nat) (hold oil wa bl : Int) (F : Nat → Nat → Int) (w : World) (S : Begun w b off n cap i j hold oil wa bl F)
    (hk : ∀ w, Calls Tryz.prog 21 #[] w fun e w' => e = .returned (.bool true) ∧ Below w.heap.size w w') :
    Calls Tryz.prog 9 #[.agg #[.slice (some ⟨b, off, none⟩) n cap, .int .i64 hold, .int .i64 oil], .agg #[.int .i64 wa, .int .i64 i, .int .i64 j, .int .i64 bl]] w fun e w' => e = .returned (.bool true) ∧ Below w.heap.size w w' := by
  have hB := fun O O' => ((Below.refl w.heap.size w).alloc (Nat.le_refl _) O).alloc (by simp) O'
  have HB := Lib.hid hB
  clear hB
  have HK := Lib.hid hk
  clear hk
  obtain ⟨⟨hn1, hn2⟩, _⟩ := cav_t S.cav
  have C := fun w hs => short_any (.slice (some ⟨b, off, none⟩) n cap) n hold oil F w hs
  rw [decide_eq_true (show (n : Int) ≤ 20 by omega)] at C
  have HC := Lib.hid C
  have E := fun w (S : Begun w b off n cap i j hold oil wa bl F) => grade_good S
  have E2 := fun w (S : Begun w b off n cap i j hold oil wa bl F) => rgrade_good S
  generalize nums n i j hold wa F 4 = x4, dens n i j hold wa F 4 = y4, nums n i j hold wa F 5 = x5, dens n i j hold wa F 5 = y5 at E E2
  have HE := Lib.hid E
  have R := fun w hs => rcav_any (.slice (some ⟨b, off, none⟩) n cap) n hold oil F w hs
  rw [S.cav] at R
  have HR := Lib.hid R
  have T := fun w => stage9_any ⟨b, off, none⟩ n cap hold oil wa i j bl w hn1 (by omega)
  rw [S.stage] at T
  have HT := Lib.hid T
  have HE2 := Lib.hid E2
  have HS := Lib.hid S
  clear C E R T E2 S
  go_enter Tryz.func9, Tryz.ntmps9
  go_wp2_with fail
  refine (HC.out _ ((HS.out.hs.alloc _).alloc _)).mono ?_
  rintro e x1 ⟨rfl, hb1⟩
  obtain ⟨hc1, hf1⟩ := bcell hb1
  obtain ⟨k1, l1⟩ := sizes0 hb1
  have S1 := Lib.hid (Begun.below (Begun.alloc (Begun.alloc HS.out _) _) hb1)
  go_wp2_with fail
  refine (HE.out _ S1.out).mono ?_
  rintro e x2 ⟨rfl, hb2⟩
  obtain ⟨hc2, hf2⟩ := bcell hb2
  obtain ⟨k2, l2⟩ := sizes l1 hb2
  have S2 := Lib.hid (Begun.below S1.out hb2)
  go_wp2_with fail
  refine (HR.out _ ((S2.out.hs.alloc _).alloc _)).mono ?_
  rintro e x3 ⟨rfl, hb3⟩
  obtain ⟨hc3, hf3⟩ := bcell hb3
  obtain ⟨k3, l3⟩ := sizesA l2 hb3
  obtain ⟨p3, q3⟩ := sizes0 hb3
  have g3 := belowA hb3
  obtain ⟨hd3, he3⟩ := bcell g3
  have S3 := Lib.hid (Begun.below S2.out g3)
  go_wp2_with fail
  refine (HT.out _).mono ?_
  rintro e x4 ⟨rfl, hb4⟩
  obtain ⟨hc4, hf4⟩ := bcell hb4
  obtain ⟨k4, l4⟩ := sizes l3 hb4
  obtain ⟨p4, q4⟩ := sizes q3 hb4
  have S4 := Lib.hid (Begun.below S3.out hb4)
  go_wp2_with fail
  refine (HE2.out _ S4.out).mono ?_
  rintro e x5 ⟨rfl, hb5⟩
  obtain ⟨hc5, hf5⟩ := bcell hb5
  obtain ⟨k5, l5⟩ := sizes l4 hb5
  obtain ⟨p5, q5⟩ := sizes q4 hb5
  go_wp2_with fail
  refine (HK.out _).mono ?_
  rintro e x6 ⟨rfl, hb6⟩
  obtain ⟨hc6, hf6⟩ := bcell hb6
  obtain ⟨k6, l6⟩ := sizesA l5 hb6
  obtain ⟨p6, q6⟩ := sizesA q5 hb6
  obtain ⟨r6, s6⟩ := sizes0 hb6
  have g6 := belowA hb6
  obtain ⟨hd6, he6⟩ := bcell g6
  go_wp2
  go_ret
  exact ⟨rfl, belowAll (HB.out _ _) hb1 (((((up k1 hb2).trans (up k2 g3)).trans (up k3 hb4)).trans (up k4 hb5)).trans (up k5 g6))⟩
end Go.Proofs.W

