import Derived.Test.YtckekpcnpccpmaaGreatRun
set_option linter.unusedVariables false
set_option linter.unusedSimpArgs false
set_option linter.unusedSectionVars false
noncomputable section
namespace Go.Ev.LS
open Go.Proofs.W Go.RowKit
open Go.Ev.LT (specT ratesC specT_bd)

theorem takesC_len {G : Ctx} : ∀ n, (takesC n : List (AV G)).length = n
  | 0 => rfl
  | k + 1 => by simp [takesC, takesC_len k]
theorem takesC_get {G : Ctx} : ∀ (n j : Nat) (a : AV G), (takesC n)[j]? = some a → a = .sx (.v (vT j)) 0 300 ∧ j < n
  | 0, j, a, h => by simp [takesC] at h
  | k + 1, j, a, h => by
    simp only [takesC] at h
    by_cases hj : j < k
    · rw [List.getElem?_append_left (by rw [takesC_len]; exact hj)] at h
      have := takesC_get k j a h
      exact ⟨this.1, by omega⟩
    · rw [List.getElem?_append_right (by rw [takesC_len]; omega), takesC_len] at h
      have h2 : j - k = 0 := by
        have := (List.getElem?_eq_some_iff.1 h).1
        simp at this; omega
      rw [h2] at h; simp at h
      have : j = k := by omega
      subst this; exact ⟨h.symm, by omega⟩

theorem ratesC_at {G : Ctx} : ∀ (n s : Nat), s < n → (ratesC n : List (AV G))[s]? = some (.sx (.v (400 + s)) 0 300)
  | 0, s, h => by omega
  | k + 1, s, h => by
    simp only [ratesC]
    by_cases hs : s < k
    · rw [List.getElem?_append_left (by rw [LT.ratesC_len]; exact hs)]; exact ratesC_at k s hs
    · have : s = k := by omega
      subst this
      rw [List.getElem?_append_right (by rw [LT.ratesC_len]; omega), LT.ratesC_len]
      simp [LT.vR]

theorem inq_spec {G : Ctx} {e : Env G} {n : Nat} {v : Value} (h : VR e (inqA n) v) :
    ∃ b o c, v = .agg #[.slice (some ⟨b, o, none⟩) n c, .int .i64 (valI (e.opq 0)), .int .i64 (valI (e.opq 3)), e.opq 7] ∧ e.φ 0 = some (b, o) ∧ n ≤ c := by
  simp only [inqA, VR, VRs] at h
  obtain ⟨xs, rfl, sv, l1, e1, ⟨b, o, c, h1, rfl, h3, _, _⟩, hv, l2, rfl, ⟨rfl, _⟩, ov, l3, rfl, ⟨rfl, _⟩, fv, l4, rfl, rfl, rfl⟩ := h
  refine ⟨b, o, c, ?_, h1, h3⟩
  obtain ⟨l⟩ := xs
  simp only at e1
  subst e1
  rfl
theorem cav_spec {G : Ctx} {e : Env G} {n : Nat} {v : Value} (h : VR e (cavA n) v) :
    ∃ b o c, v = .agg #[.slice (some ⟨b, o, none⟩) n c, .int .i64 (valI (e.opq 0)), .int .i64 (valI (e.opq 3))] ∧ e.φ 0 = some (b, o) ∧ n ≤ c := by
  simp only [cavA, VR, VRs] at h
  obtain ⟨xs, rfl, sv, l1, e1, ⟨b, o, c, h1, rfl, h3, _, _⟩, hv, l2, rfl, ⟨rfl, _⟩, ov, l3, rfl, ⟨rfl, _⟩, rfl⟩ := h
  refine ⟨b, o, c, ?_, h1, h3⟩
  obtain ⟨l⟩ := xs
  simp only at e1
  subst e1
  rfl
theorem stage_spec {G : Ctx} {e : Env G} {v : Value} (h : VR e stageA v) :
    v = .agg #[.int .i64 (valI (e.opq 1)), .int .i64 (valI (e.opq 8)), .int .i64 (valI (e.opq 9)), .int .i64 (valI (e.opq 2))] := by
  simp only [stageA, VR, VRs] at h
  obtain ⟨xs, rfl, wv, l1, e1, ⟨rfl, _⟩, iv, l2, rfl, ⟨rfl, _⟩, ov, l3, rfl, ⟨rfl, _⟩, bv, l4, rfl, ⟨rfl, _⟩, rfl⟩ := h
  obtain ⟨l⟩ := xs
  simp only at e1
  subst e1
  rfl
theorem rate_spec {G : Ctx} {e : Env G} {n : Nat} {v : Value} (h : VR e (rateA n) v) : ∃ b o c, v = .slice (some ⟨b, o, none⟩) n c ∧ e.φ 1 = some (b, o) ∧ n ≤ c := by
  simp only [rateA, VR] at h
  obtain ⟨b, o, c, h1, rfl, h3, _, _⟩ := h
  exact ⟨b, o, c, rfl, h1, h3⟩

theorem begun_of {n : Nat} {e : Env (ctx n)} {h : AH (ctx n)} {w : World} (H : HR e h w) (hm : memOk n h = true) (hn : n ≤ 10) {b o c b2 o2 c2 : Nat} (h0 : e.φ 0 = some (b, o)) (hc : n ≤ c) (h1 : e.φ 1 = some (b2, o2)) (hc2 : n ≤ c2) :
    ∃ i j : Nat, valI (e.opq 8) = i ∧ valI (e.opq 9) = j ∧ i < n ∧ j < n ∧ i ≠ j ∧ (∀ s, s < n → valI (e.opq (vT s)) = specT (valI (e.opq 0)) (RR n e.opq) i j s) ∧
      LT.Begun w b o c b2 o2 c2 n i j (valI (e.opq 0)) (valI (e.opq 3)) (valI (e.opq 1)) (valI (e.opq 2)) (RR n e.opq) := by
  have hx : Extra n e.opq := e.holds.extra
  obtain ⟨i, j, e1, e2, e3, e4, e5, e6⟩ := hx.io
  simp only [memOk, Bool.and_eq_true] at hm
  obtain ⟨b', o', q1, q2, q3⟩ := H.obj 0 _ (hasF_spec hm.1)
  rw [h0] at q1; cases q1
  obtain ⟨b'', o'', r1, r2, r3⟩ := H.obj 1 _ (hasF_spec hm.2)
  rw [h1] at r1; cases r1
  refine ⟨i, j, e1, e2, e3, e4, e5, e6, ⟨hn, Nat.lt_of_lt_of_le q2 H.base, hc, Nat.lt_of_lt_of_le r2 H.base, hc2, hx.good, hx.oil, hx.wa, hx.bl, e3, e4, fun s hs => ?_⟩⟩
  obtain ⟨v, k1, k2⟩ := r3 s _ (ratesC_at n s hs)
  simp only [VR, SX.eval] at k2
  rw [k1, k2.1]
  simp only [RR, if_pos hs]

theorem row_of {n : Nat} {e : Env (ctx n)} {w w' : World} {i j : Nat} {v : Value} (hx : Extra n e.opq) (ht : ∀ s, s < n → valI (e.opq (vT s)) = specT (valI (e.opq 0)) (RR n e.opq) i j s) (hN : LT.NewInts w n (specT (valI (e.opq 0)) (RR n e.opq) i j) v w') :
    ∃ b c t, Below w.heap.size w w' ∧ w.heap.size ≤ b ∧ w'.heap[b]? = some (.cells c t (0, 0)) ∧ (∀ (k : Nat) (a : AV (ctx n)), (takesC n)[k]? = some a → ∃ u, c[k]? = some u ∧ VR e a u) ∧
      ∀ (e' : Env (ctx n)) id, e.le e' → e'.φ id = some (b, 0) → e'.room id = c.size → VR e' (.slice id 0 n n false) v := by
  obtain ⟨bk, c, t, rfl, q1, q2, q3, q4⟩ := hN
  refine ⟨bk, c, t, q1, q2, q3, fun k a ha => ?_, fun e' id _ hid _ => ?_⟩
  · obtain ⟨rfl, hk⟩ := takesC_get n k a ha
    refine ⟨_, q4 k hk, ?_⟩
    have := specT_bd hx.good i j k
    simp only [VR, SX.eval, ht k hk]
    exact ⟨trivial, this⟩
  · simp only [VR]
    exact ⟨bk, 0, n, hid, rfl, Nat.le_refl _, fun _ => rfl, by simp⟩

theorem K_ok {n : Nat} (hn : n ≤ 10) : ∀ k ∈ K n, k.ok P := by
  intro k hk
  simp only [K, List.mem_cons, List.not_mem_nil, or_false] at hk
  rcases hk with rfl | rfl | rfl | rfl
  · refine KE.row_ok fun e vs w h hp H hv => ?_
    simp only [VRs] at hv
    obtain ⟨v, l, hl, hv1, v2, l2, rfl, hv2, v3, l3, rfl, hv3, rfl⟩ := hv
    obtain ⟨b, o, c, rfl, h0, hc⟩ := inq_spec hv1
    have := stage_spec hv2; subst this
    obtain ⟨b2, o2, c2, rfl, h1, hc2⟩ := rate_spec hv3
    obtain ⟨l⟩ := vs
    simp only at hl; subst hl
    obtain ⟨i, j, e1, e2, e3, e4, e5, e6, S⟩ := begun_of H hp hn h0 hc h1 hc2
    rw [e1, e2]
    refine (LT.takes_good S (e.one 7) (LT.all1 n i j hn e3 e4 e5)).mono fun en w' ⟨v, q1, q2⟩ => ?_
    obtain ⟨b', c', t', r1, r2, r3, r4, r5⟩ := row_of e.holds.extra e6 q2
    exact ⟨v, b', c', t', q1, r1, r2, r3, r4, r5⟩
  · refine KE.row_ok fun e vs w h hp H hv => ?_
    simp only [VRs] at hv
    obtain ⟨v, l, hl, hv1, v2, l2, rfl, hv2, v3, l3, rfl, hv3, rfl⟩ := hv
    obtain ⟨b, o, c, rfl, h0, hc⟩ := cav_spec hv1
    have := stage_spec hv2; subst this
    obtain ⟨b2, o2, c2, rfl, h1, hc2⟩ := rate_spec hv3
    obtain ⟨l⟩ := vs
    simp only at hl; subst hl
    obtain ⟨i, j, e1, e2, e3, e4, e5, e6, S⟩ := begun_of H hp hn h0 hc h1 hc2
    rw [e1, e2]
    refine (LT.take_good S (LT.all2 n i j hn e3 e4 e5)).mono fun en w' ⟨v, q1, q2⟩ => ?_
    obtain ⟨b', c', t', r1, r2, r3, r4, r5⟩ := row_of e.holds.extra e6 q2
    exact ⟨v, b', c', t', q1, r1, r2, r3, r4, r5⟩
  · refine KE.same_ok fun e vs w h hp H hv => ?_
    simp only [VRs, outA, brA, VR, SX.eval] at hv
    obtain ⟨v, l, hl, ⟨rfl, _⟩, v2, l2, rfl, ⟨rfl, _⟩, rfl⟩ := hv
    obtain ⟨l⟩ := vs
    simp only at hl; subst hl
    have hx : Extra n e.opq := e.holds.extra
    obtain ⟨g1, g2, g3, g4, g5⟩ := hx.gcd
    obtain ⟨x, hx1⟩ := Int.eq_ofNat_of_zero_le g1
    obtain ⟨y, hy1⟩ := Int.eq_ofNat_of_zero_le (show 0 ≤ valI (e.opq 581) by omega)
    rw [hx1, hy1] at g5 ⊢
    simp only [Int.toNat_natCast] at g5
    refine (divisor_any x y w (by omega) (by omega)).mono fun en w' ⟨q1, q2⟩ => ?_
    refine ⟨_, q1, ?_, q2⟩
    simp only [VR, SX.eval, g5]
    exact ⟨trivial, by rw [← g5]; exact hx.gpos⟩
  · refine KE.same_ok fun e vs w h hp H hv => ?_
    simp only [VRs, outA, brA, VR, SX.eval] at hv
    obtain ⟨v, l, hl, ⟨rfl, _⟩, v2, l2, rfl, ⟨rfl, _⟩, rfl⟩ := hv
    obtain ⟨l⟩ := vs
    simp only at hl; subst hl
    have hx : Extra n e.opq := e.holds.extra
    obtain ⟨g1, g2, g3, g4, g5⟩ := hx.gcd
    obtain ⟨x, hx1⟩ := Int.eq_ofNat_of_zero_le g1
    obtain ⟨y, hy1⟩ := Int.eq_ofNat_of_zero_le (show 0 ≤ valI (e.opq 581) by omega)
    rw [hx1, hy1] at g5 ⊢
    simp only [Int.toNat_natCast] at g5
    refine (gcd_any y x y w (Nat.le_refl _) (by omega) (by omega)).mono fun en w' ⟨q1, q2⟩ => ?_
    subst q2
    refine ⟨_, q1, ?_, Below.refl _ _⟩
    simp only [VR, SX.eval, g5]
    exact ⟨trivial, by rw [← g5]; exact hx.gpos⟩
end Go.Ev.LS

namespace Go.Ev.LS
open Go.Proofs.W Go.RowKit
open Go.Ev.LT (specT ratesC specT_bd left tk placeOf)

theorem placeOf_eq (i o s : Nat) : placeOf i o s = if o < i then (if o ≤ s ∧ s ≤ i then some (i - s) else none) else (if i ≤ s ∧ s ≤ o then some (s - i) else none) := by
  unfold placeOf
  by_cases h : o < i
  · rw [if_pos h]
    have e1 : Nat.blt o i = true := by simp [Nat.blt]; omega
    rw [e1]
    by_cases h1 : o ≤ s
    · have e2 : Nat.ble o s = true := Nat.ble_eq_true_of_le h1
      rw [e2]
      by_cases h2 : s ≤ i
      · have e3 : Nat.ble s i = true := Nat.ble_eq_true_of_le h2
        rw [e3, if_pos ⟨h1, h2⟩]; rfl
      · have e3 : Nat.ble s i = false := by cases hb : Nat.ble s i with
          | false => rfl
          | true => exact absurd (Nat.le_of_ble_eq_true hb) h2
        rw [e3, if_neg (by omega)]
    · have e2 : Nat.ble o s = false := by cases hb : Nat.ble o s with
        | false => rfl
        | true => exact absurd (Nat.le_of_ble_eq_true hb) h1
      rw [e2, if_neg (by omega)]
  · rw [if_neg h]
    have e1 : Nat.blt o i = false := by cases hb : Nat.blt o i with
      | false => rfl
      | true => simp [Nat.blt] at hb; omega
    rw [e1]
    by_cases h1 : i ≤ s
    · have e2 : Nat.ble i s = true := Nat.ble_eq_true_of_le h1
      rw [e2]
      by_cases h2 : s ≤ o
      · have e3 : Nat.ble s o = true := Nat.ble_eq_true_of_le h2
        rw [e3, if_pos ⟨h1, h2⟩]; rfl
      · have e3 : Nat.ble s o = false := by cases hb : Nat.ble s o with
          | false => rfl
          | true => exact absurd (Nat.le_of_ble_eq_true hb) h2
        rw [e3, if_neg (by omega)]
    · have e2 : Nat.ble i s = false := by cases hb : Nat.ble i s with
        | false => rfl
        | true => exact absurd (Nat.le_of_ble_eq_true hb) h1
      rw [e2, if_neg (by omega)]

section
variable {hold : Int} {R : Nat → Int} {i o : Nat}
def A (hold : Int) (R : Nat → Int) (i o k : Nat) : Int := hold - left hold R i o k
theorem A_step (k : Nat) : A hold R i o (k + 1) = A hold R i o k + tk hold R i o k := by
  simp only [A, left, tk]; omega
theorem A_0 : A hold R i o 0 = 0 := by simp only [A, left]; omega

theorem ST_up (h : ¬ o < i) (x : Nat) : ST (specT hold R i o) x = A hold R i o (min (x - i) (o + 1 - i)) := by
  induction x with
  | zero => rw [show min (0 - i) (o + 1 - i) = 0 by omega, A_0]; rfl
  | succ x ih =>
    simp only [ST, ih, specT, placeOf_eq, if_neg h]
    by_cases hx : i ≤ x ∧ x ≤ o
    · rw [if_pos hx]
      rw [show min (x + 1 - i) (o + 1 - i) = (x - i) + 1 by omega, show min (x - i) (o + 1 - i) = x - i by omega, A_step]
    · rw [if_neg hx]
      rw [show min (x + 1 - i) (o + 1 - i) = min (x - i) (o + 1 - i) by omega]
      simp

theorem ST_down (h : o < i) (x : Nat) : ST (specT hold R i o) x = A hold R i o (i - o + 1) - A hold R i o (i - o + 1 - min (x - o) (i - o + 1)) := by
  induction x with
  | zero => rw [show i - o + 1 - min (0 - o) (i - o + 1) = i - o + 1 by omega]; simp [ST]
  | succ x ih =>
    simp only [ST, ih, specT, placeOf_eq, if_pos h]
    by_cases hx : o ≤ x ∧ x ≤ i
    · rw [if_pos hx]
      rw [show i - o + 1 - min (x + 1 - o) (i - o + 1) = i - x by omega, show i - o + 1 - min (x - o) (i - o + 1) = (i - x) + 1 by omega, A_step (hold := hold) (R := R) (i := i) (o := o) (i - x)]
      simp only; omega
    · rw [if_neg hx]
      rw [show min (x + 1 - o) (i - o + 1) = min (x - o) (i - o + 1) by omega]
      simp

theorem ST_le (g : LT.Good hold R) (x : Nat) : ST (specT hold R i o) x ≤ hold := by
  have hA : ∀ k, 0 ≤ A hold R i o k ∧ A hold R i o k ≤ hold := fun k => by
    have := LT.left_bd (i := i) (o := o) g k
    unfold A; omega
  by_cases h : o < i
  · rw [ST_down h]
    have := hA (i - o + 1); have := hA (i - o + 1 - min (x - o) (i - o + 1)); omega
  · rw [ST_up h]; exact (hA _).2
end

def aux (i j : Nat) (bl oil : Int) (v : Nat) : Int := if v = 2 then bl else if v = 3 then oil else if v = 8 then i else j

/-- The start of a call for the strength of brine. -/
structure Begun (w : World) (b off cap b2 o2 c2 n i j : Nat) (hold oil wa bl : Int) (R : Nat → Int) (F : Nat → Nat → Int) : Prop where
  t : LT.Begun w b off cap b2 o2 c2 n i j hold oil wa bl R
  ne : i ≠ j
  hR : ∀ s, n ≤ s → R s = 0
  hs : SliceAt w b off n F
  rows : ∀ s, s < n → rowB F s = true

theorem span_t {lo hi m : Int} (k : spanB lo hi m = true) : 0 ≤ lo ∧ lo ≤ hi ∧ hi ≤ m := by
  simp only [spanB, Bool.and_eq_true, decide_eq_true_eq] at k
  have := within_t k.1
  exact ⟨this.1, this.2, k.2⟩
theorem row_t {F : Nat → Nat → Int} {s : Nat} (k : rowB F s = true) : (0 ≤ F s 0 ∧ F s 0 ≤ F s 1 ∧ F s 1 ≤ 10000000000000) ∧ (1000 ≤ F s 2 ∧ F s 2 ≤ 3000) ∧ (0 ≤ F s 3 ∧ F s 3 ≤ F s 2 - 1) ∧ (0 ≤ F s 4 ∧ F s 4 ≤ F s 5 ∧ F s 5 ≤ 300) ∧ (0 ≤ F s 6 ∧ F s 6 ≤ 10000000000000) := by
  simp only [rowB, sliceB, Bool.and_eq_true] at k
  obtain ⟨⟨⟨⟨k1, k2⟩, k3⟩, k4⟩, k5⟩ := k
  exact ⟨span_t k1, within_t k2, within_t k3, span_t k4, within_t k5⟩

section
variable {w : World} {b off cap b2 o2 c2 n i j : Nat} {hold oil wa bl : Int} {R : Nat → Int} {F : Nat → Nat → Int} (S : Begun w b off cap b2 o2 c2 n i j hold oil wa bl R F)
include S
theorem Begun.fine : Fine n hold wa (specT hold R i j) F :=
  ⟨⟨S.t.g.h1, S.t.g.h2⟩, S.t.wa, fun s => specT_bd S.t.g i j s, fun s _ => ST_le S.t.g s, fun s hs => (row_t (S.rows s hs)).2.1, fun s hs => (row_t (S.rows s hs)).2.2.1⟩

theorem Begun.rr {fv : Value} : RR n (vals fv hold wa (aux i j bl oil) R (specT hold R i j) F n) = R := by
  funext s
  unfold RR
  have hn := S.t.n10
  split
  · rw [valI_vals (by omega), val_R (by omega)]
  · rw [S.hR s (by omega)]

theorem Begun.extra {fv : Value} : Extra n (vals fv hold wa (aux i j bl oil) R (specT hold R i j) F n) := by
  have hn := S.t.n10
  have f := S.fine
  have b1 := OUT_bd f
  have b2 := BR_bd f
  have b3 := GG_bd f
  have v1 : valI (vals fv hold wa (aux i j bl oil) R (specT hold R i j) F n 584) = OUT hold wa (specT hold R i j) F n := ev_E (j := 4) (by omega)
  have v2 : valI (vals fv hold wa (aux i j bl oil) R (specT hold R i j) F n 581) = BR wa (specT hold R i j) F n := ev_E (j := 1) (by omega)
  have v3 : valI (vals fv hold wa (aux i j bl oil) R (specT hold R i j) F n 585) = GG hold wa (specT hold R i j) F n := ev_E (j := 5) (by omega)
  refine ⟨?_, S.t.oil, S.t.wa, S.t.bl, ⟨i, j, rfl, rfl, S.t.hi, S.t.ho, S.ne, fun s hs => ?_⟩, ?_, ?_⟩
  · rw [S.rr]; exact S.t.g
  · rw [S.rr, ev_T (by omega)]; rfl
  · rw [v1, v2, v3]; exact ⟨b1.1, b1.2, b2.1, b2.2, rfl⟩
  · rw [v3]; exact b3

theorem Begun.holds {fv : Value} : (ctx n).holds (vals fv hold wa (aux i j bl oil) R (specT hold R i j) F n) :=
  ⟨fun x v lo hi hm => by
    rcases List.mem_append.1 hm with hm | hm
    · exact entsE_ok S.fine x v lo hi hm
    · exact entsTo_ok S.fine S.t.n10 (Nat.le_refl n) x v lo hi hm, (by intro _ _ _ h; cases h), (by intro _ _ _ h; cases h), S.extra⟩
end

theorem sliceC_bd {G : Ctx} {F : Nat → Nat → Int} {s r : Nat} (hr : r < 7) (hrow : rowB F s = true) : ∃ lo hi, (sliceC s : List (AV G))[r]? = some (.sx (.v (vF s r)) lo hi) ∧ lo ≤ F s r ∧ F s r ≤ hi := by
  obtain ⟨h0, h2, h3, h4, h6⟩ := row_t hrow
  match r, hr with
  | 0, _ => exact ⟨_, _, rfl, by omega, by omega⟩
  | 1, _ => exact ⟨_, _, rfl, by omega, by omega⟩
  | 2, _ => exact ⟨_, _, rfl, by omega, by omega⟩
  | 3, _ => exact ⟨_, _, rfl, by omega, by omega⟩
  | 4, _ => exact ⟨_, _, rfl, by omega, by omega⟩
  | 5, _ => exact ⟨_, _, rfl, by omega, by omega⟩
  | 6, _ => exact ⟨_, _, rfl, by omega, by omega⟩

theorem slicesC_at {G : Ctx} : ∀ (n s q r : Nat), q < n → r < 7 → (slicesC n s : List (AV G))[q * 7 + r]? = (sliceC (s + q))[r]?
  | 0, _, _, _, h, _ => by omega
  | n + 1, s, 0, r, _, hr => by
    simp only [slicesC, Nat.zero_mul, Nat.zero_add, Nat.add_zero]
    rw [List.getElem?_append_left (by simp [sliceC]; omega)]
  | n + 1, s, q + 1, r, hq, hr => by
    simp only [slicesC]
    rw [List.getElem?_append_right (by simp [sliceC]; omega)]
    have e1 : (q + 1) * 7 + r - (sliceC s : List (AV G)).length = q * 7 + r := by simp [sliceC]; omega
    rw [e1, slicesC_at n (s + 1) q r (by omega) hr]
    congr 1
    congr 1
    omega

theorem slicesC_len {G : Ctx} : ∀ (n s : Nat), (slicesC n s : List (AV G)).length = n * 7
  | 0, _ => rfl
  | n + 1, s => by simp only [slicesC, List.length_append, slicesC_len n]; simp [sliceC]; omega

section
variable {w : World} {b off cap b2 o2 c2 n i j : Nat} {hold oil wa bl : Int} {R : Nat → Int} {F : Nat → Nat → Int} (S : Begun w b off cap b2 o2 c2 n i j hold oil wa bl R F) {fv : Value} (hfv : fv.oneCell' = true)
include S hfv
omit S in
theorem vals_one (v : Nat) : (vals fv hold wa (aux i j bl oil) R (specT hold R i j) F n v).oneCell' = true := by
  unfold vals; split
  · exact hfv
  · rfl
def Begun.env : Env (ctx n) := frnEnv (vals fv hold wa (aux i j bl oil) R (specT hold R i j) F n) (vals_one hfv) S.holds [⟨b, off, cap * 7⟩, ⟨b2, o2, c2⟩] w.heap.size

theorem Begun.hr : HR (S.env hfv) (frnH [slicesC n 0, ratesC n]) w := by
  have hn := S.t.n10
  refine HR.frn _ _ rfl fun x c p hx hp => ?_
  match x, hx, hp with
  | 0, hx, hp =>
    simp at hx hp; subst hx hp
    refine ⟨S.t.hb, fun k a ha => ?_⟩
    have hk : k < n * 7 := by
      have := (List.getElem?_eq_some_iff.1 ha).1
      rw [slicesC_len] at this; exact this
    have hq : k / 7 < n := by omega
    have hr : k % 7 < 7 := by omega
    have hk' : k = k / 7 * 7 + k % 7 := by omega
    obtain ⟨lo, hi, g1, g2, g3⟩ := sliceC_bd (G := ctx n) hr (S.rows _ hq)
    have hat := slicesC_at (G := ctx n) n 0 (k / 7) (k % 7) hq hr
    rw [← hk', Nat.zero_add, g1] at hat
    rw [hat] at ha
    cases ha
    have hc := S.hs (k / 7) (k % 7) hq hr
    rw [← hk'] at hc
    refine ⟨_, hc, ?_⟩
    simp only [VR, SX.eval, frnEnv]
    rw [ev_F (by omega) hr]
    exact ⟨rfl, g2, g3⟩
  | 1, hx, hp =>
    simp at hx hp; subst hx hp
    refine ⟨S.t.hb2, fun k a ha => ?_⟩
    obtain ⟨rfl, hk⟩ := LT.ratesC_get n k a ha
    refine ⟨_, S.t.rates k hk, ?_⟩
    have := S.t.g.r k
    simp only [VR, SX.eval, frnEnv, LT.vR]
    rw [valI_vals (by omega), val_R (by omega)]
    exact ⟨rfl, this⟩
  | x + 2, hx, _ => simp at hx

theorem Begun.stage : VR (S.env hfv) stageA (.agg #[.int .i64 wa, .int .i64 i, .int .i64 j, .int .i64 bl]) := by
  have h1 := S.t.hi; have h2 := S.t.ho; have h3 := S.t.n10
  have v8 : valI (vals fv hold wa (aux i j bl oil) R (specT hold R i j) F n 8) = i := rfl
  have v9 : valI (vals fv hold wa (aux i j bl oil) R (specT hold R i j) F n 9) = j := rfl
  simp only [VRs, stageA, VR, SX.eval, Begun.env, frnEnv]
  refine ⟨_, rfl, _, _, rfl, ⟨rfl, S.t.wa⟩, _, _, rfl, ⟨rfl, ?_, ?_⟩, _, _, rfl, ⟨rfl, ?_, ?_⟩, _, _, rfl, ⟨rfl, S.t.bl⟩, rfl⟩ <;> (first | rw [v8] | rw [v9]) <;> omega

theorem Begun.rate : VR (S.env hfv) (rateA n) (.slice (some ⟨b2, o2, none⟩) n c2) := by
  simp only [rateA, VR, Begun.env, frnEnv]
  exact ⟨b2, o2, c2, by simp, rfl, S.t.hc2, by simp, fun _ _ => by simp⟩

theorem Begun.inq : VR (S.env hfv) (inqA n) (.agg #[.slice (some ⟨b, off, none⟩) n cap, .int .i64 hold, .int .i64 oil, fv]) := by
  simp only [VRs, inqA, VR, SX.eval, Begun.env, frnEnv]
  exact ⟨_, rfl, _, _, rfl, ⟨b, off, cap, by simp, rfl, S.t.hcap, by simp, fun _ _ => by simp⟩, _, _, rfl, ⟨rfl, S.t.g.h1, S.t.g.h2⟩, _, _, rfl, ⟨rfl, S.t.oil⟩, _, _, rfl, by simp [vals], rfl⟩

theorem Begun.cav : VR (S.env hfv) (cavA n) (.agg #[.slice (some ⟨b, off, none⟩) n cap, .int .i64 hold, .int .i64 oil]) := by
  simp only [VRs, cavA, VR, SX.eval, Begun.env, frnEnv]
  exact ⟨_, rfl, _, _, rfl, ⟨b, off, cap, by simp, rfl, S.t.hcap, by simp, fun _ _ => by simp⟩, _, _, rfl, ⟨rfl, S.t.g.h1, S.t.g.h2⟩, _, _, rfl, ⟨rfl, S.t.oil⟩, rfl⟩
end

/-- The strength, as a fraction. -/
def num (hold wa : Int) (T : Nat → Int) (F : Nat → Nat → Int) (n : Nat) : Int := (OUT hold wa T F n).tdiv (GG hold wa T F n)
def den (hold wa : Int) (T : Nat → Int) (F : Nat → Nat → Int) (n : Nat) : Int := (BR wa T F n).tdiv (GG hold wa T F n)

def FracB (x y : Int) : Prop := (0 ≤ x ∧ x ≤ 300000000000000) ∧ (0 ≤ y ∧ y ≤ 1000000000000)

theorem okFrac_spec {G : Ctx} {r : Option (Res G)} (k : okFrac r = true) : ∃ h, r = some (.ret fracA h) := by
  unfold okFrac at k
  split at k
  · rename_i v h; rw [sameA_eq k]; exact ⟨h, rfl⟩
  · cases k

section
variable {w : World} {b off cap b2 o2 c2 n i j : Nat} {hold oil wa bl : Int} {R : Nat → Int} {F : Nat → Nat → Int} (S : Begun w b off cap b2 o2 c2 n i j hold oil wa bl R F)
include S
theorem frac_of {fv : Value} (hfv : fv.oneCell' = true) {e' : Env (ctx n)} {h' : AH (ctx n)} {w' : World} {v : Value} (St' : St (S.env hfv) (frnH [slicesC n 0, ratesC n]) w e' h' w') (hv : VR e' fracA v) :
    v = .agg #[.int .i64 (num hold wa (specT hold R i j) F n), .int .i64 (den hold wa (specT hold R i j) F n)] ∧ FracB (num hold wa (specT hold R i j) F n) (den hold wa (specT hold R i j) F n) ∧ Below w.heap.size w w' := by
  have he : e'.opq = vals fv hold wa (aux i j bl oil) R (specT hold R i j) F n := St'.le.opq
  rw [← and_assoc]
  refine ⟨?_, St'.below (S.hr hfv)⟩
  have v1 : valI (vals fv hold wa (aux i j bl oil) R (specT hold R i j) F n 586) = num hold wa (specT hold R i j) F n := ev_E (j := 6) (by omega)
  have v2 : valI (vals fv hold wa (aux i j bl oil) R (specT hold R i j) F n 587) = den hold wa (specT hold R i j) F n := ev_E (j := 7) (by omega)
  simp only [fracA, VR, VRs, SX.eval, he, v1, v2] at hv
  obtain ⟨xs, rfl, x1, l1, e1, ⟨rfl, g1⟩, x2, l2, rfl, ⟨rfl, g2⟩, rfl⟩ := hv
  obtain ⟨l⟩ := xs
  simp only at e1; subst e1; exact ⟨rfl, g1, g2⟩

theorem strength_good {fv : Value} (hfv : fv.oneCell' = true) (hc : chk3 n = true) :
    Calls P 124 #[.agg #[.slice (some ⟨b, off, none⟩) n cap, .int .i64 hold, .int .i64 oil, fv], .agg #[.int .i64 wa, .int .i64 i, .int .i64 j, .int .i64 bl], .slice (some ⟨b2, o2, none⟩) n c2] w
      fun e w' => e = .returned (.agg #[.int .i64 (num hold wa (specT hold R i j) F n), .int .i64 (den hold wa (specT hold R i j) F n)]) ∧ FracB (num hold wa (specT hold R i j) F n) (den hold wa (specT hold R i j) F n) ∧ Below w.heap.size w w' := by
  obtain ⟨h', hr⟩ := okFrac_spec hc
  have k := evK_sound P (K_ok S.t.n10) 20000 _ _ hr
  refine (callsIn_wide (n := 0)).1 (k (S.env hfv) _ w 0 _ (S.hr hfv) ?_ (fun e' v' w' St' hv => ?_))
  · simp only [VRs]
    exact ⟨_, _, rfl, S.inq hfv, _, _, rfl, S.stage hfv, _, _, rfl, S.rate hfv, rfl⟩
  · obtain ⟨rfl, q2⟩ := frac_of S hfv St' hv
    exact ⟨rfl, q2⟩

theorem rstrength_good (hc : chk4 n = true) :
    Calls P 82 #[.agg #[.slice (some ⟨b, off, none⟩) n cap, .int .i64 hold, .int .i64 oil], .agg #[.int .i64 wa, .int .i64 i, .int .i64 j, .int .i64 bl], .slice (some ⟨b2, o2, none⟩) n c2] w
      fun e w' => e = .returned (.agg #[.int .i64 (num hold wa (specT hold R i j) F n), .int .i64 (den hold wa (specT hold R i j) F n)]) ∧ FracB (num hold wa (specT hold R i j) F n) (den hold wa (specT hold R i j) F n) ∧ Below w.heap.size w w' := by
  obtain ⟨h', hr⟩ := okFrac_spec hc
  have k := evK_sound P (K_ok S.t.n10) 20000 _ _ hr
  have hfv : (Value.bool true).oneCell' = true := rfl
  refine (callsIn_wide (n := 0)).1 (k (S.env hfv) _ w 0 _ (S.hr hfv) ?_ (fun e' v' w' St' hv => ?_))
  · simp only [VRs]
    exact ⟨_, _, rfl, S.cav hfv, _, _, rfl, S.stage hfv, _, _, rfl, S.rate hfv, rfl⟩
  · obtain ⟨rfl, q2⟩ := frac_of S hfv St' hv
    exact ⟨rfl, q2⟩
end
end Go.Ev.LS

namespace Go.Ev.LG
open Go.Ev.LS (vF slicesC sliceC cavA stageA num den)
open Go.Ev.LT (specT)

noncomputable abbrev P : Program := Go.Proofs.Tryz.prog

/-- A field of a slice, out of the variables; 0 behind the end. -/
def FF (n : Nat) (o : Nat → Value) (r s : Nat) : Int := if s < n then valI (o (vF s r)) else 0
def F7 (n : Nat) (o : Nat → Value) (s r : Nat) : Int := if s < n ∧ r < 7 then valI (o (vF s r)) else 0

structure Extra (n : Nat) (o : Nat → Value) : Prop where
  n1 : 1 ≤ n
  n10 : n ≤ 10
  hold : 1 ≤ valI (o 0) ∧ valI (o 0) ≤ 300
  oil : 0 ≤ valI (o 3) ∧ valI (o 3) ≤ 10000000000000
  wa : 1 ≤ valI (o 1) ∧ valI (o 1) ≤ 1000000
  bl : 0 ≤ valI (o 2) ∧ valI (o 2) ≤ n
  rows : ∀ s, s < n → Go.Proofs.W.rowB (F7 n o) s = true
  io : ∃ i j : Nat, valI (o 8) = i ∧ valI (o 9) = j ∧ i < n ∧ j < n ∧ i ≠ j ∧
    valI (o 590) = num (valI (o 0)) (valI (o 1)) (specT (valI (o 0)) (FF n o 4) i j) (F7 n o) n ∧
    valI (o 591) = den (valI (o 0)) (valI (o 1)) (specT (valI (o 0)) (FF n o 4) i j) (F7 n o) n ∧
    valI (o 592) = num (valI (o 0)) (valI (o 1)) (specT (valI (o 0)) (FF n o 5) i j) (F7 n o) n ∧
    valI (o 593) = den (valI (o 0)) (valI (o 1)) (specT (valI (o 0)) (FF n o 5) i j) (F7 n o) n

def ctx (n : Nat) : Ctx := ⟨[], [], [], Extra n⟩

def cls (a b : Nat) {G : Ctx} : AV G := .func (.func 110) [] [.ptr a 0, .ptr b 0]
def inqG {G : Ctx} (n : Nat) : AV G := .agg [.slice 0 0 n 7 true, .sx (.v 0) 1 300, .sx (.v 3) 0 10000000000000, cls 11 9]
def rateG {G : Ctx} (id n : Nat) : AV G := .slice id 0 n 1 true
def colC {G : Ctx} (r : Nat) : Nat → List (AV G)
  | 0 => []
  | s + 1 => colC r s ++ [.sx (.v (vF s r)) 0 300]
def fracG {G : Ctx} (v : Nat) : AV G := .agg [.sx (.v v) 0 300000000000000, .sx (.v (v + 1)) 0 1000000000000]

def hasR (id : Nat) {G : Ctx} (cs : List (AV G)) (h : AH G) : Bool :=
  match h.objs.get id with
  | some (.cells vs (some _)) => samesA vs cs
  | _ => false
def memG {G : Ctx} (n id r : Nat) (h : AH G) : Bool := hasF 0 (slicesC n 0) h && hasR id (colC r n) h

def K (n : Nat) : List (KE (ctx n)) :=
  [KE.same 79 [cavA n] (hasF 0 (slicesC n 0)) (.bool true), KE.same 80 [cavA n, stageA] (fun _ => true) (.bool true),
   KE.same 124 [inqG n, stageA, rateG (13 + 5 * n) n] (memG n (13 + 5 * n) 4) (fracG 590), KE.same 124 [inqG n, stageA, rateG (15 + 5 * n) n] (memG n (15 + 5 * n) 5) (fracG 592),
   KE.same 82 [cavA n, stageA, rateG (5 + 2 * n) n] (memG n (5 + 2 * n) 4) (fracG 590), KE.same 82 [cavA n, stageA, rateG (6 + 4 * n) n] (memG n (6 + 4 * n) 5) (fracG 592)]

def okG {G : Ctx} : Option (Res G) → Bool
  | some (.ret v _) => sameA v (.tuple [fracG 590, fracG 592, .int .i64 0])
  | _ => false
def okR {G : Ctx} : Option (Res G) → Bool
  | some (.ret v _) => sameA v (.tuple [fracG 590, fracG 592])
  | _ => false
def chk5 (n : Nat) : Bool := okG (evK P (K n) (drawA P) 20000 (.call 38 [cavA n, stageA] (frnH [slicesC n 0])))
def chk6 (n : Nat) : Bool := okR (evK P (K n) (drawA P) 20000 (.call 39 [cavA n, stageA] (frnH [slicesC n 0])))
end Go.Ev.LG

