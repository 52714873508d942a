import Derived.Test.YtckekpcnpccpmaaGreatEvE
import Derived.Test.YtckekpcnpccpmaaGreatWalks
set_option linter.unusedVariables false
set_option linter.unusedSimpArgs false
set_option linter.unusedSectionVars false
noncomputable section
namespace Go.Ev.LT

/-! ### What a cubic metre of water takes from the slices of its path -/
def pAt (i o k : Nat) : Nat := if o < i then i - k else i + k
def pLen (i o : Nat) : Nat := (if o < i then i - o else o - i) + 1
def mn (x y : Int) : Int := if y < x then y else x

section
variable (hold : Int) (R : Nat → Int) (i o : Nat)
def left : Nat → Int
  | 0 => hold
  | k + 1 => left k - mn (R (pAt i o k)) (left k)
def tk (k : Nat) : Int := mn (R (pAt i o k)) (left hold R i o k)
structure Good : Prop where
  h1 : 1 ≤ hold
  h2 : hold ≤ 300
  r : ∀ s, 0 ≤ R s ∧ R s ≤ 300
end

section
variable {hold : Int} {R : Nat → Int} {i o : Nat} (g : Good hold R)
include g
theorem left_bd (k : Nat) : 0 ≤ left hold R i o k ∧ left hold R i o k ≤ hold := by
  induction k with
  | zero => exact ⟨by have := g.h1; simp only [left]; omega, Int.le_refl _⟩
  | succ k ih =>
    have := g.r (pAt i o k)
    simp only [left, mn]
    split <;> omega
theorem tk_bd (k : Nat) : 0 ≤ tk hold R i o k ∧ tk hold R i o k ≤ 300 := by
  have := g.r (pAt i o k)
  have := left_bd (i := i) (o := o) g k
  simp only [tk, mn]
  split <;> omega
end

/-! ### The variables -/
def vR (s : Nat) : Nat := 400 + s
def vQ (k j : Nat) : Nat := 500 + 10 * k + j
def tab (hold : Int) (R : Nat → Int) (i o k j : Nat) : Int :=
  match j with
  | 0 => left hold R i o k
  | 1 => tk hold R i o k
  | _ => hold - left hold R i o k
def val (hold : Int) (a : Nat → Int) (R : Nat → Int) (i o v : Nat) : Int :=
  if v = 0 then hold else if v < 10 then a v else if v < 500 then R (v - 400) else tab hold R i o ((v - 500) / 10) ((v - 500) % 10)
def vals (fv : Value) (hold : Int) (a : Nat → Int) (R : Nat → Int) (i o v : Nat) : Value := if v = 7 then fv else .int .i64 (val hold a R i o v)

def leftX (k : Nat) : SX := .v (if k = 0 then 0 else vQ k 0)
def leftV (k : Nat) : Nat := if k = 0 then 0 else vQ k 0
def hasX (k : Nat) : SX := if k = 0 then .c 0 else .v (vQ k 2)
def entsAt (i o k : Nat) : List (SX × Nat × Int × Int) :=
  [(.bin 3 (.v (vR (pAt i o k))) (leftX k), vQ k 1, 0, 300), (.bin 1 (leftX k) (.v (vQ k 1)), vQ (k + 1) 0, 0, 300),
   (.bin 1 (.v 0) (hasX k), leftV k, 0, 300), (.bin 0 (hasX k) (.v (vQ k 1)), vQ (k + 1) 2, 0, 300)]
def entsTo (i o : Nat) : Nat → List (SX × Nat × Int × Int)
  | 0 => []
  | k + 1 => entsAt i o k ++ entsTo i o k
def ctx (i o : Nat) : Ctx := ⟨entsTo i o (pLen i o), [], [], fun _ => True⟩

section
variable {fv : Value} {hold : Int} {a : Nat → Int} {R : Nat → Int} {i o : Nat}
theorem valI_vals {v : Nat} (h : v ≠ 7) : valI (vals fv hold a R i o v) = val hold a R i o v := by unfold vals; rw [if_neg h]; rfl
theorem val_R {s : Nat} (hs : s < 100) : val hold a R i o (vR s) = R s := by
  unfold val vR
  rw [if_neg (by omega), if_neg (by omega), if_pos (by omega), Nat.add_sub_cancel_left]
theorem val_Q {k j : Nat} (hj : j < 10) : val hold a R i o (vQ k j) = tab hold R i o k j := by
  unfold val vQ
  rw [if_neg (by omega), if_neg (by omega), if_neg (by omega)]
  have h1 : (500 + 10 * k + j - 500) / 10 = k := by omega
  have h2 : (500 + 10 * k + j - 500) % 10 = j := by omega
  rw [h1, h2]
theorem val_leftV (k : Nat) : val hold a R i o (leftV k) = left hold R i o k := by
  unfold leftV
  split
  · rename_i h; subst h; rfl
  · exact val_Q (j := 0) (by omega)
theorem eval_Q {k j : Nat} (hj : j < 10) : (SX.v (vQ k j)).eval (vals fv hold a R i o) = tab hold R i o k j := by
  simp only [SX.eval]; rw [valI_vals (by unfold vQ; omega), val_Q hj]
theorem eval_left (k : Nat) : (leftX k).eval (vals fv hold a R i o) = left hold R i o k := by
  unfold leftX
  split
  · rename_i h; subst h; rfl
  · exact eval_Q (j := 0) (by omega)
theorem eval_has (k : Nat) : (hasX k).eval (vals fv hold a R i o) = hold - left hold R i o k := by
  unfold hasX
  split
  · rename_i h; subst h; simp only [SX.eval, left]; omega
  · exact eval_Q (j := 2) (by omega)
theorem eval_R {s : Nat} (hs : s < 100) : (SX.v (vR s)).eval (vals fv hold a R i o) = R s := by
  simp only [SX.eval]; rw [valI_vals (by unfold vR; omega), val_R hs]

theorem ents_ok (g : Good hold R) {k : Nat} (hp : pAt i o k < 100) : ∀ x v lo hi, (x, v, lo, hi) ∈ entsAt i o k → x.eval (vals fv hold a R i o) = valI (vals fv hold a R i o v) ∧ lo ≤ valI (vals fv hold a R i o v) ∧ valI (vals fv hold a R i o v) ≤ hi := by
  intro x v lo hi hm
  have b0 := left_bd (i := i) (o := o) g k
  have b1 := left_bd (i := i) (o := o) g (k + 1)
  have b2 := tk_bd (i := i) (o := o) g k
  have h2 := g.h2
  have n1 : ∀ k j, vQ k j ≠ 7 := fun k j => by unfold vQ; omega
  simp only [entsAt, List.mem_cons, Prod.mk.injEq, List.not_mem_nil, or_false] at hm
  rcases hm with ⟨rfl, rfl, rfl, rfl⟩ | ⟨rfl, rfl, rfl, rfl⟩ | ⟨rfl, rfl, rfl, rfl⟩ | ⟨rfl, rfl, rfl, rfl⟩
  · rw [valI_vals (n1 _ _), val_Q (by omega)]
    refine ⟨?_, b2⟩
    have e1 := eval_R (fv := fv) (hold := hold) (a := a) (R := R) (i := i) (o := o) hp
    have e2 := eval_left (fv := fv) (hold := hold) (a := a) (R := R) (i := i) (o := o) k
    simp only [SX.eval] at e1 ⊢
    rw [e1, e2]; rfl
  · rw [valI_vals (n1 _ _), val_Q (by omega)]
    refine ⟨?_, b1.1, Int.le_trans b1.2 h2⟩
    have e1 := eval_Q (fv := fv) (hold := hold) (a := a) (R := R) (i := i) (o := o) (k := k) (j := 1) (by omega)
    have e2 := eval_left (fv := fv) (hold := hold) (a := a) (R := R) (i := i) (o := o) k
    simp only [SX.eval] at e1 ⊢
    rw [e1, e2]; rfl
  · have n2 : leftV k ≠ 7 := by unfold leftV; split <;> (try unfold vQ) <;> omega
    rw [valI_vals n2, val_leftV]
    refine ⟨?_, b0.1, Int.le_trans b0.2 h2⟩
    have e2 := eval_has (fv := fv) (hold := hold) (a := a) (R := R) (i := i) (o := o) k
    have e3 : (SX.v 0).eval (vals fv hold a R i o) = hold := rfl
    simp only [SX.eval] at e3 ⊢
    rw [e2, e3]
    show hold - (hold - _) = _
    omega
  · rw [valI_vals (n1 _ _), val_Q (by omega)]
    have e1 := eval_Q (fv := fv) (hold := hold) (a := a) (R := R) (i := i) (o := o) (k := k) (j := 1) (by omega)
    have e2 := eval_has (fv := fv) (hold := hold) (a := a) (R := R) (i := i) (o := o) k
    have e4 : left hold R i o (k + 1) = left hold R i o k - tk hold R i o k := rfl
    refine ⟨?_, ?_, ?_⟩
    · simp only [SX.eval] at e1 ⊢
      rw [e1, e2]
      show (hold - _) + tk hold R i o k = hold - _
      omega
    · show 0 ≤ hold - _; omega
    · show hold - _ ≤ 300; omega

theorem entsTo_ok (g : Good hold R) : ∀ {m : Nat}, (∀ k, k < m → pAt i o k < 100) → ∀ x v lo hi, (x, v, lo, hi) ∈ entsTo i o m → x.eval (vals fv hold a R i o) = valI (vals fv hold a R i o v) ∧ lo ≤ valI (vals fv hold a R i o v) ∧ valI (vals fv hold a R i o v) ≤ hi
  | 0, _, _, _, _, _, h => by cases h
  | m + 1, hp, x, v, lo, hi, h => by
    simp only [entsTo, List.mem_append] at h
    rcases h with h | h
    · exact ents_ok g (hp m (by omega)) x v lo hi h
    · exact entsTo_ok g (fun k hk => hp k (by omega)) x v lo hi h

theorem holds (g : Good hold R) (hi : i < 10) (ho : o < 10) : (ctx i o).holds (vals fv hold a R i o) :=
  ⟨entsTo_ok g (fun k hk => by unfold pAt; unfold pLen at hk; split at hk <;> split <;> omega), (by intro _ _ _ h; cases h), (by intro _ _ _ h; cases h), trivial⟩
end

/-! ### What is run -/
def ratesC {G : Ctx} : Nat → List (AV G)
  | 0 => []
  | s + 1 => ratesC s ++ [.sx (.v (vR s)) 0 300]
def cavA {G : Ctx} (n : Nat) : AV G := .agg [.slice 0 0 n 7 true, .sx (.v 0) 1 300, .sx (.v 3) 0 10000000000000]
def inqA {G : Ctx} (n : Nat) : AV G := .agg [.slice 0 0 n 7 true, .sx (.v 0) 1 300, .sx (.v 3) 0 10000000000000, .opq 7]
def stageA {G : Ctx} (i o : Nat) : AV G := .agg [.sx (.v 1) 1 1000000, .int .i64 (Int.ofNat i), .int .i64 (Int.ofNat o), .sx (.v 2) 0 10]
def placeOf (i o s : Nat) : Option Nat :=
  Bool.rec (Bool.rec none (Bool.rec none (some (Nat.sub s i)) (Nat.ble s o)) (Nat.ble i s)) (Bool.rec none (Bool.rec none (some (Nat.sub i s)) (Nat.ble s i)) (Nat.ble o s)) (Nat.blt o i)
def cellT {G : Ctx} (i o s : Nat) : AV G := match placeOf i o s with
  | some k => .sx (.v (vQ k 1)) 0 300
  | none => .int .i64 0
def outC {G : Ctx} (i o : Nat) : Nat → Nat → List (AV G)
  | 0, _ => []
  | n + 1, s => cellT i o s :: outC i o n (s + 1)
def rowIs {G : Ctx} (n : Nat) (cs : List (AV G)) (h : AH G) : AV G → Bool
  | .slice id 0 n' c false => Nat.beq n' n && Nat.beq c n && (match h.objs.get id with
    | some (.cells vs (some _)) => samesA vs cs
    | _ => false)
  | _ => false
def okRow {G : Ctx} (n : Nat) (cs : List (AV G)) : Option (Res G) → Bool
  | some (.ret v h) => rowIs n cs h v
  | _ => false
end Go.Ev.LT

namespace Go.Ev.LT
open Go.Proofs.W Go.RowKit

noncomputable abbrev P : Program := Go.Proofs.Tryz.prog

theorem ratesC_len {G : Ctx} : ∀ n, (ratesC n : List (AV G)).length = n
  | 0 => rfl
  | k + 1 => by simp [ratesC, ratesC_len k]
theorem ratesC_get {G : Ctx} : ∀ (n j : Nat) (a : AV G), (ratesC n)[j]? = some a → a = .sx (.v (vR j)) 0 300 ∧ j < n
  | 0, j, a, h => by simp [ratesC] at h
  | k + 1, j, a, h => by
    simp only [ratesC] at h
    by_cases hj : j < k
    · rw [List.getElem?_append_left (by rw [ratesC_len]; exact hj)] at h
      have := ratesC_get k j a h
      exact ⟨this.1, by omega⟩
    · rw [List.getElem?_append_right (by rw [ratesC_len]; omega), ratesC_len] at h
      have h2 : j - k = 0 := by
        have := (List.getElem?_eq_some_iff.1 h).1
        simp at this; omega
      rw [h2] at h; simp at h
      have : j = k := by omega
      subst this; exact ⟨h.symm, by omega⟩

theorem outC_at {G : Ctx} {i o : Nat} : ∀ (n s q : Nat), q < n → (outC i o n s : List (AV G))[q]? = some (cellT i o (s + q))
  | 0, _, _, h => by omega
  | n + 1, s, 0, _ => by simp [outC]
  | n + 1, s, q + 1, h => by
    have := outC_at (G := G) (i := i) (o := o) n (s + 1) q (by omega)
    have e2 : s + 1 + q = s + (q + 1) := by omega
    rw [e2] at this
    simpa [outC] using this

theorem rowIs_spec {G : Ctx} {n : Nat} {cs : List (AV G)} {h : AH G} {v : AV G} (k : rowIs n cs h v = true) : ∃ id g, v = .slice id 0 n n false ∧ h.objs.get id = some (.cells cs (some g)) := by
  unfold rowIs at k
  split at k
  · rename_i id n' c
    simp only [Bool.and_eq_true] at k
    obtain ⟨⟨k1, k2⟩, k3⟩ := k
    have e1 := Nat.eq_of_beq_eq_true k1
    have e2 := Nat.eq_of_beq_eq_true k2
    subst e1 e2
    split at k3
    · rename_i vs g hg
      rw [samesA_eq k3] at hg
      exact ⟨id, g, rfl, hg⟩
    · cases k3
  · cases k

theorem okRow_spec {G : Ctx} {n : Nat} {cs : List (AV G)} {r : Option (Res G)} (k : okRow n cs r = true) : ∃ id g h, r = some (.ret (.slice id 0 n n false) h) ∧ h.objs.get id = some (.cells cs (some g)) := by
  unfold okRow at k
  split at k
  · rename_i v h
    obtain ⟨id, g, rfl, h2⟩ := rowIs_spec k
    exact ⟨id, g, h, rfl, h2⟩
  · cases k

/-- What is taken from a slice. -/
def specT (hold : Int) (R : Nat → Int) (i o s : Nat) : Int := match placeOf i o s with
  | some k => tk hold R i o k
  | none => 0

theorem specT_bd {hold : Int} {R : Nat → Int} (g : Good hold R) (i o s : Nat) : 0 ≤ specT hold R i o s ∧ specT hold R i o s ≤ 300 := by
  unfold specT
  split
  · exact tk_bd g _
  · omega

/-- A new row of ints. -/
def NewInts (w : World) (n : Nat) (T : Nat → Int) (v : Value) (w' : World) : Prop :=
  ∃ (bk : Nat) (c : Array Value) (t : TypeId), v = .slice (some ⟨bk, 0, none⟩) n n ∧ Below w.heap.size w w' ∧ w.heap.size ≤ bk ∧ w'.heap[bk]? = some (.cells c t (0, 0)) ∧ ∀ s, s < n → c[s]? = some (.int .i64 (T s))

/-- Ints of a slice. -/
def IntsAt (w : World) (b off n : Nat) (R : Nat → Int) : Prop := ∀ s, s < n → w.cell? ⟨b, off + s, none⟩ = some (.int .i64 (R s))

structure Begun (w : World) (b off cap b2 o2 c2 n i o : Nat) (hold oil wa bl : Int) (R : Nat → Int) : Prop where
  n10 : n ≤ 10
  hb : b < w.heap.size
  hcap : n ≤ cap
  hb2 : b2 < w.heap.size
  hc2 : n ≤ c2
  g : Good hold R
  oil : 0 ≤ oil ∧ oil ≤ 10000000000000
  wa : 1 ≤ wa ∧ wa ≤ 1000000
  bl : 0 ≤ bl ∧ bl ≤ 10
  hi : i < n
  ho : o < n
  rates : IntsAt w b2 o2 n R

def aux (wa bl oil : Int) (v : Nat) : Int := if v = 1 then wa else if v = 2 then bl else oil

section
variable {w : World} {b off cap b2 o2 c2 n i o : Nat} {hold oil wa bl : Int} {R : Nat → Int} (S : Begun w b off cap b2 o2 c2 n i o hold oil wa bl R) {fv : Value} (hfv : fv.oneCell' = true)
include S hfv

theorem vals_one (v : Nat) : (vals fv hold (aux wa bl oil) R i o v).oneCell' = true := by
  unfold vals; split
  · exact hfv
  · rfl

def Begun.env : Env (ctx i o) := frnEnv (vals fv hold (aux wa bl oil) R i o) (vals_one S hfv) (holds S.g (by have := S.hi; have := S.n10; omega) (by have := S.ho; have := S.n10; omega)) [⟨b, off, cap * 7⟩, ⟨b2, o2, c2⟩] w.heap.size

theorem Begun.hr : HR (S.env hfv) (frnH [[], ratesC n]) w := by
  refine HR.frn _ _ rfl fun x c p hx hp => ?_
  match x, hx, hp with
  | 0, hx, hp => simp at hx hp; subst hx hp; exact ⟨S.hb, fun j a ha => by simp at ha⟩
  | 1, hx, hp =>
    simp at hx hp; subst hx hp
    refine ⟨S.hb2, fun j a ha => ?_⟩
    obtain ⟨rfl, hj⟩ := ratesC_get n j a ha
    have hn := S.n10
    refine ⟨_, S.rates j hj, ?_⟩
    have := S.g.r j
    simp only [VR, frnEnv]
    rw [eval_R (by omega)]
    exact ⟨rfl, this⟩
  | x + 2, hx, _ => simp at hx

theorem Begun.stage : VR (S.env hfv) (stageA i o) (.agg #[.int .i64 wa, .int .i64 i, .int .i64 o, .int .i64 bl]) := by
  simp only [VRs, stageA, VR, SX.eval, Begun.env, frnEnv]
  exact ⟨_, rfl, _, _, rfl, ⟨rfl, S.wa⟩, _, _, rfl, rfl, _, _, rfl, rfl, _, _, rfl, ⟨rfl, S.bl⟩, rfl⟩

theorem Begun.rate : VR (S.env hfv) (.slice 1 0 n 1 true) (.slice (some ⟨b2, o2, none⟩) n c2) := by
  simp only [VR, Begun.env, frnEnv]
  exact ⟨b2, o2, c2, by simp, rfl, S.hc2, by simp, fun _ _ => by simp⟩

theorem Begun.inq : VR (S.env hfv) (inqA n) (.agg #[.slice (some ⟨b, off, none⟩) n cap, .int .i64 hold, .int .i64 oil, fv]) := by
  simp only [VRs, inqA, VR, SX.eval, Begun.env, frnEnv]
  exact ⟨_, rfl, _, _, rfl, ⟨b, off, cap, by simp, rfl, S.hcap, by simp, fun _ _ => by simp⟩, _, _, rfl, ⟨rfl, S.g.h1, S.g.h2⟩, _, _, rfl, ⟨rfl, S.oil⟩, _, _, rfl, by simp [vals], rfl⟩

theorem Begun.cav : VR (S.env hfv) (cavA n) (.agg #[.slice (some ⟨b, off, none⟩) n cap, .int .i64 hold, .int .i64 oil]) := by
  simp only [VRs, cavA, VR, SX.eval, Begun.env, frnEnv]
  exact ⟨_, rfl, _, _, rfl, ⟨b, off, cap, by simp, rfl, S.hcap, by simp, fun _ _ => by simp⟩, _, _, rfl, ⟨rfl, S.g.h1, S.g.h2⟩, _, _, rfl, ⟨rfl, S.oil⟩, rfl⟩

omit S hfv in
theorem cellT_val {e' : Env (ctx i o)} (he : e'.opq = vals fv hold (aux wa bl oil) R i o) {s : Nat} {v : Value} (h : VR e' (cellT i o s) v) : v = .int .i64 (specT hold R i o s) := by
  unfold cellT at h
  unfold specT
  split at h
  · rename_i k hk
    try rw [hk]
    simp only [VR, he] at h
    rw [eval_Q (by omega)] at h
    exact h.1
  · rename_i hk
    try rw [hk]
    exact h.int

theorem newInts_of {e' : Env (ctx i o)} {w' : World} {h' : AH (ctx i o)} {id g : Nat} {v : Value} (St' : St (S.env hfv) (frnH [[], ratesC n]) w e' h' w') (hid : h'.objs.get id = some (.cells (outC i o n 0) (some g))) (hv : VR e' (.slice id 0 n n false) v) :
    NewInts w n (specT hold R i o) v w' := by
  have hO := St'.hr.obj _ _ hid
  obtain ⟨bk, k1, k2, c, t, k3, _, k4⟩ := hO
  obtain ⟨b', o', c', q1, q2, q3, q4, _⟩ := hv.slice
  rw [k1] at q1; cases q1
  have e4 := q4 rfl
  rw [e4] at q2
  have he : e'.opq = vals fv hold (aux wa bl oil) R i o := St'.le.opq
  have hb : e'.base = w.heap.size := St'.le.base
  refine ⟨bk, c, t, q2, St'.below (S.hr hfv), by rw [← hb]; exact k2, k3, fun s hs => ?_⟩
  have a1 := outC_at (G := ctx i o) (i := i) (o := o) n 0 s hs
  rw [Nat.zero_add] at a1
  obtain ⟨v1, b1, b2⟩ := k4 _ _ a1
  have := cellT_val he b2; subst this
  exact b1
end

def chk1 (n i o : Nat) : Bool := okRow n (outC i o n 0) (evF (G := ctx i o) P (drawA P) 20000 (.call 158 [inqA n, stageA i o, .slice 1 0 n 1 true] (frnH [[], ratesC n])))
def chk2 (n i o : Nat) : Bool := okRow n (outC i o n 0) (evF (G := ctx i o) P (drawA P) 20000 (.call 32 [cavA n, stageA i o, .slice 1 0 n 1 true] (frnH [[], ratesC n])))

section
variable {w : World} {b off cap b2 o2 c2 n i o : Nat} {hold oil wa bl : Int} {R : Nat → Int} (S : Begun w b off cap b2 o2 c2 n i o hold oil wa bl R)
include S
theorem takes_good {fv : Value} (hfv : fv.oneCell' = true) (hc : chk1 n i o = true) :
    Calls P 158 #[.agg #[.slice (some ⟨b, off, none⟩) n cap, .int .i64 hold, .int .i64 oil, fv], .agg #[.int .i64 wa, .int .i64 i, .int .i64 o, .int .i64 bl], .slice (some ⟨b2, o2, none⟩) n c2] w
      fun e w' => ∃ v, e = .returned v ∧ NewInts w n (specT hold R i o) v w' := by
  obtain ⟨id, g, h', hr, hid⟩ := okRow_spec hc
  have k := evF_sound P 20000 _ _ hr
  refine (callsIn_wide (n := 0)).1 (k (S.env hfv) _ w 0 _ (S.hr hfv) ?_ (fun e' v' w' St' hv => ⟨v', rfl, newInts_of S hfv St' hid hv⟩))
  simp only [VRs]
  exact ⟨_, _, rfl, S.inq hfv, _, _, rfl, S.stage hfv, _, _, rfl, S.rate hfv, rfl⟩

theorem take_good (hc : chk2 n i o = true) :
    Calls P 32 #[.agg #[.slice (some ⟨b, off, none⟩) n cap, .int .i64 hold, .int .i64 oil], .agg #[.int .i64 wa, .int .i64 i, .int .i64 o, .int .i64 bl], .slice (some ⟨b2, o2, none⟩) n c2] w
      fun e w' => ∃ v, e = .returned v ∧ NewInts w n (specT hold R i o) v w' := by
  obtain ⟨id, g, h', hr, hid⟩ := okRow_spec hc
  have k := evF_sound P 20000 _ _ hr
  have hfv : (Value.bool true).oneCell' = true := rfl
  refine (callsIn_wide (n := 0)).1 (k (S.env hfv) _ w 0 _ (S.hr hfv) ?_ (fun e' v' w' St' hv => ⟨v', rfl, newInts_of S hfv St' hid hv⟩))
  simp only [VRs]
  exact ⟨_, _, rfl, S.cav hfv, _, _, rfl, S.stage hfv, _, _, rfl, S.rate hfv, rfl⟩
end
end Go.Ev.LT

namespace Go.Ev.LT
/-- All places but one. -/
def allO (f : Nat → Nat → Nat → Bool) (n i : Nat) : Nat → Bool
  | 0 => true
  | o + 1 => Bool.rec (Bool.rec false (allO f n i o) (f n i o)) (allO f n i o) (Nat.beq i o)

theorem allO_spec {f : Nat → Nat → Nat → Bool} {n i : Nat} : ∀ {m : Nat}, allO f n i m = true → ∀ o, o < m → i ≠ o → f n i o = true
  | 0, _, o, h, _ => by omega
  | m + 1, ha, o, h, hne => by
    change (Bool.rec (Bool.rec false (allO f n i m) (f n i m)) (allO f n i m) (Nat.beq i m) : Bool) = true at ha
    cases hb : Nat.beq i m with
    | true =>
      rw [hb] at ha
      have := Nat.eq_of_beq_eq_true hb
      exact allO_spec (m := m) ha o (by omega) hne
    | false =>
      rw [hb] at ha
      cases hf : f n i m with
      | false => simp only [hf] at ha; cases ha
      | true =>
        simp only [hf] at ha
        by_cases ho : o = m
        · subst ho; exact hf
        · exact allO_spec (m := m) ha o (by omega) hne
end Go.Ev.LT

