import Derived.Test.YtckekpcnpccpmaaEvE
import Derived.Test.YtckekpcnpccpmaaWalks
set_option linter.unusedVariables false
set_option linter.unusedSimpArgs false
set_option linter.unusedSectionVars false
noncomputable section
namespace Go.Ev.LR

/-! ### What a cubic metre of water takes: the place k of a path -/
/-- The slice at place k of the path from i to o. -/
def pAt (i o k : Nat) : Nat := if o < i then i - k else i + k
def pLen (i o : Nat) : Nat := (if o < i then i - o else o - i) + 1

section
variable (hold : Int) (F : Nat → Nat → Int) (i o : Nat)
def rl (k : Nat) : Int := F (pAt i o k) 4
def rh (k : Nat) : Int := F (pAt i o k) 5
def sumL : Nat → Int
  | 0 => 0
  | k + 1 => sumL k + rl F i o k
def sumH : Nat → Int
  | 0 => 0
  | k + 1 => sumH k + rh F i o k
def mn (x y : Int) : Int := if y < x then y else x
def mx (x y : Int) : Int := if y > x then y else x
def least (k : Nat) : Int := mx 0 (hold - sumH F i o k)
def most (k : Nat) : Int := mx 0 (hold - sumL F i o k)
def resL (k : Nat) : Int := mn (rl F i o k) (least hold F i o k)
def resH (k : Nat) : Int := mn (rh F i o k) (most hold F i o k)

structure Good : Prop where
  h1 : 1 ≤ hold
  h2 : hold ≤ 300
  f1 : ∀ k, 0 ≤ rl F i o k
  f2 : ∀ k, rl F i o k ≤ rh F i o k
  f3 : ∀ k, rh F i o k ≤ 300
end

section
variable {hold : Int} {F : Nat → Nat → Int} {i o : Nat} (g : Good hold F i o)
include g
theorem sum_nn (k : Nat) : 0 ≤ sumL F i o k ∧ sumL F i o k ≤ sumH F i o k ∧ sumH F i o k ≤ 300 * k := by
  induction k with
  | zero => simp [sumL, sumH]
  | succ k ih =>
    have := g.f1 k; have := g.f2 k; have := g.f3 k
    simp only [sumL, sumH]
    refine ⟨by omega, by omega, by push_cast; omega⟩

theorem least_step (k : Nat) : least hold F i o (k + 1) = least hold F i o k - mn (rh F i o k) (least hold F i o k) := by
  have := g.f1 k; have := g.f2 k
  have := sum_nn g k
  simp only [least, sumH, mx, mn]
  repeat' split
  all_goals omega

theorem most_step (k : Nat) : most hold F i o (k + 1) = most hold F i o k - mn (rl F i o k) (most hold F i o k) := by
  have := g.f1 k; have := g.f2 k
  have := sum_nn g k
  simp only [most, sumL, mx, mn]
  repeat' split
  all_goals omega

theorem least_0 : least hold F i o 0 = hold := by
  have := g.h1
  have e : sumH F i o 0 = 0 := rfl
  unfold least mx; rw [e, if_pos (by omega)]; omega
theorem most_0 : most hold F i o 0 = hold := by
  have := g.h1
  have e : sumL F i o 0 = 0 := rfl
  unfold most mx; rw [e, if_pos (by omega)]; omega
theorem least_bd (k : Nat) : 0 ≤ least hold F i o k ∧ least hold F i o k ≤ 300 := by
  have := g.h2; have := sum_nn g k
  simp only [least, mx]; split <;> omega
theorem most_bd (k : Nat) : 0 ≤ most hold F i o k ∧ most hold F i o k ≤ 300 := by
  have := g.h2; have := sum_nn g k
  simp only [most, mx]; split <;> omega
end

/-! ### The variables -/
def vF (s j : Nat) : Nat := 10 + 7 * s + j
def vP (k j : Nat) : Nat := 100 + 10 * k + j

def tab (hold : Int) (F : Nat → Nat → Int) (i o k j : Nat) : Int :=
    match j with
    | 0 => least hold F i o k
    | 1 => most hold F i o k
    | 2 => mn (rh F i o k) (least hold F i o k)
    | 3 => mn (rl F i o k) (most hold F i o k)
    | 4 => resL hold F i o k
    | 5 => resH hold F i o k
    | 6 => sumL F i o k
    | 7 => sumH F i o k
    | 8 => hold - sumH F i o k
    | _ => hold - sumL F i o k

def val (hold : Int) (a : Nat → Int) (F : Nat → Nat → Int) (i o v : Nat) : Int :=
  if v = 0 then hold else if v < 10 then a v else if v < 100 then F ((v - 10) / 7) ((v - 10) % 7) else
    tab hold F i o ((v - 100) / 10) ((v - 100) % 10)

def leastX (k : Nat) : SX := .v (if k = 0 then 0 else vP k 0)
def mostX (k : Nat) : SX := .v (if k = 0 then 0 else vP k 1)
def sumLX (k : Nat) : SX := if k = 0 then .c 0 else .v (vP k 6)
def sumHX (k : Nat) : SX := if k = 0 then .c 0 else .v (vP k 7)
def leastV (k : Nat) : Nat := if k = 0 then 0 else vP k 0
def mostV (k : Nat) : Nat := if k = 0 then 0 else vP k 1

def aV (k : Nat) : Nat := if k = 0 then vP 0 5 else vP k 2
def bV (k : Nat) : Nat := if k = 0 then vP 0 4 else vP k 3

def entsAt (i o k : Nat) : List (SX × Nat × Int × Int) :=
  let l : SX := .v (vF (pAt i o k) 4)
  let h : SX := .v (vF (pAt i o k) 5)
  [(.bin 3 l (leastX k), vP k 4, 0, 300), (.bin 3 h (mostX k), vP k 5, 0, 300),
   (.bin 3 h (leastX k), vP k 2, 0, 300), (.bin 1 (leastX k) (.v (aV k)), vP (k + 1) 0, 0, 300),
   (.bin 3 l (mostX k), vP k 3, 0, 300), (.bin 1 (mostX k) (.v (bV k)), vP (k + 1) 1, 0, 300),
   (.bin 1 (leastX 0) (sumHX k), vP k 8, -3000, 300), (.bin 4 (.c 0) (.v (vP k 8)), leastV k, 0, 300),
   (.bin 1 (mostX 0) (sumLX k), vP k 9, -3000, 300), (.bin 4 (.c 0) (.v (vP k 9)), mostV k, 0, 300),
   (.bin 0 (sumLX k) l, vP (k + 1) 6, 0, 3000), (.bin 0 (sumHX k) h, vP (k + 1) 7, 0, 3000)]

def entsTo (i o : Nat) : Nat → List (SX × Nat × Int × Int)
  | 0 => []
  | k + 1 => entsAt i o k ++ entsTo i o k

def Fits (n i o : Nat) (v : Nat → Value) : Prop :=
  Go.Proofs.W.cavB n (valI (v 0)) (valI (v 3)) (fun s j => valI (v (vF s j))) = true ∧ Go.Proofs.W.stageB n (valI (v 1)) i o (valI (v 2)) = true

def ctx (n i o : Nat) : Ctx := ⟨entsTo i o (pLen i o), [], [], Fits n i o⟩

section
variable {hold : Int} {a : Nat → Int} {F : Nat → Nat → Int} {i o : Nat}
def vals (hold : Int) (a : Nat → Int) (F : Nat → Nat → Int) (i o : Nat) (v : Nat) : Value := .int .i64 (val hold a F i o v)
theorem vals_one (v : Nat) : (vals hold a F i o v).oneCell' = true := rfl

theorem val_0 : val hold a F i o 0 = hold := rfl
theorem val_F {s j : Nat} (hs : s < 12) (hj : j < 7) : val hold a F i o (vF s j) = F s j := by
  unfold val vF
  rw [if_neg (by omega), if_neg (by omega), if_pos (by omega)]
  have h1 : (10 + 7 * s + j - 10) / 7 = s := by omega
  have h2 : (10 + 7 * s + j - 10) % 7 = j := by omega
  rw [h1, h2]

theorem val_P {k j : Nat} (hj : j < 10) : val hold a F i o (vP k j) = tab hold F i o k j := by
  unfold val vP
  rw [if_neg (by omega), if_neg (by omega), if_neg (by omega)]
  have h1 : (100 + 10 * k + j - 100) / 10 = k := by omega
  have h2 : (100 + 10 * k + j - 100) % 10 = j := by omega
  rw [h1, h2]

variable (g : Good hold F i o)
include g
theorem eval_least (k : Nat) : (leastX k).eval (vals hold a F i o) = least hold F i o k := by
  unfold leastX
  split
  · rename_i h; subst h; rw [least_0 g]; rfl
  · exact val_P (j := 0) (by omega)
theorem eval_most (k : Nat) : (mostX k).eval (vals hold a F i o) = most hold F i o k := by
  unfold mostX
  split
  · rename_i h; subst h; rw [most_0 g]; rfl
  · exact val_P (j := 1) (by omega)
omit g in
theorem eval_sumL (k : Nat) : (sumLX k).eval (vals hold a F i o) = sumL F i o k := by
  unfold sumLX
  split
  · rename_i h; subst h; rfl
  · exact val_P (j := 6) (by omega)
omit g in
theorem eval_sumH (k : Nat) : (sumHX k).eval (vals hold a F i o) = sumH F i o k := by
  unfold sumHX
  split
  · rename_i h; subst h; rfl
  · exact val_P (j := 7) (by omega)
theorem val_leastV (k : Nat) : val hold a F i o (leastV k) = least hold F i o k := by
  unfold leastV
  split
  · rename_i h; subst h; rw [least_0 g]; rfl
  · exact val_P (j := 0) (by omega)
theorem val_mostV (k : Nat) : val hold a F i o (mostV k) = most hold F i o k := by
  unfold mostV
  split
  · rename_i h; subst h; rw [most_0 g]; rfl
  · exact val_P (j := 1) (by omega)

theorem val_aV (k : Nat) : val hold a F i o (aV k) = mn (rh F i o k) (least hold F i o k) := by
  unfold aV
  split
  · rename_i h; subst h; rw [val_P (by omega), least_0 g]
    show mn (rh F i o 0) (most hold F i o 0) = _
    rw [most_0 g]
  · exact val_P (j := 2) (by omega)
theorem val_bV (k : Nat) : val hold a F i o (bV k) = mn (rl F i o k) (most hold F i o k) := by
  unfold bV
  split
  · rename_i h; subst h; rw [val_P (by omega), most_0 g]
    show mn (rl F i o 0) (least hold F i o 0) = _
    rw [least_0 g]
  · exact val_P (j := 3) (by omega)

omit g in
theorem mn_bd {x y : Int} (h1 : 0 ≤ x) (h2 : x ≤ 300) (h3 : 0 ≤ y) : 0 ≤ mn x y ∧ mn x y ≤ 300 := by
  unfold mn; split <;> omega

theorem ents_ok {k : Nat} (hk : k < 10) (hp : pAt i o k < 12) : ∀ x v lo hi, (x, v, lo, hi) ∈ entsAt i o k → x.eval (vals hold a F i o) = val hold a F i o v ∧ lo ≤ val hold a F i o v ∧ val hold a F i o v ≤ hi := by
  intro x v lo hi hm
  have hl : (SX.v (vF (pAt i o k) 4)).eval (vals hold a F i o) = rl F i o k := val_F (j := 4) hp (by omega)
  have hh : (SX.v (vF (pAt i o k) 5)).eval (vals hold a F i o) = rh F i o k := val_F (j := 5) hp (by omega)
  have e1 := eval_least (a := a) g k
  have e2 := eval_most (a := a) g k
  have e3 := eval_sumL (hold := hold) (a := a) (F := F) (i := i) (o := o) k
  have e4 := eval_sumH (hold := hold) (a := a) (F := F) (i := i) (o := o) k
  have b0 := sum_nn g k
  have b1 := sum_nn g (k + 1)
  have b2 := least_bd g k
  have b3 := most_bd g k
  have b4 := least_bd g (k + 1)
  have b5 := most_bd g (k + 1)
  have f1 := g.f1 k
  have f2 := g.f2 k
  have f3 := g.f3 k
  have g1 := g.h1
  have g2 := g.h2
  have m1 := mn_bd f1 (by omega) b2.1
  have m2 := mn_bd (show 0 ≤ rh F i o k by omega) (by omega) b3.1
  have m3 := mn_bd (show 0 ≤ rh F i o k by omega) (by omega) b2.1
  have m4 := mn_bd f1 (by omega) b3.1
  have z0 : (leastX 0).eval (vals hold a F i o) = hold := rfl
  have z1 : (mostX 0).eval (vals hold a F i o) = hold := rfl
  simp only [entsAt, List.mem_cons, Prod.mk.injEq, List.not_mem_nil, or_false] at hm
  rcases hm with ⟨rfl, rfl, rfl, rfl⟩ | ⟨rfl, rfl, rfl, rfl⟩ | ⟨rfl, rfl, rfl, rfl⟩ | ⟨rfl, rfl, rfl, rfl⟩ | ⟨rfl, rfl, rfl, rfl⟩ | ⟨rfl, rfl, rfl, rfl⟩ | ⟨rfl, rfl, rfl, rfl⟩ | ⟨rfl, rfl, rfl, rfl⟩ | ⟨rfl, rfl, rfl, rfl⟩ | ⟨rfl, rfl, rfl, rfl⟩ | ⟨rfl, rfl, rfl, rfl⟩ | ⟨rfl, rfl, rfl, rfl⟩
  · rw [val_P (by omega)]; simp only [SX.eval, e1] at hl ⊢; rw [hl]; exact ⟨rfl, m1⟩
  · rw [val_P (by omega)]; simp only [SX.eval, e2] at hh ⊢; rw [hh]; exact ⟨rfl, m2⟩
  · rw [val_P (by omega)]; simp only [SX.eval, e1] at hh ⊢; rw [hh]; exact ⟨rfl, m3⟩
  · rw [val_P (by omega)]; simp only [SX.eval, e1, valI, vals]; rw [val_aV g]; exact ⟨(least_step g k).symm, b4⟩
  · rw [val_P (by omega)]; simp only [SX.eval, e2] at hl ⊢; rw [hl]; exact ⟨rfl, m4⟩
  · rw [val_P (by omega)]; simp only [SX.eval, e2, valI, vals]; rw [val_bV g]; exact ⟨(most_step g k).symm, b5⟩
  · rw [val_P (by omega)]; simp only [SX.eval, e4] at z0 ⊢; rw [z0]; exact ⟨rfl, by simp only [tab]; omega⟩
  · rw [val_leastV g]; simp only [SX.eval, valI, vals]; rw [val_P (by omega)]; exact ⟨rfl, b2⟩
  · rw [val_P (by omega)]; simp only [SX.eval, e3] at z1 ⊢; rw [z1]; exact ⟨rfl, by simp only [tab]; omega⟩
  · rw [val_mostV g]; simp only [SX.eval, valI, vals]; rw [val_P (by omega)]; exact ⟨rfl, b3⟩
  · rw [val_P (by omega)]; simp only [SX.eval, e3] at hl ⊢; rw [hl]; exact ⟨rfl, by simp only [tab]; omega⟩
  · rw [val_P (by omega)]; simp only [SX.eval, e4] at hh ⊢; rw [hh]; exact ⟨rfl, by simp only [tab]; omega⟩

theorem entsTo_ok : ∀ {m : Nat}, m ≤ 10 → (∀ k, k < m → pAt i o k < 12) → ∀ x v lo hi, (x, v, lo, hi) ∈ entsTo i o m → x.eval (vals hold a F i o) = val hold a F i o v ∧ lo ≤ val hold a F i o v ∧ val hold a F i o v ≤ hi
  | 0, _, _, _, _, _, _, h => by cases h
  | m + 1, hm, hp, x, v, lo, hi, h => by
    simp only [entsTo, List.mem_append] at h
    rcases h with h | h
    · exact ents_ok g (by omega) (hp m (by omega)) x v lo hi h
    · exact entsTo_ok (by omega) (fun k hk => hp k (by omega)) x v lo hi h

theorem holds {n : Nat} (hi : i < 10) (ho : o < 10) (hF : Fits n i o (vals hold a F i o)) : (ctx n i o).holds (vals hold a F i o) :=
  ⟨entsTo_ok g (by unfold pLen; split <;> omega) (fun k hk => by unfold pAt; unfold pLen at hk; split at hk <;> split <;> omega), (by intro _ _ _ h; cases h), (by intro _ _ _ h; cases h), hF⟩
end
end Go.Ev.LR

namespace Go.Ev.LR

/-! ### What is run -/
/-- The cells of the slice s: its numbers, as variables. -/
def sliceC {G : Ctx} (s : Nat) : List (AV G) :=
  [.sx (.v (vF s 0)) 0 10000000000000, .sx (.v (vF s 1)) 0 10000000000000, .sx (.v (vF s 2)) 1000 3000, .sx (.v (vF s 3)) 0 2999, .sx (.v (vF s 4)) 0 300, .sx (.v (vF s 5)) 0 300, .sx (.v (vF s 6)) 0 10000000000000]
def slicesC {G : Ctx} : Nat → Nat → List (AV G)
  | 0, _ => []
  | n + 1, s => sliceC s ++ slicesC n (s + 1)
def cavA {G : Ctx} (n : Nat) : AV G := .agg [.slice 0 0 n 7 true, .sx (.v 0) 1 300, .sx (.v 3) 0 10000000000000]
def stageA {G : Ctx} (i o : Nat) : AV G := .agg [.sx (.v 1) 1 1000000, .int .i64 (Int.ofNat i), .int .i64 (Int.ofNat o), .sx (.v 2) 0 10]

/-- The place of a slice on the path. -/
def placeOf (i o s : Nat) : Option Nat :=
  Bool.rec (Bool.rec none (Bool.rec none (some (Nat.sub s i)) (Nat.ble s o)) (Nat.ble i s)) (Bool.rec none (Bool.rec none (some (Nat.sub i s)) (Nat.ble s i)) (Nat.ble o s)) (Nat.blt o i)

def cellL {G : Ctx} (i o s : Nat) : AV G := match placeOf i o s with
  | some k => .sx (.v (vP k 4)) 0 300
  | none => .int .i64 0
def cellH {G : Ctx} (i o s : Nat) : AV G := match placeOf i o s with
  | some k => .sx (.v (vP k 5)) 0 300
  | none => .int .i64 0
def outC {G : Ctx} (i o : Nat) : Nat → Nat → List (AV G)
  | 0, _ => []
  | n + 1, s => cellL i o s :: cellH i o s :: outC i o n (s + 1)

def rowIs {G : Ctx} (n : Nat) (cs : List (AV G)) (h : AH G) : AV G → Bool
  | .slice id 0 n' c false => Nat.beq n' n && Nat.beq c n && (match h.objs.get id with
    | some (.cells vs (some _)) => samesA vs cs
    | _ => false)
  | _ => false

/-- A row and no error. -/
def okPair {G : Ctx} (n : Nat) (cs : List (AV G)) : Option (Res G) → Bool
  | some (.ret (.tuple [v, .int .i64 (.ofNat 0)]) h) => rowIs n cs h v
  | _ => false
def okRow {G : Ctx} (n : Nat) (cs : List (AV G)) : Option (Res G) → Bool
  | some (.ret v h) => rowIs n cs h v
  | _ => false
end Go.Ev.LR

namespace Go.Ev.LR
open Go.Proofs.W Go.RowKit

noncomputable abbrev P : Program := Go.Proofs.Try.prog

theorem sliceC_get {G : Ctx} {s r : Nat} (hr : r < 7) : ∃ lo hi, (sliceC s : List (AV G))[r]? = some (.sx (.v (vF s r)) lo hi) := by
  match r, hr with
  | 0, _ => exact ⟨_, _, rfl⟩
  | 1, _ => exact ⟨_, _, rfl⟩
  | 2, _ => exact ⟨_, _, rfl⟩
  | 3, _ => exact ⟨_, _, rfl⟩
  | 4, _ => exact ⟨_, _, rfl⟩
  | 5, _ => exact ⟨_, _, rfl⟩
  | 6, _ => exact ⟨_, _, rfl⟩

theorem slicesC_at {G : Ctx} : ∀ (n s q r : Nat), q < n → r < 7 → (slicesC n s : List (AV G))[q * 7 + r]? = (sliceC (s + q))[r]?
  | 0, _, _, _, h, _ => by omega
  | n + 1, s, 0, r, _, hr => by
    simp only [slicesC, Nat.zero_mul, Nat.zero_add, Nat.add_zero]
    rw [List.getElem?_append_left (by simp [sliceC]; omega)]
  | n + 1, s, q + 1, r, hq, hr => by
    simp only [slicesC]
    rw [List.getElem?_append_right (by simp [sliceC]; omega)]
    have e1 : (q + 1) * 7 + r - (sliceC s : List (AV G)).length = q * 7 + r := by simp [sliceC]; omega
    rw [e1, slicesC_at n (s + 1) q r (by omega) hr]
    congr 1
    congr 1
    omega

theorem slicesC_len {G : Ctx} : ∀ (n s : Nat), (slicesC n s : List (AV G)).length = n * 7
  | 0, _ => rfl
  | n + 1, s => by simp only [slicesC, List.length_append, slicesC_len n]; simp [sliceC]; omega

def Fe {G : Ctx} (e : Env G) (s j : Nat) : Int := valI (e.opq (vF s j))

theorem cavA_spec {G : Ctx} {e : Env G} {n : Nat} {v : Value} (h : VR e (cavA n) v) :
    ∃ b o c, v = .agg #[.slice (some ⟨b, o, none⟩) n c, .int .i64 (valI (e.opq 0)), .int .i64 (valI (e.opq 3))] ∧ e.φ 0 = some (b, o) ∧ n ≤ c := by
  simp only [cavA, VR, VRs] at h
  obtain ⟨xs, rfl, sv, l1, e1, ⟨b, o, c, h1, rfl, h3, _, _⟩, hv, l2, rfl, ⟨rfl, _⟩, ov, l3, rfl, ⟨rfl, _⟩, rfl⟩ := h
  refine ⟨b, o, c, ?_, h1, h3⟩
  obtain ⟨l⟩ := xs
  simp only at e1
  subst e1
  rfl

theorem stageA_spec {G : Ctx} {e : Env G} {i o : Nat} {v : Value} (h : VR e (stageA i o) v) :
    v = .agg #[.int .i64 (valI (e.opq 1)), .int .i64 i, .int .i64 o, .int .i64 (valI (e.opq 2))] := by
  simp only [stageA, VR, VRs] at h
  obtain ⟨xs, rfl, wv, l1, e1, ⟨rfl, _⟩, iv, l2, rfl, rfl, ov, l3, rfl, rfl, bv, l4, rfl, ⟨rfl, _⟩, rfl⟩ := h
  obtain ⟨l⟩ := xs
  simp only at e1
  subst e1
  rfl

theorem sl_of {G : Ctx} {e : Env G} {h : AH G} {w : World} {n b o c : Nat} (H : HR e h w) (hp : hasF 0 (slicesC n 0) h = true) (hφ : e.φ 0 = some (b, o)) (hn : n ≤ 10) (hc : n ≤ c) :
    Sl w (.slice (some ⟨b, o, none⟩) n c) n (Fe e) := by
  have h0 := H.obj 0 _ (hasF_spec hp)
  obtain ⟨b', o', h1, h2, h3⟩ := h0
  rw [hφ] at h1; cases h1
  refine .inr ⟨b, o, c, rfl, Nat.lt_of_lt_of_le h2 H.base, hc, by omega, fun i j hi hj => ?_⟩
  obtain ⟨lo, hi', hg⟩ := sliceC_get (G := G) (s := i) hj
  have hat := slicesC_at (G := G) n 0 i j hi hj
  rw [Nat.zero_add, hg] at hat
  obtain ⟨v, k1, k2⟩ := h3 _ _ hat
  simp only [VR, SX.eval] at k2
  rw [k1, k2.1]; rfl

def K (n i o : Nat) : List (KE (ctx n i o)) := [KE.same 22 [cavA n] (hasF 0 (slicesC n 0)) (.bool true), KE.same 23 [cavA n, stageA i o] (fun _ => true) (.bool true)]

theorem K_ok {n i o : Nat} (h1 : 1 ≤ n) (h2 : n ≤ 10) : ∀ k ∈ K n i o, k.ok P := by
  intro k hk
  simp only [K, List.mem_cons, List.not_mem_nil, or_false] at hk
  rcases hk with rfl | rfl
  · refine KE.same_ok fun e vs w h hp H hv => ?_
    simp only [VRs] at hv
    obtain ⟨v, l, hl, hv, rfl⟩ := hv
    obtain ⟨b, oo, c, rfl, hφ, hc⟩ := cavA_spec hv
    obtain ⟨l⟩ := vs
    simp only at hl; subst hl
    refine (cav_any _ n _ _ (Fe e) w (sl_of H hp hφ h2 hc)).mono fun en w' ⟨q1, q2⟩ => ?_
    have hx := e.holds.extra
    have : cavB n (valI (e.opq 0)) (valI (e.opq 3)) (Fe e) = true := hx.1
    rw [this] at q1
    exact ⟨_, q1, by simp [VR], q2⟩
  · refine KE.same_ok fun e vs w h hp H hv => ?_
    simp only [VRs] at hv
    obtain ⟨v, l, hl, hv, v2, l2, rfl, hv2, rfl⟩ := hv
    obtain ⟨b, oo, c, rfl, hφ, hc⟩ := cavA_spec hv
    have := stageA_spec hv2; subst this
    obtain ⟨l⟩ := vs
    simp only at hl; subst hl
    refine (stage23_any ⟨b, oo, none⟩ n c _ _ _ i o _ w h1 (by omega)).mono fun en w' ⟨q1, q2⟩ => ?_
    have hx := e.holds.extra
    have : stageB n (valI (e.opq 1)) i o (valI (e.opq 2)) = true := hx.2
    rw [this] at q1
    exact ⟨_, q1, by simp [VR], q2⟩
end Go.Ev.LR

namespace Go.Ev.LR
open Go.Proofs.W Go.RowKit

def specL (hold : Int) (F : Nat → Nat → Int) (i o s : Nat) : Int := match placeOf i o s with
  | some k => resL hold F i o k
  | none => 0
def specH (hold : Int) (F : Nat → Nat → Int) (i o s : Nat) : Int := match placeOf i o s with
  | some k => resH hold F i o k
  | none => 0

theorem outC_at {G : Ctx} {i o : Nat} : ∀ (n s q : Nat), q < n → (outC i o n s : List (AV G))[2 * q]? = some (cellL i o (s + q)) ∧ (outC i o n s : List (AV G))[2 * q + 1]? = some (cellH i o (s + q))
  | 0, _, _, h => by omega
  | n + 1, s, 0, _ => by simp [outC]
  | n + 1, s, q + 1, h => by
    have := outC_at (G := G) (i := i) (o := o) n (s + 1) q (by omega)
    have e1 : 2 * (q + 1) = 2 * q + 1 + 1 := by omega
    have e2 : s + 1 + q = s + (q + 1) := by omega
    rw [e2] at this
    simp only [outC]
    rw [e1]
    simpa using this

theorem rowIs_spec {G : Ctx} {n : Nat} {cs : List (AV G)} {h : AH G} {v : AV G} (k : rowIs n cs h v = true) : ∃ id g, v = .slice id 0 n n false ∧ h.objs.get id = some (.cells cs (some g)) := by
  unfold rowIs at k
  split at k
  · rename_i id n' c
    simp only [Bool.and_eq_true] at k
    obtain ⟨⟨k1, k2⟩, k3⟩ := k
    have e1 := Nat.eq_of_beq_eq_true k1
    have e2 := Nat.eq_of_beq_eq_true k2
    subst e1 e2
    split at k3
    · rename_i vs g hg
      rw [samesA_eq k3] at hg
      exact ⟨id, g, rfl, hg⟩
    · cases k3
  · cases k

theorem okPair_spec {G : Ctx} {n : Nat} {cs : List (AV G)} {r : Option (Res G)} (k : okPair n cs r = true) : ∃ id g h, r = some (.ret (.tuple [.slice id 0 n n false, .int .i64 0]) h) ∧ h.objs.get id = some (.cells cs (some g)) := by
  unfold okPair at k
  split at k
  · rename_i v h
    obtain ⟨id, g, rfl, h2⟩ := rowIs_spec k
    exact ⟨id, g, h, rfl, h2⟩
  · cases k

theorem okRow_spec {G : Ctx} {n : Nat} {cs : List (AV G)} {r : Option (Res G)} (k : okRow n cs r = true) : ∃ id g h, r = some (.ret (.slice id 0 n n false) h) ∧ h.objs.get id = some (.cells cs (some g)) := by
  unfold okRow at k
  split at k
  · rename_i v h
    obtain ⟨id, g, rfl, h2⟩ := rowIs_spec k
    exact ⟨id, g, h, rfl, h2⟩
  · cases k

theorem span_t {lo hi m : Int} (k : spanB lo hi m = true) : 0 ≤ lo ∧ lo ≤ hi ∧ hi ≤ m := by
  simp only [spanB, Bool.and_eq_true, decide_eq_true_eq] at k
  have := within_t k.1
  exact ⟨this.1, this.2, k.2⟩

/-- What is known of a row that is as defined. -/
theorem row_t {F : Nat → Nat → Int} {s : Nat} (k : rowB F s = true) : (0 ≤ F s 0 ∧ F s 0 ≤ F s 1 ∧ F s 1 ≤ 10000000000000) ∧ (1000 ≤ F s 2 ∧ F s 2 ≤ 3000) ∧ (0 ≤ F s 3 ∧ F s 3 ≤ F s 2 - 1) ∧ (0 ≤ F s 4 ∧ F s 4 ≤ F s 5 ∧ F s 5 ≤ 300) ∧ (0 ≤ F s 6 ∧ F s 6 ≤ 10000000000000) := by
  simp only [rowB, sliceB, Bool.and_eq_true] at k
  obtain ⟨⟨⟨⟨k1, k2⟩, k3⟩, k4⟩, k5⟩ := k
  exact ⟨span_t k1, within_t k2, within_t k3, span_t k4, within_t k5⟩

theorem cav_t {n : Nat} {hold oil : Int} {F : Nat → Nat → Int} (k : cavB n hold oil F = true) : (1 ≤ n ∧ n ≤ 10) ∧ (1 ≤ hold ∧ hold ≤ 300) ∧ (0 ≤ oil ∧ oil ≤ 10000000000000) ∧ ∀ s, s < n → rowB F s = true := by
  simp only [cavB, headB, Bool.and_eq_true] at k
  obtain ⟨⟨⟨k1, k2⟩, k3⟩, k4⟩ := k
  have := within_t k1
  exact ⟨by omega, within_t k2, within_t k3, fun s hs => allB_get k4 hs⟩

theorem stage_t {n : Nat} {wa i o bl : Int} (k : stageB n wa i o bl = true) : (1 ≤ wa ∧ wa ≤ 1000000) ∧ (0 ≤ i ∧ i ≤ n - 1) ∧ (0 ≤ o ∧ o ≤ n - 1) ∧ i ≠ o ∧ (0 ≤ bl ∧ bl ≤ n) := by
  simp only [stageB, Bool.and_eq_true, decide_eq_true_eq] at k
  obtain ⟨⟨⟨⟨k1, k2⟩, k3⟩, k4⟩, k5⟩ := k
  exact ⟨within_t k1, within_t k2, within_t k3, k4, within_t k5⟩

theorem allB_congr {f g : Nat → Bool} : ∀ {n : Nat}, (∀ k, k < n → f k = g k) → allB f n = allB g n
  | 0, _ => rfl
  | n + 1, h => by simp only [allB]; rw [allB_congr (fun k hk => h k (by omega)), h n (by omega)]

theorem cavB_congr {n : Nat} {hold oil : Int} {F F' : Nat → Nat → Int} (h : ∀ s j, s < n → j < 7 → F s j = F' s j) : cavB n hold oil F = cavB n hold oil F' := by
  simp only [cavB]
  rw [allB_congr (g := rowB F') (fun k hk => by simp only [rowB]; rw [h k 0 hk (by omega), h k 1 hk (by omega), h k 2 hk (by omega), h k 3 hk (by omega), h k 4 hk (by omega), h k 5 hk (by omega), h k 6 hk (by omega)])]

def aux (wa bl oil : Int) (v : Nat) : Int := if v = 1 then wa else if v = 2 then bl else oil

/-- The start of a call whose cavern and stage are as defined. -/
structure Begun (w : World) (b off n cap i o : Nat) (hold oil wa bl : Int) (F : Nat → Nat → Int) : Prop where
  hs : Sl w (.slice (some ⟨b, off, none⟩) n cap) n F
  hF : ∀ s, n ≤ s → ∀ j, F s j = 0
  cav : cavB n hold oil F = true
  stage : stageB n wa i o bl = true

section
variable {w : World} {b off n cap i o : Nat} {hold oil wa bl : Int} {F : Nat → Nat → Int} (S : Begun w b off n cap i o hold oil wa bl F)
include S

theorem Begun.good : Good hold F i o := by
  obtain ⟨_, ⟨h1, h2⟩, _, h3⟩ := cav_t S.cav
  have key : ∀ s, 0 ≤ F s 4 ∧ F s 4 ≤ F s 5 ∧ F s 5 ≤ 300 := fun s => by
    by_cases hs : s < n
    · exact (row_t (h3 s hs)).2.2.2.1
    · have h4 := S.hF s (by omega) 4
      have h5 := S.hF s (by omega) 5
      omega
  exact ⟨h1, h2, fun k => (key _).1, fun k => (key _).2.1, fun k => (key _).2.2⟩

theorem Begun.io : i < 10 ∧ o < 10 ∧ i < n ∧ o < n := by
  have h1 := cav_t S.cav
  have h2 := stage_t S.stage
  omega

theorem Begun.fits : Fits n i o (vals hold (aux wa bl oil) F i o) := by
  have h1 := cav_t S.cav
  refine ⟨?_, ?_⟩
  · show cavB n hold oil (fun s j => val hold (aux wa bl oil) F i o (vF s j)) = true
    rw [cavB_congr (F' := F) (fun s j hs hj => val_F (by omega) hj)]
    exact S.cav
  · exact S.stage

theorem Begun.holds : (ctx n i o).holds (vals hold (aux wa bl oil) F i o) := LR.holds S.good S.io.1 S.io.2.1 S.fits

def Begun.env : Env (ctx n i o) := frnEnv (vals hold (aux wa bl oil) F i o) vals_one S.holds [⟨b, off, cap * 7⟩] w.heap.size

omit S in
theorem sliceC_bd {G : Ctx} {s r : Nat} (hr : r < 7) (hrow : rowB F s = true) : ∃ lo hi, (sliceC s : List (AV G))[r]? = some (.sx (.v (vF s r)) lo hi) ∧ lo ≤ F s r ∧ F s r ≤ hi := by
  obtain ⟨h0, h2, h3, h4, h6⟩ := row_t hrow
  match r, hr with
  | 0, _ => exact ⟨_, _, rfl, by omega, by omega⟩
  | 1, _ => exact ⟨_, _, rfl, by omega, by omega⟩
  | 2, _ => exact ⟨_, _, rfl, by omega, by omega⟩
  | 3, _ => exact ⟨_, _, rfl, by omega, by omega⟩
  | 4, _ => exact ⟨_, _, rfl, by omega, by omega⟩
  | 5, _ => exact ⟨_, _, rfl, by omega, by omega⟩
  | 6, _ => exact ⟨_, _, rfl, by omega, by omega⟩

theorem Begun.hr : HR S.env (frnH [slicesC n 0]) w := by
  obtain ⟨⟨hn1, hn2⟩, _, _, hrows⟩ := cav_t S.cav
  rcases S.hs with ⟨_, _, _, h⟩ | ⟨b', off', cap', h1, h2, h3, h4, h5⟩
  · omega
  · cases h1
    refine HR.frn _ _ rfl fun x c p hx hp => ?_
    match x, hx, hp with
    | 0, hx, hp =>
      simp at hx hp; subst hx hp
      refine ⟨h2, fun j a ha => ?_⟩
      have hj : j < n * 7 := by
        have := (List.getElem?_eq_some_iff.1 ha).1
        rw [slicesC_len] at this; exact this
      have hq : j / 7 < n := by omega
      have hr : j % 7 < 7 := by omega
      have hj' : j = j / 7 * 7 + j % 7 := by omega
      obtain ⟨lo, hi, g1, g2, g3⟩ := sliceC_bd (G := ctx n i o) hr (hrows _ hq)
      have hat := slicesC_at (G := ctx n i o) n 0 (j / 7) (j % 7) hq hr
      rw [← hj', Nat.zero_add, g1] at hat
      rw [hat] at ha
      cases ha
      have hc := h5 (j / 7) (j % 7) hq hr
      rw [← hj'] at hc
      refine ⟨_, hc, ?_⟩
      have hv : val hold (aux wa bl oil) F i o (vF (j / 7) (j % 7)) = F (j / 7) (j % 7) := val_F (by omega) hr
      simp only [VR, SX.eval, frnEnv, vals, valI, hv]
      exact ⟨trivial, g2, g3⟩
    | x + 1, hx, _ => simp at hx

theorem Begun.args : VRs S.env [cavA n, stageA i o] #[Value.agg #[.slice (some ⟨b, off, none⟩) n cap, .int .i64 hold, .int .i64 oil], Value.agg #[.int .i64 wa, .int .i64 i, .int .i64 o, .int .i64 bl]].toList := by
  have h1 := cav_t S.cav
  have h2 := stage_t S.stage
  rcases S.hs with ⟨_, _, _, h⟩ | ⟨b', off', cap', h3, h4, h5, h6, h7⟩
  · omega
  · cases h3
    simp only [VRs, cavA, stageA, VR, SX.eval, Begun.env, frnEnv]
    refine ⟨_, _, rfl, ⟨_, rfl, _, _, rfl, ⟨b, off, cap, by simp, rfl, h5, by simp, fun _ _ => by simp⟩, _, _, rfl, ⟨rfl, h1.2.1⟩, _, _, rfl, ⟨rfl, h1.2.2.1⟩, rfl⟩, _, _, rfl, ⟨_, rfl, _, _, rfl, ⟨rfl, h2.1⟩, _, _, rfl, rfl, _, _, rfl, rfl, _, _, rfl, ⟨rfl, ?_, ?_⟩, rfl⟩, rfl⟩
    · exact h2.2.2.2.2.1
    · have := h2.2.2.2.2.2
      show bl ≤ 10
      omega
end
end Go.Ev.LR

namespace Go.Ev.LR
open Go.Proofs.W Go.RowKit

def chk1 (n i o : Nat) : Bool := okPair n (outC i o n 0) (evK P (K n i o) (drawA P) 20000 (.call 7 [cavA n, stageA i o] (frnH [slicesC n 0])))
def chk2 (n i o : Nat) : Bool := okRow n (outC i o n 0) (evK P (K n i o) (drawA P) 20000 (.call 11 [cavA n, stageA i o] (frnH [slicesC n 0])))

/-- A new row of spans. -/
def NewRow (w : World) (n : Nat) (L H : Nat → Int) (v : Value) (w' : World) : Prop :=
  ∃ (bk : Nat) (c : Array Value) (t : TypeId), v = .slice (some ⟨bk, 0, none⟩) n n ∧ Below w.heap.size w w' ∧ w.heap.size ≤ bk ∧ w'.heap[bk]? = some (.cells c t (0, 0)) ∧ ∀ s, s < n → c[2 * s]? = some (.int .i64 (L s)) ∧ c[2 * s + 1]? = some (.int .i64 (H s))

section
variable {w : World} {b off n cap i o : Nat} {hold oil wa bl : Int} {F : Nat → Nat → Int} (S : Begun w b off n cap i o hold oil wa bl F)
include S

omit S in
theorem cellL_val {e' : Env (ctx n i o)} (he : e'.opq = vals hold (aux wa bl oil) F i o) {s : Nat} {v : Value} (h : VR e' (cellL i o s) v) : v = .int .i64 (specL hold F i o s) := by
  unfold cellL at h
  unfold specL
  split at h
  · rename_i k hk
    try rw [hk]
    simp only [VR, SX.eval, he, vals, valI] at h
    rw [h.1]
    congr 1
    exact val_P (j := 4) (by omega)
  · rename_i hk
    try rw [hk]
    exact h.int

omit S in
theorem cellH_val {e' : Env (ctx n i o)} (he : e'.opq = vals hold (aux wa bl oil) F i o) {s : Nat} {v : Value} (h : VR e' (cellH i o s) v) : v = .int .i64 (specH hold F i o s) := by
  unfold cellH at h
  unfold specH
  split at h
  · rename_i k hk
    try rw [hk]
    simp only [VR, SX.eval, he, vals, valI] at h
    rw [h.1]
    congr 1
    exact val_P (j := 5) (by omega)
  · rename_i hk
    try rw [hk]
    exact h.int

theorem newRow_of {e' : Env (ctx n i o)} {w' : World} {h' : AH (ctx n i o)} {id g : Nat} {v : Value} (St' : St S.env (frnH [slicesC n 0]) w e' h' w') (hid : h'.objs.get id = some (.cells (outC i o n 0) (some g))) (hv : VR e' (.slice id 0 n n false) v) :
    NewRow w n (specL hold F i o) (specH hold F i o) v w' := by
  have hO := St'.hr.obj _ _ hid
  obtain ⟨bk, k1, k2, c, t, k3, _, k4⟩ := hO
  obtain ⟨b', o', c', q1, q2, q3, q4, _⟩ := hv.slice
  rw [k1] at q1; cases q1
  have e4 := q4 rfl
  rw [e4] at q2
  have he : e'.opq = vals hold (aux wa bl oil) F i o := St'.le.opq
  have hb : e'.base = w.heap.size := St'.le.base
  refine ⟨bk, c, t, q2, St'.below S.hr, by rw [← hb]; exact k2, k3, fun s hs => ?_⟩
  obtain ⟨a1, a2⟩ := outC_at (G := ctx n i o) (i := i) (o := o) n 0 s hs
  rw [Nat.zero_add] at a1 a2
  obtain ⟨v1, b1, b2⟩ := k4 _ _ a1
  obtain ⟨v2, c1, c2⟩ := k4 _ _ a2
  have := cellL_val he b2; subst this
  have := cellH_val he c2; subst this
  exact ⟨b1, c1⟩

theorem rates_good (hc : chk1 n i o = true) :
    Calls P 7 #[.agg #[.slice (some ⟨b, off, none⟩) n cap, .int .i64 hold, .int .i64 oil], .agg #[.int .i64 wa, .int .i64 i, .int .i64 o, .int .i64 bl]] w
      fun e w' => ∃ v, e = .returned (.tuple #[v, .int .i64 0]) ∧ NewRow w n (specL hold F i o) (specH hold F i o) v w' := by
  have hn := cav_t S.cav
  obtain ⟨id, g, h', hr, hid⟩ := okPair_spec hc
  have k := evK_sound P (K_ok (i := i) (o := o) hn.1.1 hn.1.2) 20000 _ _ hr
  refine (callsIn_wide (n := 0)).1 (k S.env _ w 0 _ S.hr S.args (fun e' v' w' St' hv => ?_))
  obtain ⟨xs, rfl, hx⟩ := hv.tuple
  simp only [VRs] at hx
  obtain ⟨v1, l, hl, hv1, v2, l2, rfl, hv2, rfl⟩ := hx
  cases hv2.int
  obtain ⟨l⟩ := xs
  simp only at hl; subst hl
  exact ⟨v1, rfl, newRow_of S St' hid hv1⟩

theorem rrates_good (hc : chk2 n i o = true) :
    Calls P 11 #[.agg #[.slice (some ⟨b, off, none⟩) n cap, .int .i64 hold, .int .i64 oil], .agg #[.int .i64 wa, .int .i64 i, .int .i64 o, .int .i64 bl]] w
      fun e w' => ∃ v, e = .returned v ∧ NewRow w n (specL hold F i o) (specH hold F i o) v w' := by
  have hn := cav_t S.cav
  obtain ⟨id, g, h', hr, hid⟩ := okRow_spec hc
  have k := evK_sound P (K_ok (i := i) (o := o) hn.1.1 hn.1.2) 20000 _ _ hr
  exact (callsIn_wide (n := 0)).1 (k S.env _ w 0 _ S.hr S.args (fun e' v' w' St' hv => ⟨v', rfl, newRow_of S St' hid hv⟩))
end

/-! ### Two rows of the same spans -/
def spanC {G : Ctx} : Nat → List (AV G)
  | 0 => []
  | k + 1 => spanC k ++ [.sx (.v (2 * k)) 0 300, .sx (.v (2 * k + 1)) 0 300]
def chk3 (n : Nat) : Bool := saysB true (evF (G := plain) P (drawA P) 20000 (.call 10 [.slice 0 0 n n false, .slice 1 0 n n false] (frnH [spanC n, spanC n])))

theorem spanC_len {G : Ctx} : ∀ n, (spanC n : List (AV G)).length = 2 * n
  | 0 => rfl
  | k + 1 => by simp [spanC, spanC_len k]; omega
theorem spanC_get {G : Ctx} : ∀ (n j : Nat) (a : AV G), (spanC n)[j]? = some a → a = .sx (.v j) 0 300 ∧ j < 2 * n
  | 0, j, a, h => by simp [spanC] at h
  | k + 1, j, a, h => by
    simp only [spanC] at h
    by_cases hj : j < 2 * k
    · rw [List.getElem?_append_left (by rw [spanC_len]; exact hj)] at h
      have := spanC_get k j a h
      exact ⟨this.1, by omega⟩
    · rw [List.getElem?_append_right (by rw [spanC_len]; omega), spanC_len] at h
      have h2 : j - 2 * k = 0 ∨ j - 2 * k = 1 := by
        have := (List.getElem?_eq_some_iff.1 h).1
        simp at this; omega
      rcases h2 with h2 | h2
      · rw [h2] at h; simp at h
        have : j = 2 * k := by omega
        subst this; exact ⟨h.symm, by omega⟩
      · rw [h2] at h; simp at h
        have : j = 2 * k + 1 := by omega
        subst this; exact ⟨h.symm, by omega⟩

theorem same_good {w : World} {n b1 b2 : Nat} {c1 c2 : Array Value} {t1 t2 : TypeId} {L H : Nat → Int} (hc : chk3 n = true)
    (h1 : w.heap[b1]? = some (.cells c1 t1 (0, 0))) (h2 : w.heap[b2]? = some (.cells c2 t2 (0, 0)))
    (g1 : ∀ s, s < n → c1[2 * s]? = some (.int .i64 (L s)) ∧ c1[2 * s + 1]? = some (.int .i64 (H s)))
    (g2 : ∀ s, s < n → c2[2 * s]? = some (.int .i64 (L s)) ∧ c2[2 * s + 1]? = some (.int .i64 (H s)))
    (hb : ∀ s, s < n → (0 ≤ L s ∧ L s ≤ 300) ∧ (0 ≤ H s ∧ H s ≤ 300)) :
    Calls P 10 #[.slice (some ⟨b1, 0, none⟩) n n, .slice (some ⟨b2, 0, none⟩) n n] w fun e w' => e = .returned (.bool true) ∧ Below w.heap.size w w' := by
  obtain ⟨hh, hr⟩ := saysB_spec hc
  have k := evF_sound P 20000 _ _ hr
  let oo : Nat → Value := fun j => .int .i64 (if j % 2 = 0 then L (j / 2) else H (j / 2))
  have key : ∀ {bb : Nat} {c : Array Value} {t : TypeId}, w.heap[bb]? = some (.cells c t (0, 0)) → (∀ s, s < n → c[2 * s]? = some (.int .i64 (L s)) ∧ c[2 * s + 1]? = some (.int .i64 (H s))) → ∀ (e : Env plain), e.opq = oo →
      ∀ (j : Nat) (a : AV plain), (spanC n)[j]? = some a → ∃ v, w.cell? ⟨bb, 0 + j, none⟩ = some v ∧ VR e a v := by
    intro bb c t hbb hg e he j a ha
    obtain ⟨rfl, hj⟩ := spanC_get n j a ha
    have hcell : w.cell? ⟨bb, 0 + j, none⟩ = c[j]? := by
      simp [World.cell?, hbb]
    rw [hcell]
    obtain ⟨q1, q2⟩ := hb (j / 2) (by omega)
    by_cases hp : j % 2 = 0
    · have e1 : 2 * (j / 2) = j := by omega
      have := (hg (j / 2) (by omega)).1
      rw [e1] at this
      refine ⟨_, this, ?_⟩
      simp only [VR, SX.eval, he, oo, valI, if_pos hp]
      exact ⟨trivial, q1⟩
    · have e1 : 2 * (j / 2) + 1 = j := by omega
      have := (hg (j / 2) (by omega)).2
      rw [e1] at this
      refine ⟨_, this, ?_⟩
      simp only [VR, SX.eval, he, oo, valI, if_neg hp]
      exact ⟨trivial, q2⟩
  have l1 := (Array.getElem?_eq_some_iff.1 h1).1
  have l2 := (Array.getElem?_eq_some_iff.1 h2).1
  have HH : HR (frnEnv (G := plain) oo (fun _ => rfl) (plain_holds _) [⟨b1, 0, 0⟩, ⟨b2, 0, 0⟩] w.heap.size) (frnH [spanC n, spanC n]) w := by
    refine HR.frn _ _ rfl fun x c p hx hp => ?_
    match x, hx, hp with
    | 0, hx, hp => simp at hx hp; subst hx hp; exact ⟨l1, key h1 g1 _ rfl⟩
    | 1, hx, hp => simp at hx hp; subst hx hp; exact ⟨l2, key h2 g2 _ rfl⟩
    | x + 2, hx, _ => simp at hx
  refine (callsIn_wide (n := 0)).1 (k _ _ w 0 _ HH ?_ (fun e' v' w' S hv => ?_))
  · simp only [VRs, VR, frnEnv]
    exact ⟨_, _, rfl, ⟨b1, 0, n, by simp, rfl, by omega, fun _ => rfl, by simp⟩, _, _, rfl, ⟨b2, 0, n, by simp, rfl, by omega, fun _ => rfl, by simp⟩, rfl⟩
  · cases hv.bool
    exact ⟨rfl, S.below HH⟩
end Go.Ev.LR

namespace Go.Ev.LR
/-- All places but one. -/
def allO (f : Nat → Nat → Nat → Bool) (n i : Nat) : Nat → Bool
  | 0 => true
  | o + 1 => Bool.rec (Bool.rec false (allO f n i o) (f n i o)) (allO f n i o) (Nat.beq i o)

theorem allO_spec {f : Nat → Nat → Nat → Bool} {n i : Nat} : ∀ {m : Nat}, allO f n i m = true → ∀ o, o < m → i ≠ o → f n i o = true
  | 0, _, o, h, _ => by omega
  | m + 1, ha, o, h, hne => by
    change (Bool.rec (Bool.rec false (allO f n i m) (f n i m)) (allO f n i m) (Nat.beq i m) : Bool) = true at ha
    cases hb : Nat.beq i m with
    | true =>
      rw [hb] at ha
      have := Nat.eq_of_beq_eq_true hb
      exact allO_spec (m := m) ha o (by omega) hne
    | false =>
      rw [hb] at ha
      cases hf : f n i m with
      | false => simp only [hf] at ha; cases ha
      | true =>
        simp only [hf] at ha
        by_cases ho : o = m
        · subst ho; exact hf
        · exact allO_spec (m := m) ha o (by omega) hne
end Go.Ev.LR

