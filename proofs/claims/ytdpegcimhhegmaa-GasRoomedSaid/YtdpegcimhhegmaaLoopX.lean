import Derived.Test.YtdpegcimhhegmaaRuleN
import Derived.Test.YtdpegcimhhegmaaBigN
import Derived.Test.YtdpegcimhhegmaaLoop
import Derived.Test.YtdpegcimhhegmaaLoopP
set_option linter.unusedVariables false
set_option linter.unusedSimpArgs false
set_option linter.unusedSectionVars false
noncomputable section
set_option maxRecDepth 1000000
set_option maxHeartbeats 0
namespace Go.Ev.Gas
open Go.RowKit Go.Ev.Num
/-! ### What hangs on few names -/
mutual
theorem valOf_low {n : Nat} {o o' : Nat → Value} (h : ∀ j, j < n → o j = o' j) : ∀ a : AV plain, fits 0 n a = true → valOf o a = valOf o' a
  | .bool _, _ => by simp only [valOf]
  | .int _ _, _ => by simp only [valOf]
  | .str _, _ => by simp only [valOf]
  | .nilp, _ => by simp only [valOf]
  | .nils, _ => by simp only [valOf]
  | .nilm, _ => by simp only [valOf]
  | .nilf, _ => by simp only [valOf]
  | .nili, _ => by simp only [valOf]
  | .ptr _ _, _ => by simp only [valOf]
  | .func _ _ _, _ => by simp only [valOf]
  | .agg cs, hf => by simp only [fits] at hf; simp only [valOf, valsOf_low h cs hf]
  | .tuple cs, hf => by simp only [fits] at hf; simp only [valOf, valsOf_low h cs hf]
  | .sx x _ _, hf => by simp only [fits] at hf; simp only [valOf, sxLt_eval h x hf]
  | .slice _ _ _ _ _, _ => by simp only [valOf]
  | .map _, _ => by simp only [valOf]
  | .yield _, _ => by simp only [valOf]
  | .iface _ _, _ => by simp only [valOf]
  | .opq _, _ => by simp only [valOf]
theorem valsOf_low {n : Nat} {o o' : Nat → Value} (h : ∀ j, j < n → o j = o' j) : ∀ a : List (AV plain), fitsL 0 n a = true → valsOf o a = valsOf o' a
  | [], _ => by simp only [valsOf]
  | a :: r, hf => by
    simp only [fitsL, Bool.and_eq_true] at hf
    simp only [valsOf, valOf_low h a hf.1, valsOf_low h r hf.2]
end
mutual
theorem bnd_low {n : Nat} {o o' : Nat → Value} (h : ∀ j, j < n → o j = o' j) : ∀ a : AV plain, fits 0 n a = true → (bnd o a ↔ bnd o' a)
  | .bool _, _ => by simp only [bnd]
  | .int _ _, _ => by simp only [bnd]
  | .str _, _ => by simp only [bnd]
  | .nilp, _ => by simp only [bnd]
  | .nils, _ => by simp only [bnd]
  | .nilm, _ => by simp only [bnd]
  | .nilf, _ => by simp only [bnd]
  | .nili, _ => by simp only [bnd]
  | .ptr _ _, _ => by simp only [bnd]
  | .func _ _ _, _ => by simp only [bnd]
  | .agg cs, hf => by simp only [fits] at hf; simp only [bnd, bnds_low h cs hf]
  | .tuple cs, hf => by simp only [fits] at hf; simp only [bnd, bnds_low h cs hf]
  | .sx x _ _, hf => by simp only [fits] at hf; simp only [bnd, sxLt_eval h x hf]
  | .slice _ _ _ _ _, _ => by simp only [bnd]
  | .map _, _ => by simp only [bnd]
  | .yield _, _ => by simp only [bnd]
  | .iface _ _, _ => by simp only [bnd]
  | .opq _, _ => by simp only [bnd]
theorem bnds_low {n : Nat} {o o' : Nat → Value} (h : ∀ j, j < n → o j = o' j) : ∀ a : List (AV plain), fitsL 0 n a = true → (bnds o a ↔ bnds o' a)
  | [], _ => by simp only [bnds]
  | a :: r, hf => by
    simp only [fitsL, Bool.and_eq_true] at hf
    simp only [bnds, bnd_low h a hf.1, bnds_low h r hf.2]
end
/-- Names below 100000 are numbers. -/
def NumZ (z : Nat → Int) (o : Nat → Value) : Prop := ∀ j, j < 100000 → o j = .int .i64 (z j)
/-- A contract at numbers that a context tells. -/
theorem con_num {X : (Nat → Int) → Prop} {k : KC} {a : AV plain} (ho : k.obj = none) (hr : k.res = .ret a) (hpa : puresA k.args = true) (hp : pureA a = true) (hfa : fitsL 0 100000 k.args = true) (hf : fits 0 100000 a = true)
    (h : ∀ z, X z → Gives (Fence.there P) k.f (valsOf (ov z) k.args).toArray (valOf (ov z) a) ∧ bnd (ov z) a) : Con P (Fence.there P) (fun o => ∃ z, NumZ z o ∧ X z) k :=
  con_val ho hr hpa hp fun o ⟨z, hz, hX⟩ => by
    have e : ∀ j, j < 100000 → o j = ov z j := fun j hj => hz j hj
    rw [valsOf_low e _ hfa, valOf_low e _ hf, bnd_low e _ hf]
    exact h z hX
/-! ### So many lots, and what is behind them -/
def zl (z : Nat → Int) (k : Int) (i : Nat) : Int :=
  match i with
  | 28 => 1 | 19 => k * z 30 | 20 => k * z 31 | 21 => z 32 | 22 => k * z 33 | 23 => 0 | 24 => 0 | 25 => 0 | 26 => 0 | 27 => 0 | _ => z i
/-- The state behind. -/
def zs (z : Nat → Int) (i : Nat) : Int :=
  match i with
  | 11 => aft z 0 | 12 => aft z 1 | 13 => aft z 2 | 14 => aft z 3 | 15 => aft z 4 | 16 => aft z 5 | 17 => aft z 6 | 18 => aft z 7 | _ => z i
/-- The names of a round with operation y. -/
def nm (z y : Nat → Int) (k : Int) (i : Nat) : Int :=
  match i with
  | 200 => k
  | 210 => aft y 0 | 211 => aft y 1 | 212 => aft y 2 | 213 => aft y 3 | 214 => aft y 4 | 215 => aft y 5 | 216 => aft y 6 | 217 => aft y 7
  | 218 => sureN (zs y) | 219 => pureN (zs y)
  | _ => z i
theorem op_lots {z : Nat → Int} (hl : poiP z) {k : Int} (h0 : 0 ≤ k) (h1 : k ≤ 100) : op1b (zl z k) := by
  simp only [poiP] at hl
  have e : ∀ x M : Int, 0 ≤ x → x ≤ M → 0 ≤ k * x ∧ k * x ≤ 100 * M := fun x M a b => mulB h0 h1 a b
  have a := e (z 30) 1000000 (by omega) (by omega)
  have b := e (z 31) 1000000 (by omega) (by omega)
  have c := e (z 33) 1000000000 (by omega) (by omega)
  refine ⟨rfl, a, b, (show 2000 ≤ z 32 ∧ z 32 ≤ 5000 by omega), c, rfl, rfl, rfl, rfl, rfl⟩
theorem st_behind {y : Nat → Int} (hc : cavP y) (hs : stP y) (ho : opP y) (h : can y) : stP (zs y) := by
  have := (aft_in hc hs ho h).1
  simp only [StI] at this
  exact this
theorem pureN_in (y : Nat → Int) : 1 ≤ pureN y ∧ pureN y ≤ 5 := by unfold pureN; split; omega; split <;> omega
theorem pureN_bad {y : Nat → Int} (h : pureN y ≠ 1) : 4 ≤ pureN y ∧ pureN y ≤ 5 := by
  revert h; unfold pureN; split
  · omega
  · split <;> omega
theorem sureN_bad {y : Nat → Int} (h : sureN y ≠ 1) : 2 ≤ sureN y ∧ sureN y ≤ 5 := by
  revert h; unfold sureN; split
  · omega
  · split
    · omega
    · intro h; have := pureN_bad h; omega
/-- An operation can be done, and leaves a fine state. -/
def okL (y : Nat → Int) : Prop := can y ∧ sureN (zs y) = 1
/-- One that leaves a state with just enough hydrogen. -/
def okP (y : Nat → Int) : Prop := can y ∧ pureN (zs y) = 1
noncomputable def opK : AV plain := .agg [one 1, .sx (.bin 2 (.bin 0 (.v 200) (.c 1)) (.v 30)) 0 101000000, .sx (.bin 2 (.bin 0 (.v 200) (.c 1)) (.v 31)) 0 101000000, iv 32 2000 5000, .sx (.bin 2 (.bin 0 (.v 200) (.c 1)) (.v 33)) 0 101000000000, Z, Z, Z, Z, Z]
noncomputable def stN : AV plain := .agg [iv 210 0 1000000, iv 211 0 1000000, iv 212 0 1000000, iv 213 0 1000000, iv 214 2000 5000, iv 215 2000 5000, iv 216 0 1000000000, iv 217 0 1000000000]
noncomputable def z6 : AV plain := .agg [Z, Z, Z, Z, Z, Z]
noncomputable def z8 : AV plain := .agg [Z, Z, Z, Z, Z, Z, Z, Z]
noncomputable def kGo : KC := { f := 68, args := [cavA, stA, opK], res := .ret (.tuple [stN, z6, .bool true]) }
noncomputable def kNoDo : KC := { f := 68, args := [cavA, stA, opK], res := .ret (.tuple [z8, z6, .bool false]) }
noncomputable def kFine : KC := { f := 57, args := [cavA, stN, .int .i64 2], res := .ret (.int .i64 1) }
noncomputable def kBad : KC := { f := 57, args := [cavA, stN, .int .i64 2], res := .ret (iv 218 2 5) }
/-- A round's numbers. -/
def Xr (q : (Nat → Int) → Prop) (y : Nat → Int) : Prop := ∃ z : Nat → Int, ∃ k : Int, cavP z ∧ stP z ∧ poiP z ∧ 0 ≤ k ∧ k < 100 ∧ q (zl z (k + 1)) ∧ y = nm z (zl z (k + 1)) k
theorem bnd_st {y z : Nat → Int} {k : Int} (h : stP (zs y)) : bnd (ov (nm z y k)) stN := by
  simp only [stP] at h
  simp only [stN, bnd, bnds, iv, SX.eval, ov, valI, nm, and_true]
  simp only [zs] at h
  omega
theorem bnd_go {o : Nat → Value} (h : bnd o stN) : bnd o (.tuple [stN, z6, .bool true]) :=
  show bnd o stN ∧ bnd o z6 ∧ bnd o (.bool true) ∧ True from ⟨h, by simp only [z6, bnd, bnds, Z, and_self], by simp only [bnd], trivial⟩
theorem bnd_no (o : Nat → Value) : bnd o (.tuple [z8, z6, .bool false]) :=
  show bnd o z8 ∧ bnd o z6 ∧ bnd o (.bool false) ∧ True from ⟨by simp only [z8, bnd, bnds, Z, and_self], by simp only [z6, bnd, bnds, Z, and_self], by simp only [bnd], trivial⟩
theorem cGo : Con P (Fence.there P) (fun o => ∃ y, NumZ y o ∧ Xr can y) kGo := con_num rfl rfl (by decide +kernel) (by decide +kernel) (by decide +kernel) (by decide +kernel) fun y ⟨z, k, hc, hs, hl, h0, h1, hq, hy⟩ => by
  subst hy
  have ho := op_lots hl (k := k + 1) (by omega) (by omega)
  obtain ⟨hop, hB⟩ := (do_big (z := zl z (k + 1)) hc hs (.inl ho)).1 hq
  have e2 : gon (zl z (k + 1)) = zeros := by unfold gon; exact if_neg (show ¬ ((1 : Int) = 2) by omega)
  have := hB.1
  rw [e2] at this
  exact ⟨this, bnd_go (bnd_st (z := z) (k := k) (st_behind (y := zl z (k + 1)) hc hs hop hq))⟩
theorem cNoDo : Con P (Fence.there P) (fun o => ∃ y, NumZ y o ∧ Xr (fun y => ¬ can y) y) kNoDo := con_num rfl rfl (by decide +kernel) (by decide +kernel) (by decide +kernel) (by decide +kernel) fun y ⟨z, k, hc, hs, hl, h0, h1, hq, hy⟩ => by
  subst hy
  exact ⟨(do_big (z := zl z (k + 1)) hc hs (.inl (op_lots hl (by omega) (by omega)))).2 hq, bnd_no _⟩
theorem cFine : Con P (Fence.there P) (fun o => ∃ y, NumZ y o ∧ Xr okL y) kFine := con_num rfl rfl (by decide +kernel) (by decide +kernel) (by decide +kernel) (by decide +kernel) fun y ⟨z, k, hc, hs, hl, h0, h1, hq, hy⟩ => by
  subst hy
  have hop := ((do_big (z := zl z (k + 1)) hc hs (.inl (op_lots hl (by omega) (by omega)))).1 hq.1).1
  have := rule_low (z := zs (zl z (k + 1))) hc (st_behind (y := zl z (k + 1)) hc hs hop hq.1)
  rw [hq.2] at this
  exact ⟨this, by simp only [bnd]⟩
theorem cBad : Con P (Fence.there P) (fun o => ∃ y, NumZ y o ∧ Xr (fun y => can y ∧ sureN (zs y) ≠ 1) y) kBad := con_num rfl rfl (by decide +kernel) (by decide +kernel) (by decide +kernel) (by decide +kernel) fun y ⟨z, k, hc, hs, hl, h0, h1, hq, hy⟩ => by
  subst hy
  have hop := ((do_big (z := zl z (k + 1)) hc hs (.inl (op_lots hl (by omega) (by omega)))).1 hq.1).1
  have := rule_low (z := zs (zl z (k + 1))) hc (st_behind (y := zl z (k + 1)) hc hs hop hq.1)
  exact ⟨this, sureN_bad hq.2⟩
theorem Xr.mono {q q' : (Nat → Int) → Prop} {o : Nat → Value} (h : ∀ y, q y → q' y) : (∃ y, NumZ y o ∧ Xr q y) → ∃ y, NumZ y o ∧ Xr q' y :=
  fun ⟨y, h1, z, k, hc, hs, hl, h2, h3, hq, hy⟩ => ⟨y, h1, z, k, hc, hs, hl, h2, h3, h _ hq, hy⟩
end Go.Ev.Gas
end

noncomputable section
namespace Go.Ev.Gas
noncomputable def frameOf {G : Ctx} : Option (Res G) → List (AV G)
  | some (.at_ _ a _) => listT a.tmps a.tmps.n 0
  | _ => []
noncomputable def kk : AV plain := .sx (.v 200) 0 100
noncomputable def kn : AV plain := .sx (.bin 0 (.v 200) (.c 1)) 1 101
noncomputable def Ggo (q : (Nat → Int) → Prop) : Ctx := ⟨[], [(.v 200, .c 100, true)], [], fun o => ∃ y, NumZ y o ∧ Xr q y⟩
noncomputable def Gend : Ctx := ⟨[], [(.v 200, .c 100, false)], [], fun _ => True⟩
def notCan (y : Nat → Int) : Prop := ¬ can y
def badL (y : Nat → Int) : Prop := can y ∧ sureN (zs y) ≠ 1
end Go.Ev.Gas
end

