import Derived.Test.YtdpegcimhhegmaaRoH
import Derived.Test.YtdpegcimhhegmaaLoopN
import Derived.Test.YtdpegcimhhegmaaRoF
import Derived.Test.YtdpegcimhhegmaaRoG
import Derived.Test.YtdpegcimhhegmaaPurD
set_option linter.unusedVariables false
set_option linter.unusedSimpArgs false
set_option linter.unusedSectionVars false
noncomputable section
set_option maxRecDepth 1000000
set_option maxHeartbeats 0
namespace Go.Ev.Gas
open Go.RowKit Go.Ev.Num
theorem most_one {YY : (Nat → Int) → Int → Nat → Int} {z : Nat → Int} {m m' : Nat} (h : IsMost YY z m) (h' : IsMost YY z m') : m' = m := by
  rcases Nat.lt_trichotomy m m' with k | k | k
  · exact absurd (by have := h'.2.1 (m + 1) (by omega) (by omega); push_cast at this; exact this) (h.2.2 (by have := h'.1; omega))
  · exact k.symm
  · exact absurd (by have := h.2.1 (m' + 1) (by omega) (by omega); push_cast at this; exact this) (h'.2.2 (by have := h.1; omega))
theorem most_is (YY : (Nat → Int) → Int → Nat → Int) (z : Nat → Int) : ∃ m : Nat, IsMost YY z m := by
  have key : ∀ k : Nat, k ≤ 100 → (∀ j : Nat, 1 ≤ j → j ≤ k → okL (YY z j)) ∨ ∃ m : Nat, m < k ∧ (∀ j : Nat, 1 ≤ j → j ≤ m → okL (YY z j)) ∧ ¬ okL (YY z ((m : Int) + 1)) := fun k => by
    induction k with
    | zero => exact fun _ => .inl fun j h1 h2 => by omega
    | succ k ih =>
      intro hk
      rcases ih (by omega) with ih | ⟨m, h1, h2, h3⟩
      · by_cases h : okL (YY z ((k : Int) + 1))
        · refine .inl fun j h1 h2 => ?_
          by_cases e : j = k + 1
          · subst e; push_cast; exact h
          · exact ih j h1 (by omega)
        · exact .inr ⟨k, by omega, ih, h⟩
      · exact .inr ⟨m, by omega, h2, h3⟩
  rcases key 100 (by omega) with h | ⟨m, h1, h2, h3⟩
  · exact ⟨100, by omega, h, fun h => by omega⟩
  · exact ⟨m, by omega, h2, fun _ => h3⟩
def nR (z : Nat → Int) (a b c : Int) (i : Nat) : Int :=
  match i with
  | 301 => a | 302 => b | 303 => c
  | _ => z i
def Xa (y : Nat → Int) : Prop := ∃ (z : Nat → Int) (m m' : Nat) (r : Int), cavP z ∧ stP z ∧ poiP z ∧ IsMost zl z m ∧ y = nR z m m' r
def Xb (y : Nat → Int) : Prop := ∃ (z : Nat → Int) (m m' : Nat) (r : Int), cavP z ∧ stP z ∧ unP z ∧ IsMost zw z m' ∧ y = nR z m m' r
def Xc (y : Nat → Int) : Prop := ∃ (z : Nat → Int) (m m' r : Nat), cavP z ∧ stP z ∧ poiP z ∧ PurgeN z r ∧ y = nR z m m' r
def Xd (y : Nat → Int) : Prop := ∃ (z : Nat → Int) (m m' : Nat) (r : Int), cavP z ∧ stP z ∧ poiP z ∧ PurgeNo z ∧ y = nR z m m' r
noncomputable def kM : KF := { f := 79, a := cavA, b := stA, fn := 97, row := [iv 30 0 1000000, iv 31 0 1000000, iv 32 2000 5000, iv 33 0 1000000000], res := iv 301 0 100 }
noncomputable def kMw : KF := { f := 79, a := cavA, b := stA, fn := 98, row := [iv 34 1 1000000], res := iv 302 0 100 }
theorem vr_num {y : Nat → Int} {o : Nat → Value} (hn : NumZ y o) {e0 : Env plain} (he : e0.opq = o) {a : AV plain} {v : Value} (hf : fits 0 100 a = true) (hp : pureA a = true) (h : VR e0 a v) : v = valOf (ov y) a := by
  have h2 := val_of a v hp h
  rw [h2, he]
  exact valOf_low (n := 100) (fun j hj => hn j (by omega)) a hf
theorem vr_cell {y : Nat → Int} {o : Nat → Value} (hn : NumZ y o) {e0 : Env plain} (he : e0.opq = o) {i : Nat} {lo hi : Int} {v : Value} (hi' : i < 100000) (h : VR e0 (iv i lo hi) v) : v = .int .i64 (y i) := by
  simp only [iv, VR] at h
  rw [h.1]; simp only [SX.eval, he, hn i hi', valI]
theorem cM : ConF P (Fence.there P) (fun o => ∃ y, NumZ y o ∧ Xa y) kM := by
  intro o ⟨y, hn, z, m, m', r, hc, hs, hl, hm, hy⟩ e0 va vb w n g he h1 h2 hg hrow
  subst hy
  have e1 : va = cavV z := vr_num hn he (by decide +kernel) (by decide +kernel) h1
  have e2 : vb = stV z := vr_num hn he (by decide +kernel) (by decide +kernel) h2
  subst e1 e2
  have c : ∀ (j i : Nat) (lo hi : Int), kM.row[j]? = some (iv i lo hi) → i < 300 → w.cell? ⟨g, j, none⟩ = some (.int .i64 (z i)) := fun j i lo hi hj hi' => by
    obtain ⟨v, hv1, hv2⟩ := hrow j _ hj
    rw [hv1, vr_cell hn he (by omega) hv2]
    congr 2
    unfold nR; split <;> first | omega | rfl
  refine (loop_mi hc hs hl g w n hg (c 0 30 _ _ rfl (by omega)) (c 1 31 _ _ rfl (by omega)) (c 2 32 _ _ rfl (by omega)) (c 3 33 _ _ rfl (by omega))).mono fun en w' ⟨m2, h3, h4, h5⟩ => ⟨⟨_, h4, ?_⟩, h5⟩
  have e3 := most_one hm h3
  subst e3
  have := h3.1
  have e4 : e0.opq 301 = .int .i64 (m2 : Int) := by rw [he, hn 301 (by omega)]; rfl
  simp only [kM, iv, VR, SX.eval, e4, valI]
  exact ⟨trivial, by omega, by omega⟩
theorem cMw : ConF P (Fence.there P) (fun o => ∃ y, NumZ y o ∧ Xb y) kMw := by
  intro o ⟨y, hn, z, m, m', r, hc, hs, hl, hm, hy⟩ e0 va vb w n g he h1 h2 hg hrow
  subst hy
  have e1 : va = cavV z := vr_num hn he (by decide +kernel) (by decide +kernel) h1
  have e2 : vb = stV z := vr_num hn he (by decide +kernel) (by decide +kernel) h2
  subst e1 e2
  obtain ⟨v, hv1, hv2⟩ := hrow 0 _ rfl
  have e5 : w.cell? ⟨g, 0, none⟩ = some (.int .i64 (z 34)) := by rw [hv1, vr_cell hn he (by omega) hv2]; rfl
  refine (loop_mw (z := z) hc hs hl g w n hg e5).mono fun en w' ⟨m2, h3, h4, h5⟩ => ⟨⟨_, h4, ?_⟩, h5⟩
  have e3 := most_one hm h3
  subst e3
  have := h3.1
  have e4 : e0.opq 302 = .int .i64 (m2 : Int) := by rw [he, hn 302 (by omega)]; rfl
  simp only [kMw, iv, VR, SX.eval, e4, valI]
  exact ⟨trivial, by omega, by omega⟩
noncomputable def k46 : KC := { f := 46, args := [cavA, stA, lotP], res := .ret (iv 301 0 100) }
noncomputable def k45 : KC := { f := 45, args := [cavA, stA, iv 34 1 1000000], res := .ret (iv 302 0 100) }
noncomputable def k83q : KC := { f := 83, args := [cavA, stA, lotP], res := .ret (.tuple [iv 303 0 100, .bool true]) }
noncomputable def k47q : KC := { f := 47, args := [cavA, stA, lotP], res := .ret (iv 303 0 100) }
noncomputable def k47n : KC := { f := 47, args := [cavA, stA, lotP], res := .ret (.int .i64 (-1)) }
theorem cRef46 : Con P (Fence.there P) (fun o => ∃ y, NumZ y o ∧ Xa y) k46 := con_num rfl rfl (by decide +kernel) (by decide +kernel) (by decide +kernel) (by decide +kernel) fun y ⟨z, m, m', r, hc, hs, hl, hm, hy⟩ => by
  subst hy
  have := hm.1
  exact ⟨fun n w => (loop_rr (z := z) hc hs hl w n).mono fun e w' ⟨m2, h3, h4, h5⟩ => by rw [most_one hm h3] at h4; exact ⟨h4, h5⟩, (show (0 : Int) ≤ (m : Int) ∧ (m : Int) ≤ 100 by omega)⟩
theorem cRef45 : Con P (Fence.there P) (fun o => ∃ y, NumZ y o ∧ Xb y) k45 := con_num rfl rfl (by decide +kernel) (by decide +kernel) (by decide +kernel) (by decide +kernel) fun y ⟨z, m, m', r, hc, hs, hl, hm, hy⟩ => by
  subst hy
  have := hm.1
  exact ⟨fun n w => (loop_rw (z := z) hc hs hl w n).mono fun e w' ⟨m2, h3, h4, h5⟩ => by rw [most_one hm h3] at h4; exact ⟨h4, h5⟩, (show (0 : Int) ≤ (m' : Int) ∧ (m' : Int) ≤ 100 by omega)⟩
theorem c83q : Con P (Fence.there P) (fun o => ∃ y, NumZ y o ∧ Xc y) k83q := con_num rfl rfl (by decide +kernel) (by decide +kernel) (by decide +kernel) (by decide +kernel) fun y ⟨z, m, m', r, hc, hs, hl, hm, hy⟩ => by
  subst hy
  have := hm.1
  exact ⟨gives_pu hc hs hl hm, (show ((0 : Int) ≤ (r : Int) ∧ (r : Int) ≤ 100) ∧ _ from ⟨by omega, by simp only [bnd, bnds, and_self]⟩)⟩
theorem c83d : Con P (Fence.there P) (fun o => ∃ y, NumZ y o ∧ Xd y) k83n := con_num rfl rfl (by decide +kernel) (by decide +kernel) (by decide +kernel) (by decide +kernel) fun y ⟨z, m, m', r, hc, hs, hl, hm, hy⟩ => by
  subst hy
  exact ⟨gives_pn hc hs hl hm, by simp only [bnd, bnds, and_self]⟩
theorem pureY_ok {y : Nat → Int} : pureY y ↔ okP y := by
  constructor
  · intro h
    refine ⟨h.1, ?_⟩
    unfold pureN; rw [if_neg h.2.1, if_neg h.2.2]
  · intro h
    have := pure_ok h.2
    exact ⟨h.1, this.1, this.2⟩
theorem not_later {z : Nat → Int} (hl : poiP z) {m j : Nat} (hmj : m ≤ j) (h : notCan (zl z m)) : notCan (zl z j) := by
  intro hc
  apply h
  simp only [poiP] at hl
  have e : ∀ x : Int, 0 ≤ x → (m : Int) * x ≤ (j : Int) * x := fun x hx => Int.mul_le_mul_of_nonneg_right (by omega) hx
  have a := e (z 30) (by omega)
  have b := e (z 31) (by omega)
  have c := e (z 33) (by omega)
  rcases hc with ⟨_, h1, h2, h3⟩ | ⟨h1, _⟩ | ⟨h1, _⟩
  · exact .inl ⟨rfl, (show z 12 + (m : Int) * z 30 ≤ 1000000 from Int.le_trans (by omega) (show z 12 + (j : Int) * z 30 ≤ 1000000 from h1)), (show z 14 + (m : Int) * z 31 ≤ 1000000 from Int.le_trans (by omega) (show z 14 + (j : Int) * z 31 ≤ 1000000 from h2)), (show z 18 + (m : Int) * z 33 ≤ 1000000000 from Int.le_trans (by omega) (show z 18 + (j : Int) * z 33 ≤ 1000000000 from h3))⟩
  · exact absurd (show (1 : Int) = 2 from h1) (by omega)
  · exact absurd (show (1 : Int) = 3 from h1) (by omega)
theorem foul_not {y : Nat → Int} (h : foul y) : ¬ pureY y := fun h' => h.2 (pureY_ok.1 h').2
theorem ref_n {z : Nat → Int} {m : Nat} (h : PurgeN z m) {r : Int} (hr : RefPurge z r) : r = m := by
  rcases hr with ⟨m', h1, h2, h3, rfl⟩ | ⟨h1, _⟩
  · rcases Nat.lt_trichotomy m m' with k | k | k
    · exact absurd (pureY_ok.2 h.2.1) (h3 m k)
    · rw [k]
    · exact absurd h2 (foul_not (h.2.2 m' k))
  · exact absurd (pureY_ok.2 h.2.1) (h1 m h.1)
theorem ref_no {z : Nat → Int} (hl : poiP z) (h : PurgeNo z) {r : Int} (hr : RefPurge z r) : r = -1 := by
  rcases hr with ⟨m', h1, h2, h3, rfl⟩ | ⟨_, h2⟩
  · rcases h with ⟨m, k1, k2, k3⟩ | h
    · by_cases hm : m' < m
      · exact absurd h2 (foul_not (k3 m' hm))
      · exact absurd h2.1 (not_later hl (by omega) k2)
    · exact absurd h2 (foul_not (h m' h1))
  · exact h2
theorem c47q : Con P (Fence.there P) (fun o => ∃ y, NumZ y o ∧ Xc y) k47q := con_num rfl rfl (by decide +kernel) (by decide +kernel) (by decide +kernel) (by decide +kernel) fun y ⟨z, m, m', r, hc, hs, hl, hm, hy⟩ => by
  subst hy
  have := hm.1
  exact ⟨fun n w => (loop_rp (z := z) hc hs hl w n).mono fun e w' ⟨r2, h3, h4, h5⟩ => by rw [ref_n hm h3] at h4; exact ⟨h4, h5⟩, (show (0 : Int) ≤ (r : Int) ∧ (r : Int) ≤ 100 by omega)⟩
theorem c47n : Con P (Fence.there P) (fun o => ∃ y, NumZ y o ∧ Xd y) k47n := con_num rfl rfl (by decide +kernel) (by decide +kernel) (by decide +kernel) (by decide +kernel) fun y ⟨z, m, m', r, hc, hs, hl, hm, hy⟩ => by
  subst hy
  exact ⟨fun n w => (loop_rp (z := z) hc hs hl w n).mono fun e w' ⟨r2, h3, h4, h5⟩ => by rw [ref_no hl hm h3] at h4; exact ⟨h4, h5⟩, by simp only [bnd]⟩
end Go.Ev.Gas
end

noncomputable section
set_option maxRecDepth 1000000
set_option maxHeartbeats 0
namespace Go.Ev.Gas
open Go.RowKit Go.Ev.Num
noncomputable def k42 : KC := { f := 42, args := [cavA, stA, lotP], res := .ret (.tuple [iv 301 0 100, .int .i64 0]) }
noncomputable def k43 : KC := { f := 43, args := [cavA, stA, iv 34 1 1000000], res := .ret (.tuple [iv 302 0 100, .int .i64 0]) }
noncomputable def k44q : KC := { f := 44, args := [cavA, stA, lotP], res := .ret (.tuple [iv 303 0 100, .int .i64 0]) }
noncomputable def k44n : KC := { f := 44, args := [cavA, stA, lotP], res := .ret (.tuple [.int .i64 0, .int .i64 5]) }
theorem d42 : isRes k42.res (runO P L true (ansF (gNot (cavL ++ stL) Xa) kM) k42) = true := by decide +kernel
theorem cG42 : Con P (Fence.there P) (gNot (cavL ++ stL) Xa).holds k42 := con_of_orc fbT (by decide +kernel) (ansF_ok (H := fun o => ∃ y, NumZ y o ∧ Xa y) (fun o h => h.extra) (by decide +kernel) cM) d42
theorem d43 : isRes k43.res (runO P L true (ansF (gNot (cavL ++ stL) Xb) kMw) k43) = true := by decide +kernel
theorem cG43 : Con P (Fence.there P) (gNot (cavL ++ stL) Xb).holds k43 := con_of_orc fbT (by decide +kernel) (ansF_ok (H := fun o => ∃ y, NumZ y o ∧ Xb y) (fun o h => h.extra) (by decide +kernel) cMw) d43
theorem d44q : isRes k44q.res (runK P L true [k83q] [] (gNot (cavL ++ stL) Xc) k44q) = true := by decide +kernel
theorem cG44q : Con P (Fence.there P) (gNot (cavL ++ stL) Xc).holds k44q := con_of_run fbT (by decide +kernel) (one_t (by decide +kernel) c83q) no_p (fun o h => h.extra) d44q
theorem d44n' : isRes k44n.res (runK P L true [k83n] [] (gNot (cavL ++ stL) Xd) k44n) = true := by decide +kernel
theorem cG44n : Con P (Fence.there P) (gNot (cavL ++ stL) Xd).holds k44n := con_of_run fbT (by decide +kernel) (one_t (by decide +kernel) c83d) no_p (fun o h => h.extra) d44n'
end Go.Ev.Gas
end

