import Derived.Test.YtdpegcimhhegmaaRule
import Derived.Test.YtdpegcimhhegmaaDoV
set_option linter.unusedVariables false
set_option linter.unusedSimpArgs false
set_option linter.unusedSectionVars false
noncomputable section
set_option maxRecDepth 100000
namespace Go.Ev.Gas
open Go.RowKit Go.Ev.Num
def lowP (z : Nat → Int) : Prop := fo z (z 11) (z 13) (z 15) * 8314 < thr z 2 1
def highP (z : Nat → Int) : Prop := thr z 3 0 < fo z (z 12) (z 14) (z 16) * 8314
def thinP (z : Nat → Int) : Prop := z 13 * 1000 < z 9 * (z 12 + z 13)
def richP (z : Nat → Int) : Prop := z 10 * (z 11 + z 14) < z 14 * 1000
instance (z : Nat → Int) : Decidable (lowP z) := inferInstanceAs (Decidable (_ < _))
instance (z : Nat → Int) : Decidable (highP z) := inferInstanceAs (Decidable (_ < _))
instance (z : Nat → Int) : Decidable (thinP z) := inferInstanceAs (Decidable (_ < _))
instance (z : Nat → Int) : Decidable (richP z) := inferInstanceAs (Decidable (_ < _))
def pureN (z : Nat → Int) : Int := if thinP z then 4 else if richP z then 5 else 1
def sureN (z : Nat → Int) : Int := if lowP z then 2 else if highP z then 3 else pureN z
section
variable {z : Nat → Int} (hc : cavP z) (hs : stP z)
include hc hs
theorem nt_of (h : ¬ thinP z) : LtsP (ov z) ntL := by
  have hs' := hs; have hc' := hc
  simp only [stP, cavP] at hs' hc'
  have ti : ∀ g k, z 11 ≤ g → g ≤ z 12 → z 13 ≤ k → k ≤ z 14 → z 9 * (g + k) ≤ k * 1000 := fun g k a b c d => by
    have := thin_le (p := z 9) (g := g) (h := k) (g' := z 12) (h' := z 13) (by omega) (by omega) b c
    simp only [thinP] at h
    omega
  exact ⟨ti (z 11) (z 13) (by omega) (by omega) (by omega) (by omega), ti (z 11) (z 14) (by omega) (by omega) (by omega) (by omega), ti (z 12) (z 13) (by omega) (by omega) (by omega) (by omega), ti (z 12) (z 14) (by omega) (by omega) (by omega) (by omega), trivial⟩
theorem nr_of (h : ¬ richP z) : LtsP (ov z) nrL := by
  have hs' := hs; have hc' := hc
  simp only [stP, cavP] at hs' hc'
  have ri : ∀ g k, z 11 ≤ g → g ≤ z 12 → z 13 ≤ k → k ≤ z 14 → k * 1000 ≤ z 10 * (g + k) := fun g k a b c d => by
    have := rich_le (p := z 10) (g := g) (h := k) (g' := z 11) (h' := z 14) (by omega) (by omega) a d
    simp only [richP] at h
    omega
  exact ⟨ri (z 11) (z 13) (by omega) (by omega) (by omega) (by omega), ri (z 11) (z 14) (by omega) (by omega) (by omega) (by omega), ri (z 12) (z 13) (by omega) (by omega) (by omega) (by omega), ri (z 12) (z 14) (by omega) (by omega) (by omega) (by omega), trivial⟩
theorem three_r (f : Int) : VRs (envZ z) [cavA, stA, .int .i64 f] (#[cavV z, stV z, vi f] : Array Value).toList :=
  three (vr_cav hc) (vr_st hs) (by simp only [VR, vi])
theorem rule_thin : Gives (Fence.there P) 57 #[cavV z, stV z, vi 4] (vi (pureN z)) := by
  have hv := three_r hc hs 4
  have base := lts_cs hc hs
  unfold pureN
  by_cases a : thinP z
  · rw [if_pos a]
    exact gives_of cT1 rfl rfl rfl z (holds_of (G := GT1) trivial (lts_app base ⟨a, trivial⟩) trivial trivial) _ hv
  rw [if_neg a]
  by_cases b : richP z
  · rw [if_pos b]
    exact gives_of cT2 rfl rfl rfl z (holds_of (G := GT2) trivial (lts_app base (lts_app (nt_of hc hs a) ⟨b, trivial⟩)) trivial trivial) _ hv
  · rw [if_neg b]
    exact gives_of cT0 rfl rfl rfl z (holds_of (G := GT0) trivial (lts_app base (lts_app (nt_of hc hs a) (nr_of hc hs b))) trivial trivial) _ hv
theorem rules_low : (GQ0.holds (ov z) ∧ sureN z = 1) ∨ (GQ1.holds (ov z) ∧ sureN z = 2) ∨ (GQ2.holds (ov z) ∧ sureN z = 3) ∨ (GQ3.holds (ov z) ∧ sureN z = 4) ∨ (GQ4.holds (ov z) ∧ sureN z = 5) := by
  have base := lts_cs hc hs
  unfold sureN pureN
  by_cases a : lowP z
  · rw [if_pos a]
    have a' := a
    simp only [lowP] at a'
    have sc : LtsP (ov z) [(cornerF 11 13 15, lowR, true)] := ⟨(show fo z (z 11) (z 13) (z 15) * 8314 * 1 < thr z 2 1 by omega), trivial⟩
    exact .inr (.inl ⟨holds_of (G := GQ1) trivial (lts_app base sc) trivial trivial, rfl⟩)
  rw [if_neg a]
  have nl := notlow_of hc hs (by simp only [lowP] at a; omega)
  by_cases b : highP z
  · rw [if_pos b]
    have b' := b
    simp only [highP] at b'
    have sc : LtsP (ov z) [(highR, cornerF 12 14 16, true)] := ⟨(show thr z 3 0 < fo z (z 12) (z 14) (z 16) * 8314 * 1 by omega), trivial⟩
    exact .inr (.inr (.inl ⟨holds_of (G := GQ2) trivial (lts_app base (lts_app nl sc)) trivial trivial, rfl⟩))
  rw [if_neg b]
  have nh := nothigh_of hc hs (by simp only [highP] at b; omega)
  by_cases c : thinP z
  · rw [if_pos c]
    exact .inr (.inr (.inr (.inl ⟨holds_of (G := GQ3) trivial (lts_app base (lts_app (lts_app nl nh) ⟨c, trivial⟩)) trivial trivial, rfl⟩)))
  rw [if_neg c]
  have nt := nt_of hc hs c
  by_cases d : richP z
  · rw [if_pos d]
    exact .inr (.inr (.inr (.inr ⟨holds_of (G := GQ4) trivial (lts_app base (lts_app (lts_app (lts_app nl nh) nt) ⟨d, trivial⟩)) trivial trivial, rfl⟩)))
  · rw [if_neg d]
    exact .inl ⟨holds_of (G := GQ0) trivial (lts_app base (lts_app (lts_app (lts_app nl nh) nt) (nr_of hc hs d))) trivial trivial, rfl⟩
theorem rule_low : Gives (Fence.there P) 57 #[cavV z, stV z, vi 2] (vi (sureN z)) := by
  have hv := three_r hc hs 2
  rcases rules_low hc hs with ⟨h, e⟩ | ⟨h, e⟩ | ⟨h, e⟩ | ⟨h, e⟩ | ⟨h, e⟩ <;> rw [e]
  · exact gives_of cR0 rfl rfl rfl z h _ hv
  · exact gives_of cR1 rfl rfl rfl z h _ hv
  · exact gives_of cR2 rfl rfl rfl z h _ hv
  · exact gives_of cR3 rfl rfl rfl z h _ hv
  · exact gives_of cR4 rfl rfl rfl z h _ hv
theorem sure_any : Gives (Fence.there P) 18 #[cavV z, stV z] (.tuple [vi (sureN z), vi 0].toArray) := by
  have hv : VRs (envZ z) a18 (#[cavV z, stV z] : Array Value).toList := vrs_cons (vr_cav hc) (vrs_cons (vr_st hs) vrs_nil)
  rcases rules_low hc hs with ⟨h, e⟩ | ⟨h, e⟩ | ⟨h, e⟩ | ⟨h, e⟩ | ⟨h, e⟩ <;> rw [e]
  · exact gives_of cQ0 rfl rfl rfl z h _ hv
  · exact gives_of cQ1 rfl rfl rfl z h _ hv
  · exact gives_of cQ2 rfl rfl rfl z h _ hv
  · exact gives_of cQ3 rfl rfl rfl z h _ hv
  · exact gives_of cQ4 rfl rfl rfl z h _ hv
end
end Go.Ev.Gas
end

