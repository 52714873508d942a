import Derived.Test.YtdpegcimhhegmaaCheckB
set_option linter.unusedVariables false
set_option linter.unusedSimpArgs false
set_option linter.unusedSectionVars false
noncomputable section
set_option maxRecDepth 100000
namespace Go.Ev.Gas
open Go.RowKit Go.Ev.Num
def zC (z : Nat → Int) (i : Nat) : Int := if i = 70 then qn (nuL z) (deL z) else if i = 71 then qd (nuL z) (deL z) else if i = 72 then qn (nuH z) (deH z) else if i = 73 then qd (nuH z) (deH z) else z i
theorem zC_lo {z : Nat → Int} {i : Nat} (h : i < 70) : zC z i = z i := by unfold zC; rw [if_neg (by omega), if_neg (by omega), if_neg (by omega), if_neg (by omega)]
theorem fo_zC (z : Nat → Int) (g h t : Int) : fo (zC z) g h t = fo z g h t := by unfold fo; rw [zC_lo (show 4 < 70 by omega), zC_lo (show 5 < 70 by omega)]
theorem nuL_zC (z : Nat → Int) : nuL (zC z) = nuL z := by unfold nuL; rw [fo_zC, zC_lo (show 11 < 70 by omega), zC_lo (show 13 < 70 by omega), zC_lo (show 15 < 70 by omega)]
theorem nuH_zC (z : Nat → Int) : nuH (zC z) = nuH z := by unfold nuH; rw [fo_zC, zC_lo (show 12 < 70 by omega), zC_lo (show 14 < 70 by omega), zC_lo (show 16 < 70 by omega)]
theorem deL_zC (z : Nat → Int) : deL (zC z) = deL z := by unfold deL; rw [zC_lo (show 1 < 70 by omega)]
theorem deH_zC (z : Nat → Int) : deH (zC z) = deH z := by unfold deH; rw [zC_lo (show 0 < 70 by omega)]
theorem hf_zC {z : Nat → Int} (hc : cavP z) (hs : stP z) : HF (zC z) :=
  ⟨hc, hs, by rw [nuL_zC, deL_zC]; unfold zC; rw [if_pos rfl], by rw [nuL_zC, deL_zC]; unfold zC; rw [if_neg (by omega), if_pos rfl], by rw [nuH_zC, deH_zC]; unfold zC; rw [if_neg (by omega), if_neg (by omega), if_pos rfl], by rw [nuH_zC, deH_zC]; unfold zC; rw [if_neg (by omega), if_neg (by omega), if_neg (by omega), if_pos rfl]⟩
theorem hf_zo {z : Nat → Int} (h : HF z) : HF (zo (ov z)) := h
theorem checks_in {z : Nat → Int} (hc : cavP z) (hs : stP z) (hf0 : HF z) : Yes 3 #[cavV z, stV z] := by
  have base : LtsP (ov z) (cavL ++ stL) := lts_cs (z := zC z) hc hs
  have hf : HF (zo (ov z)) := hf_zo hf0
  have hv : VRs (envZ z) a18 (#[cavV z, stV z] : Array Value).toList := vrs_cons (vr_cav (z := zC z) hc) (vrs_cons (vr_st (z := zC z) hs) vrs_nil)
  have hc' : cavP z := hc
  have hs' : stP z := hs
  have e1 : thr z 2 1 = z 2 * z 1 * 10000000 := (Int.mul_assoc _ _ _).symm
  have e2 : thr z 3 0 = z 3 * z 0 * 10000000 := (Int.mul_assoc _ _ _).symm
  have f1 : fo z (z 11) (z 13) (z 15) = fo z (z 11) (z 13) (z 15) := rfl
  have f2 : fo z (z 12) (z 14) (z 16) = fo z (z 12) (z 14) (z 16) := rfl
  by_cases A : fo z (z 11) (z 13) (z 15) * 8314 * 1 < thr z 2 1
  · have sc : LtsP (ov z) [(cornerF 11 13 15, lowR, true)] := ⟨A, trivial⟩
    have q : GQ1.holds (ov z) := holds_of (G := GQ1) trivial (lts_app base sc) trivial trivial
    exact yes_wide cC1 z (holds_of (G := gC1 (HC GQ1)) trivial (lts_app base ⟨(show fo z (z 11) (z 13) (z 15) * 8314 < z 2 * z 1 * 10000000 by omega), trivial⟩) trivial ⟨q, hf⟩) _ hv
  have A' : thr z 2 1 ≤ fo z (z 11) (z 13) (z 15) * 8314 := by omega
  have nl := notlow_of hc' hs' A'
  have rl : z 2 * z 1 * 10000000 ≤ fo z (z 11) (z 13) (z 15) * 8314 := by omega
  by_cases Bc : thr z 3 0 < fo z (z 12) (z 14) (z 16) * 8314 * 1
  · have sc : LtsP (ov z) [(highR, cornerF 12 14 16, true)] := ⟨Bc, trivial⟩
    have q : GQ2.holds (ov z) := holds_of (G := GQ2) trivial (lts_app base (lts_app nl sc)) trivial trivial
    exact yes_wide cC2 z (holds_of (G := gC2 (HC GQ2)) trivial (lts_app base ⟨rl, (show z 3 * z 0 * 10000000 < fo z (z 12) (z 14) (z 16) * 8314 by omega), trivial⟩) trivial ⟨q, hf⟩) _ hv
  have B' : fo z (z 12) (z 14) (z 16) * 8314 ≤ thr z 3 0 := by omega
  have nh := nothigh_of hc' hs' B'
  have rh : fo z (z 12) (z 14) (z 16) * 8314 ≤ z 3 * z 0 * 10000000 := by omega
  have hs2 := hs
  have hc2 := hc
  simp only [stP] at hs2
  simp only [cavP] at hc2
  by_cases Cc : z 13 * 1000 < z 9 * (z 12 + z 13)
  · have q : GQ3.holds (ov z) := holds_of (G := GQ3) trivial (lts_app base (lts_app (lts_app nl nh) (show LtsP (ov z) [((.bin 2 (.v 13) (.c 1000)), (.bin 2 (.v 9) (.bin 0 (.v 12) (.v 13))), true)] from ⟨Cc, trivial⟩))) trivial trivial
    exact yes_wide cC3 z (holds_of (G := gC3 (HC GQ3)) trivial (lts_app base ⟨rl, rh, (show 1000 * z 13 < z 9 * (z 12 + z 13) by omega), trivial⟩) trivial ⟨q, hf⟩) _ hv
  have ti : ∀ g k, g ≤ z 12 → z 13 ≤ k → z 9 * (g + k) ≤ k * 1000 := fun g k b c => by
    have := thin_le (p := z 9) (g := g) (h := k) (g' := z 12) (h' := z 13) (by omega) (by omega) b c
    omega
  have nt : LtsP (ov z) [((.bin 2 (.v 13) (.c 1000)), (.bin 2 (.v 9) (.bin 0 (.v 11) (.v 13))), false), ((.bin 2 (.v 14) (.c 1000)), (.bin 2 (.v 9) (.bin 0 (.v 11) (.v 14))), false), ((.bin 2 (.v 13) (.c 1000)), (.bin 2 (.v 9) (.bin 0 (.v 12) (.v 13))), false), ((.bin 2 (.v 14) (.c 1000)), (.bin 2 (.v 9) (.bin 0 (.v 12) (.v 14))), false)] :=
    ⟨ti (z 11) (z 13) (by omega) (by omega), ti (z 11) (z 14) (by omega) (by omega), ti (z 12) (z 13) (by omega) (by omega), ti (z 12) (z 14) (by omega) (by omega), trivial⟩
  have rt : z 9 * (z 12 + z 13) ≤ 1000 * z 13 := by have := ti (z 12) (z 13) (by omega) (by omega); omega
  by_cases D : z 10 * (z 11 + z 14) < z 14 * 1000
  · have q : GQ4.holds (ov z) := holds_of (G := GQ4) trivial (lts_app base (lts_app (lts_app (lts_app nl nh) nt) (show LtsP (ov z) [((.bin 2 (.v 10) (.bin 0 (.v 11) (.v 14))), (.bin 2 (.v 14) (.c 1000)), true)] from ⟨D, trivial⟩))) trivial trivial
    exact yes_wide cC4 z (holds_of (G := gC4 (HC GQ4)) trivial (lts_app base ⟨rl, rh, rt, (show z 10 * (z 11 + z 14) < 1000 * z 14 by omega), trivial⟩) trivial ⟨q, hf⟩) _ hv
  have ri : ∀ g k, z 11 ≤ g → k ≤ z 14 → k * 1000 ≤ z 10 * (g + k) := fun g k a d => by
    have := rich_le (p := z 10) (g := g) (h := k) (g' := z 11) (h' := z 14) (by omega) (by omega) a d
    omega
  have nr : LtsP (ov z) [((.bin 2 (.v 10) (.bin 0 (.v 11) (.v 13))), (.bin 2 (.v 13) (.c 1000)), false), ((.bin 2 (.v 10) (.bin 0 (.v 11) (.v 14))), (.bin 2 (.v 14) (.c 1000)), false), ((.bin 2 (.v 10) (.bin 0 (.v 12) (.v 13))), (.bin 2 (.v 13) (.c 1000)), false), ((.bin 2 (.v 10) (.bin 0 (.v 12) (.v 14))), (.bin 2 (.v 14) (.c 1000)), false)] :=
    ⟨ri (z 11) (z 13) (by omega) (by omega), ri (z 11) (z 14) (by omega) (by omega), ri (z 12) (z 13) (by omega) (by omega), ri (z 12) (z 14) (by omega) (by omega), trivial⟩
  have q : GQ0.holds (ov z) := holds_of (G := GQ0) trivial (lts_app base (lts_app (lts_app (lts_app nl nh) nt) nr)) trivial trivial
  exact yes_wide cC0 z (holds_of (G := gC0 (HC GQ0)) trivial (lts_app base ⟨rl, rh, rt, (show 1000 * z 14 ≤ z 10 * (z 11 + z 14) by omega), trivial⟩) trivial ⟨q, hf⟩) _ hv
theorem checks {z : Nat → Int} (hz : ints z) : Yes 3 #[cavV z, stV z] := by
  by_cases hc : cavP z
  · by_cases hs : stP z
    · have h := checks_in (z := zC z) hc hs (hf_zC hc hs)
      rw [show cavV (zC z) = cavV z from rfl, show stV (zC z) = stV z from rfl] at h
      exact h
    · exact yes_of c3_2 z (no_holds (lts_cav hc) hs) _ (vrs_cons (vr_cav hc) (vrs_cons (raw_s hz) vrs_nil))
  · exact yes_of c3_1 z (holds_of (G := gNo cavP) trivial trivial trivial hc) _ (vrs_cons (raw_c hz) (vrs_cons (raw_s hz) vrs_nil))
end Go.Ev.Gas
end

