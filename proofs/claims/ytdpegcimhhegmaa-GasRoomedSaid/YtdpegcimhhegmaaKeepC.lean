import Derived.Test.YtdpegcimhhegmaaKeepA
import Derived.Test.YtdpegcimhhegmaaKeepB
import Derived.Test.YtdpegcimhhegmaaOpen
set_option linter.unusedVariables false
set_option linter.unusedSimpArgs false
set_option linter.unusedSectionVars false
noncomputable section
set_option maxRecDepth 1000000
set_option maxHeartbeats 0
namespace Go.Ev.Gas
def hasP (z : Nat → Int) : Prop := (z 11 ≤ z 30 ∧ z 30 ≤ z 12) ∧ (z 13 ≤ z 31 ∧ z 31 ≤ z 14) ∧ (z 15 ≤ z 32 ∧ z 32 ≤ z 16) ∧ (z 17 ≤ z 33 ∧ z 33 ≤ z 18)
noncomputable def gHas : Ctx := gValid (cavL ++ stL) (fun o => ¬ hasP (zo o))
noncomputable def kHas : KC := { f := 26, args := [stA, rawP], res := .ret (.bool false) }
noncomputable def tH : CT := (.lt (.v 30) (.v 11) .leaf (.lt (.v 12) (.v 30) .leaf (.lt (.v 31) (.v 13) .leaf (.lt (.v 14) (.v 31) .leaf (.lt (.v 32) (.v 15) .leaf (.lt (.v 16) (.v 32) .leaf (.lt (.v 33) (.v 17) .leaf (.lt (.v 18) (.v 33) .leaf .out))))))))
theorem dH : treeK P L true [] [] kHas tH gHas = true := by decide +kernel
theorem cHas : Con P (Fence.there P) gHas.holds kHas := by
  refine con_of_tree (H := fun _ => True) fbT rfl no_k no_p tH gHas (fun _ _ => trivial) dH (fun G' hG' o _ hh => absurd ?_ (show ¬ hasP (zo o) from ?_))
  · simp only [tH, outs, addLt, gHas, gValid, List.mem_append, List.mem_singleton, List.not_mem_nil, false_or, or_false] at hG'
    have hl := LtsP.of hh _ (fun _ h => h)
    subst hG'
    simp only [cavL, stL, List.cons_append, List.nil_append, LtsP, SX.eval] at hl
    simp only [hasP, zo]; omega
  · have := hh.extra
    simp only [tH, outs, addLt, gHas, gValid, List.mem_append, List.mem_singleton, List.not_mem_nil, false_or, or_false] at hG'
    subst hG'; exact this
theorem d4_1 : isRes (kYes 4 [rawC, rawS, rawP, rv 36]).res (runK P L true [kNo 19 rawC, k21] [] (gNo cavP) (kYes 4 [rawC, rawS, rawP, rv 36])) = true := by decide +kernel
theorem c4_1 : Con P (Fence.there P) (gNo cavP).holds (kYes 4 [rawC, rawS, rawP, rv 36]) := con_no (H := fun o => ¬ cavP (zo o)) (List.forall_mem_cons.2 ⟨⟨by decide +kernel, no19⟩, kn_ok⟩) (fun o h => h.extra) d4_1
theorem d4_2 : isRes (kYes 4 [cavA, rawS, rawP, rv 36]).res (runK P L true [kNo 20 rawS, k21] [] (gValid cavL (fun o => ¬ stP (zo o))) (kYes 4 [cavA, rawS, rawP, rv 36])) = true := by decide +kernel
theorem c4_2 : Con P (Fence.there P) (gValid cavL (fun o => ¬ stP (zo o))).holds (kYes 4 [cavA, rawS, rawP, rv 36]) := con_no (H := fun o => ¬ stP (zo o)) (List.forall_mem_cons.2 ⟨⟨by decide +kernel, no20⟩, kn_ok⟩) (fun o h => h.extra) d4_2
theorem d4_3 : isRes (kYes 4 [cavA, stA, rawP, rv 36]).res (runK P L true [kHas, k21] [] gHas (kYes 4 [cavA, stA, rawP, rv 36])) = true := by decide +kernel
theorem c4_3 : Con P (Fence.there P) gHas.holds (kYes 4 [cavA, stA, rawP, rv 36]) := con_no (H := gHas.holds) (List.forall_mem_cons.2 ⟨⟨by decide +kernel, cHas⟩, kn_ok⟩) (fun o h => h) d4_3
noncomputable def hasL : List (SX × SX × Bool) := [((.v 30), (.v 11), false), ((.v 12), (.v 30), false), ((.v 31), (.v 13), false), ((.v 14), (.v 31), false), ((.v 32), (.v 15), false), ((.v 16), (.v 32), false), ((.v 33), (.v 17), false), ((.v 18), (.v 33), false)]
noncomputable def poiK : AV plain := .agg [iv 30 0 1000000, iv 31 0 1000000, iv 32 2000 5000, iv 33 0 1000000000]
noncomputable def g4_4 : Ctx := ⟨[], (cavL ++ stL ++ hasL) ++ [((.v 36), (.v 0), true)], [], fun _ => True⟩
noncomputable def g4_5 : Ctx := ⟨[], (cavL ++ stL ++ hasL) ++ [((.v 36), (.v 0), false), ((.v 1), (.v 36), true)], [], fun _ => True⟩
theorem d4_4 : isRes (kYes 4 [cavA, stA, poiK, rv 36]).res (runK P L true [k21] [] g4_4 (kYes 4 [cavA, stA, poiK, rv 36])) = true := by decide +kernel
theorem c4_4 : Con P (Fence.there P) g4_4.holds (kYes 4 [cavA, stA, poiK, rv 36]) := con_no (H := fun _ => True) kn_ok (fun o h => trivial) d4_4
theorem d4_5 : isRes (kYes 4 [cavA, stA, poiK, rv 36]).res (runK P L true [k21] [] g4_5 (kYes 4 [cavA, stA, poiK, rv 36])) = true := by decide +kernel
theorem c4_5 : Con P (Fence.there P) g4_5.holds (kYes 4 [cavA, stA, poiK, rv 36]) := con_no (H := fun _ => True) kn_ok (fun o h => trivial) d4_5
end Go.Ev.Gas
end

noncomputable section
set_option maxRecDepth 100000
namespace Go.Ev.Gas
open Go.RowKit Go.Ev.Num
/-- The force of a content, but for a factor. -/
def fo (z : Nat → Int) (g h t : Int) : Int := (g * z 4 + h * z 5) * t
theorem fo_le {z : Nat → Int} {g h t g' h' t' : Int} (h4 : 0 ≤ z 4) (h5 : 0 ≤ z 5) (hg : 0 ≤ g) (hh : 0 ≤ h) (ht : 0 ≤ t) (g1 : g ≤ g') (h1 : h ≤ h') (t1 : t ≤ t') : fo z g h t ≤ fo z g' h' t' := by
  have a := Int.mul_le_mul_of_nonneg_right g1 h4
  have b := Int.mul_le_mul_of_nonneg_right h1 h5
  have c := Int.mul_nonneg hg h4
  have d := Int.mul_nonneg hh h5
  exact Int.le_trans (Int.mul_le_mul_of_nonneg_right (show g * z 4 + h * z 5 ≤ g' * z 4 + h' * z 5 by omega) ht) (Int.mul_le_mul_of_nonneg_left t1 (by omega))
theorem fo_nn {z : Nat → Int} {g h t : Int} (h4 : 0 ≤ z 4) (h5 : 0 ≤ z 5) (hg : 0 ≤ g) (hh : 0 ≤ h) (ht : 0 ≤ t) : 0 ≤ fo z g h t :=
  Int.mul_nonneg (by have := Int.mul_nonneg hg h4; have := Int.mul_nonneg hh h5; omega) ht
theorem thin_le {p g h g' h' : Int} (hp : 0 ≤ p) (hp2 : p ≤ 1000) (hg : g ≤ g') (hh : h' ≤ h) : p * (g + h) - 1000 * h ≤ p * (g' + h') - 1000 * h' := by
  have a := Int.mul_le_mul_of_nonneg_left hg hp
  have b := Int.mul_le_mul_of_nonneg_right hp2 (show 0 ≤ h - h' by omega)
  have e1 : p * (g + h) = p * g + p * h := by grind
  have e2 : p * (g' + h') = p * g' + p * h' := by grind
  have e3 : p * (h - h') = p * h - p * h' := by grind
  omega
theorem rich_le {p g h g' h' : Int} (hp : 0 ≤ p) (hp2 : p ≤ 1000) (hg : g' ≤ g) (hh : h ≤ h') : 1000 * h - p * (g + h) ≤ 1000 * h' - p * (g' + h') := by
  have := thin_le hp hp2 hg hh
  omega
section
variable {z : Nat → Int} (hc : cavP z) (hs : stP z)
include hc hs
/-- The forces of the corners lie between the least and the greatest. -/
theorem fo_corners : (∀ g h t, z 11 ≤ g → g ≤ z 12 → z 13 ≤ h → h ≤ z 14 → z 15 ≤ t → t ≤ z 16 → fo z (z 11) (z 13) (z 15) ≤ fo z g h t ∧ fo z g h t ≤ fo z (z 12) (z 14) (z 16)) ∧ 0 ≤ fo z (z 11) (z 13) (z 15) := by
  simp only [cavP, stP] at hc hs
  exact ⟨fun g h t a b c d e f => ⟨fo_le (by omega) (by omega) (by omega) (by omega) (by omega) a c e, fo_le (by omega) (by omega) (by omega) (by omega) (by omega) b d f⟩, fo_nn (by omega) (by omega) (by omega) (by omega) (by omega)⟩
theorem corners8 : ∀ P : Int → Prop, (∀ g h t, z 11 ≤ g → g ≤ z 12 → z 13 ≤ h → h ≤ z 14 → z 15 ≤ t → t ≤ z 16 → P (fo z g h t)) →
    P (fo z (z 11) (z 13) (z 15)) ∧ P (fo z (z 11) (z 13) (z 16)) ∧ P (fo z (z 11) (z 14) (z 15)) ∧ P (fo z (z 11) (z 14) (z 16)) ∧ P (fo z (z 12) (z 13) (z 15)) ∧ P (fo z (z 12) (z 13) (z 16)) ∧ P (fo z (z 12) (z 14) (z 15)) ∧ P (fo z (z 12) (z 14) (z 16)) := by
  intro P h
  simp only [stP] at hs
  exact ⟨h _ _ _ (by omega) (by omega) (by omega) (by omega) (by omega) (by omega), h _ _ _ (by omega) (by omega) (by omega) (by omega) (by omega) (by omega), h _ _ _ (by omega) (by omega) (by omega) (by omega) (by omega) (by omega), h _ _ _ (by omega) (by omega) (by omega) (by omega) (by omega) (by omega), h _ _ _ (by omega) (by omega) (by omega) (by omega) (by omega) (by omega), h _ _ _ (by omega) (by omega) (by omega) (by omega) (by omega) (by omega), h _ _ _ (by omega) (by omega) (by omega) (by omega) (by omega) (by omega), h _ _ _ (by omega) (by omega) (by omega) (by omega) (by omega) (by omega)⟩
end
/-- The first lists of facts. -/
theorem lts_app {o : Nat → Value} : ∀ {a b : List (SX × SX × Bool)}, LtsP o a → LtsP o b → LtsP o (a ++ b)
  | [], _, _, h => h
  | (x, y, true) :: r, b, h, k => ⟨h.1, lts_app h.2 k⟩
  | (x, y, false) :: r, b, h, k => ⟨h.1, lts_app h.2 k⟩
noncomputable def cornerF (g h t : Nat) : SX := .bin 2 (.bin 2 (.bin 2 (.bin 0 (.bin 2 (.v g) (.v 4)) (.bin 2 (.v h) (.v 5))) (.v t)) (.c 8314)) (.c 1)
noncomputable def lowR : SX := .bin 2 (.v 2) (.bin 2 (.v 1) (.c 10000000))
noncomputable def highR : SX := .bin 2 (.v 3) (.bin 2 (.v 0) (.c 10000000))
noncomputable def notlow : List (SX × SX × Bool) := [(cornerF 11 13 15, lowR, false), (cornerF 11 13 16, lowR, false), (cornerF 11 14 15, lowR, false), (cornerF 11 14 16, lowR, false), (cornerF 12 13 15, lowR, false), (cornerF 12 13 16, lowR, false), (cornerF 12 14 15, lowR, false), (cornerF 12 14 16, lowR, false)]
noncomputable def nothigh : List (SX × SX × Bool) := [(highR, cornerF 11 13 15, false), (highR, cornerF 11 13 16, false), (highR, cornerF 11 14 15, false), (highR, cornerF 11 14 16, false), (highR, cornerF 12 13 15, false), (highR, cornerF 12 13 16, false), (highR, cornerF 12 14 15, false), (highR, cornerF 12 14 16, false)]
def thr (z : Nat → Int) (l v : Nat) : Int := z l * (z v * 10000000)
section
variable {z : Nat → Int} (hc : cavP z) (hs : stP z)
include hc hs
theorem notlow_of (h : thr z 2 1 ≤ fo z (z 11) (z 13) (z 15) * 8314) : LtsP (ov z) notlow := by
  have := corners8 hc hs (fun x => thr z 2 1 ≤ x * 8314 * 1) (fun g h' t a b c d e f => by have := ((fo_corners hc hs).1 g h' t a b c d e f).1; omega)
  obtain ⟨a1, a2, a3, a4, a5, a6, a7, a8⟩ := this
  exact ⟨a1, a2, a3, a4, a5, a6, a7, a8, trivial⟩
theorem nothigh_of (h : fo z (z 12) (z 14) (z 16) * 8314 ≤ thr z 3 0) : LtsP (ov z) nothigh := by
  have := corners8 hc hs (fun x => x * 8314 * 1 ≤ thr z 3 0) (fun g h' t a b c d e f => by have := ((fo_corners hc hs).1 g h' t a b c d e f).2; omega)
  obtain ⟨a1, a2, a3, a4, a5, a6, a7, a8⟩ := this
  exact ⟨a1, a2, a3, a4, a5, a6, a7, a8, trivial⟩
end
section
variable {z : Nat → Int} (hc : cavP z) (hs : stP z) (hp : hasP z) (hv : z 0 ≤ z 36 ∧ z 36 ≤ z 1)
include hc hs hp hv
theorem fp_in : fo z (z 11) (z 13) (z 15) ≤ fo z (z 30) (z 31) (z 32) ∧ fo z (z 30) (z 31) (z 32) ≤ fo z (z 12) (z 14) (z 16) := by
  simp only [hasP] at hp
  exact (fo_corners hc hs).1 _ _ _ hp.1.1 hp.1.2 hp.2.1.1 hp.2.1.2 hp.2.2.1.1 hp.2.2.1.2
theorem kl_of (h : thr z 2 1 ≤ fo z (z 11) (z 13) (z 15) * 8314) : z 2 * z 36 * 10000000 ≤ fo z (z 30) (z 31) (z 32) * 8314 := by
  have a := (fp_in hc hs hp hv).1
  have b := Int.mul_le_mul_of_nonneg_left hv.2 (show 0 ≤ z 2 by simp only [cavP] at hc; omega)
  have c : thr z 2 1 = z 2 * z 1 * 10000000 := (Int.mul_assoc _ _ _).symm
  omega
theorem kh_of (h : fo z (z 12) (z 14) (z 16) * 8314 ≤ thr z 3 0) : fo z (z 30) (z 31) (z 32) * 8314 ≤ z 3 * z 36 * 10000000 := by
  have a := (fp_in hc hs hp hv).2
  have b := Int.mul_le_mul_of_nonneg_left hv.1 (show 0 ≤ z 3 by simp only [cavP] at hc; omega)
  have c : thr z 3 0 = z 3 * z 0 * 10000000 := (Int.mul_assoc _ _ _).symm
  omega
theorem thin_in (h : ¬ z 13 * 1000 < z 9 * (z 12 + z 13)) : ∀ g k, z 11 ≤ g → g ≤ z 12 → z 13 ≤ k → k ≤ z 14 → z 9 * (g + k) ≤ 1000 * k := fun g k a b c d => by
  have := thin_le (p := z 9) (g := g) (h := k) (g' := z 12) (h' := z 13) (by simp only [cavP] at hc; omega) (by simp only [cavP] at hc; omega) b c
  omega
theorem rich_in (h : ¬ z 10 * (z 11 + z 14) < z 14 * 1000) : ∀ g k, z 11 ≤ g → g ≤ z 12 → z 13 ≤ k → k ≤ z 14 → 1000 * k ≤ z 10 * (g + k) := fun g k a b c d => by
  have := rich_le (p := z 10) (g := g) (h := k) (g' := z 11) (h' := z 14) (by simp only [cavP] at hc; omega) (by simp only [cavP] at hc; omega) a d
  omega
theorem most_in (h : fo z (z 12) (z 14) (z 16) * 8314 ≤ thr z 3 0) : ∀ x, x ≤ fo z (z 12) (z 14) (z 16) → x * 8314 ≤ 100000 * z 1 * 10000000 ∧ x * 8314 ≤ 100000 * z 0 * 10000000 := fun x hx => by
  simp only [cavP] at hc
  have b := Int.mul_le_mul_of_nonneg_right (show z 3 ≤ 100000 by omega) (show 0 ≤ z 0 by omega)
  have c : thr z 3 0 = z 3 * z 0 * 10000000 := (Int.mul_assoc _ _ _).symm
  omega
noncomputable def volL : List (SX × SX × Bool) := [(.v 36, .v 0, false), (.v 1, .v 36, false)]
theorem has_lts : LtsP (ov z) (hasL ++ volL) := by
  simp only [hasP] at hp
  exact ⟨hp.1.1, hp.1.2, hp.2.1.1, hp.2.1.2, hp.2.2.1.1, hp.2.2.1.2, hp.2.2.2.1, hp.2.2.2.2, hv.1, hv.2, trivial⟩
theorem keeps_in (vs : Array Value) (hvs : VRs (envZ z) a4 vs.toList) : Yes 4 vs := by
  have base := lts_cs hc hs
  have hh := has_lts hc hs hp hv
  have hp' := hp
  have hs' := hs
  simp only [hasP, stP] at hp' hs'
  have cor := fo_corners hc hs
  have mid : ∀ g k t, z 11 ≤ g → g ≤ z 12 → z 13 ≤ k → k ≤ z 14 → z 15 ≤ t → t ≤ z 16 → fo z g k t ≤ fo z (z 12) (z 14) (z 16) := fun g k t a b c d e f => (cor.1 g k t a b c d e f).2
  by_cases A : fo z (z 11) (z 13) (z 15) * 8314 * 1 < thr z 2 1
  · have sc : LtsP (ov z) [(cornerF 11 13 15, lowR, true)] := ⟨A, trivial⟩
    have lc : fo z (z 11) (z 13) (z 15) * 8314 < z 2 * z 1 * 10000000 := by
      have c : thr z 2 1 = z 2 * z 1 * 10000000 := (Int.mul_assoc _ _ _).symm
      omega
    exact yes_of cK1 z (holds_of (G := GK1) trivial (lts_app (lts_app (lts_app base sc) hh) (show LtsP (ov z) (GK1.lts.drop 18) from ⟨lc, trivial⟩)) trivial trivial) _ hvs
  have A' : thr z 2 1 ≤ fo z (z 11) (z 13) (z 15) * 8314 := by omega
  have nl := notlow_of hc hs A'
  have kl := kl_of hc hs hp hv A'
  have ar : ∀ g k : Int, 0 ≤ g → 1000 * k ≤ 1000 * (g + k) := fun g k h => by omega
  by_cases Bc : thr z 3 0 < fo z (z 12) (z 14) (z 16) * 8314 * 1
  · have sc : LtsP (ov z) [(highR, cornerF 12 14 16, true)] := ⟨Bc, trivial⟩
    have c : thr z 3 0 = z 3 * z 0 * 10000000 := (Int.mul_assoc _ _ _).symm
    exact yes_of cK2 z (holds_of (G := GK2) trivial (lts_app (lts_app (lts_app base (lts_app nl sc)) hh) (show LtsP (ov z) (GK2.lts.drop 26) from
      ⟨kl, (show z 3 * z 0 * 10000000 < fo z (z 12) (z 14) (z 16) * 8314 by omega), ar (z 11) (z 13) (by omega), ar (z 12) (z 14) (by omega), ar (z 12) (z 13) (by omega), ar (z 11) (z 14) (by omega), trivial⟩)) trivial trivial) _ hvs
  have B' : fo z (z 12) (z 14) (z 16) * 8314 ≤ thr z 3 0 := by omega
  have nh := nothigh_of hc hs B'
  have kh := kh_of hc hs hp hv B'
  have mo := most_in hc hs hp hv B'
  have m1 := mo _ (mid (z 11) (z 13) (z 15) (by omega) (by omega) (by omega) (by omega) (by omega) (by omega))
  have m2 := mo _ (mid (z 12) (z 14) (z 16) (by omega) (by omega) (by omega) (by omega) (by omega) (by omega))
  have m3 := mo _ (mid (z 12) (z 13) (z 15) (by omega) (by omega) (by omega) (by omega) (by omega) (by omega))
  have m4 := mo _ (mid (z 11) (z 14) (z 16) (by omega) (by omega) (by omega) (by omega) (by omega) (by omega))
  by_cases Cc : z 13 * 1000 < z 9 * (z 12 + z 13)
  · exact yes_of cK3 z (holds_of (G := GK3) trivial (lts_app (lts_app (lts_app base (lts_app (lts_app nl nh) (show LtsP (ov z) [((.bin 2 (.v 13) (.c 1000)), (.bin 2 (.v 9) (.bin 0 (.v 12) (.v 13))), true)] from ⟨Cc, trivial⟩))) hh) (show LtsP (ov z) (GK3.lts.drop 34) from
      ⟨kl, kh, m1.1, m1.2, m2.1, m2.2, m3.1, m3.2, m4.1, m4.2, ar (z 11) (z 13) (by omega), ar (z 12) (z 14) (by omega), ar (z 12) (z 13) (by omega), ar (z 11) (z 14) (by omega), (show 1000 * z 13 < z 9 * (z 12 + z 13) by omega), trivial⟩)) trivial trivial) _ hvs
  have ti := thin_in hc hs hp hv Cc
  have kt := ti (z 30) (z 31) (by omega) (by omega) (by omega) (by omega)
  have t1 := ti (z 11) (z 13) (by omega) (by omega) (by omega) (by omega)
  have t2 := ti (z 11) (z 14) (by omega) (by omega) (by omega) (by omega)
  have t3 := ti (z 12) (z 13) (by omega) (by omega) (by omega) (by omega)
  have t4 := ti (z 12) (z 14) (by omega) (by omega) (by omega) (by omega)
  have sw : ∀ x y : Int, x ≤ 1000 * y → x ≤ y * 1000 := fun x y h => by omega
  have nt : LtsP (ov z) [((.bin 2 (.v 13) (.c 1000)), (.bin 2 (.v 9) (.bin 0 (.v 11) (.v 13))), false), ((.bin 2 (.v 14) (.c 1000)), (.bin 2 (.v 9) (.bin 0 (.v 11) (.v 14))), false), ((.bin 2 (.v 13) (.c 1000)), (.bin 2 (.v 9) (.bin 0 (.v 12) (.v 13))), false), ((.bin 2 (.v 14) (.c 1000)), (.bin 2 (.v 9) (.bin 0 (.v 12) (.v 14))), false)] :=
    ⟨sw _ _ t1, sw _ _ t2, sw _ _ t3, sw _ _ t4, trivial⟩
  by_cases D : z 10 * (z 11 + z 14) < z 14 * 1000
  · exact yes_of cK4 z (holds_of (G := GK4) trivial (lts_app (lts_app (lts_app base (lts_app (lts_app (lts_app nl nh) nt) (show LtsP (ov z) [((.bin 2 (.v 10) (.bin 0 (.v 11) (.v 14))), (.bin 2 (.v 14) (.c 1000)), true)] from ⟨D, trivial⟩))) hh) (show LtsP (ov z) (GK4.lts.drop 38) from
      ⟨kl, kh, kt, m1.1, m1.2, m2.1, m2.2, m3.1, m3.2, m4.1, m4.2, (show z 10 * (z 11 + z 14) < 1000 * z 14 by omega), trivial⟩)) trivial trivial) _ hvs
  have ri := rich_in hc hs hp hv D
  have kr := ri (z 30) (z 31) (by omega) (by omega) (by omega) (by omega)
  have r1 := ri (z 11) (z 13) (by omega) (by omega) (by omega) (by omega)
  have r2 := ri (z 11) (z 14) (by omega) (by omega) (by omega) (by omega)
  have r3 := ri (z 12) (z 13) (by omega) (by omega) (by omega) (by omega)
  have r4 := ri (z 12) (z 14) (by omega) (by omega) (by omega) (by omega)
  have sx : ∀ x y : Int, 1000 * y ≤ x → y * 1000 ≤ x := fun x y h => by omega
  have nr : LtsP (ov z) [((.bin 2 (.v 10) (.bin 0 (.v 11) (.v 13))), (.bin 2 (.v 13) (.c 1000)), false), ((.bin 2 (.v 10) (.bin 0 (.v 11) (.v 14))), (.bin 2 (.v 14) (.c 1000)), false), ((.bin 2 (.v 10) (.bin 0 (.v 12) (.v 13))), (.bin 2 (.v 13) (.c 1000)), false), ((.bin 2 (.v 10) (.bin 0 (.v 12) (.v 14))), (.bin 2 (.v 14) (.c 1000)), false)] :=
    ⟨sx _ _ r1, sx _ _ r2, sx _ _ r3, sx _ _ r4, trivial⟩
  exact yes_of cK0 z (holds_of (G := GK0) trivial (lts_app (lts_app (lts_app base (lts_app (lts_app (lts_app nl nh) nt) nr)) hh) (show LtsP (ov z) (GK0.lts.drop 41) from ⟨kl, kh, kt, kr, trivial⟩)) trivial trivial) _ hvs
end
def poV (z : Nat → Int) : Value := .agg [vi (z 30), vi (z 31), vi (z 32), vi (z 33)].toArray
theorem four {z : Nat → Int} {a b c d : AV plain} {u v w x : Value} (h1 : VR (envZ z) a u) (h2 : VR (envZ z) b v) (h3 : VR (envZ z) c w) (h4 : VR (envZ z) d x) : VRs (envZ z) [a, b, c, d] (#[u, v, w, x] : Array Value).toList :=
  vrs_cons h1 (vrs_cons h2 (vrs_cons h3 (vrs_cons h4 vrs_nil)))
theorem raw_p {z : Nat → Int} (hz : ints z) : VR (envZ z) rawP (poV z) :=
  vr_agg (vrs_cons (vr_rv hz 30) (vrs_cons (vr_rv hz 31) (vrs_cons (vr_rv hz 32) (vrs_cons (vr_rv hz 33) vrs_nil))))
/-- The theorem of gates. -/
theorem keeps {z : Nat → Int} (hz : ints z) : Yes 4 #[cavV z, stV z, poV z, vi (z 36)] := by
  by_cases hc : cavP z
  · by_cases hs : stP z
    · by_cases hp : hasP z
      · have hs' := hs; have hp' := hp
        simp only [stP, hasP] at hs' hp'
        have hpo : VR (envZ z) poiK (poV z) := vr_agg (vrs_cons (vr_iv z (by omega) (by omega)) (vrs_cons (vr_iv z (by omega) (by omega)) (vrs_cons (vr_iv z (by omega) (by omega)) (vrs_cons (vr_iv z (by omega) (by omega)) vrs_nil))))
        have hl : LtsP (ov z) (cavL ++ stL ++ hasL) := lts_app (lts_cs hc hs) ⟨hp'.1.1, hp'.1.2, hp'.2.1.1, hp'.2.1.2, hp'.2.2.1.1, hp'.2.2.1.2, hp'.2.2.2.1, hp'.2.2.2.2, trivial⟩
        by_cases v1 : z 36 < z 0
        · exact yes_of c4_4 z (holds_of (G := g4_4) trivial (lts_app hl ⟨v1, trivial⟩) trivial trivial) _ (four (vr_cav hc) (vr_st hs) hpo (vr_rv hz 36))
        by_cases v2 : z 1 < z 36
        · exact yes_of c4_5 z (holds_of (G := g4_5) trivial (lts_app hl ⟨(show z 0 ≤ z 36 by omega), v2, trivial⟩) trivial trivial) _ (four (vr_cav hc) (vr_st hs) hpo (vr_rv hz 36))
        · have hc' := hc
          simp only [cavP] at hc'
          exact keeps_in hc hs hp ⟨by omega, by omega⟩ _ (four (vr_cav hc) (vr_st hs) hpo (vr_iv z (by omega) (by omega)))
      · exact yes_of c4_3 z (no_holds (lts_cs hc hs) hp) _ (four (vr_cav hc) (vr_st hs) (raw_p hz) (vr_rv hz 36))
    · exact yes_of c4_2 z (no_holds (lts_cav hc) hs) _ (four (vr_cav hc) (raw_s hz) (raw_p hz) (vr_rv hz 36))
  · exact yes_of c4_1 z (holds_of (G := gNo cavP) trivial trivial trivial hc) _ (four (raw_c hz) (raw_s hz) (raw_p hz) (vr_rv hz 36))
end Go.Ev.Gas
end

