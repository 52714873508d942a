import Derived.Test.YtdpegcimhhegmaaRoL
set_option linter.unusedVariables false
set_option linter.unusedSimpArgs false
set_option linter.unusedSectionVars false
noncomputable section
set_option maxRecDepth 1000000
set_option maxHeartbeats 0
namespace Go.Ev.Gas
open Go.RowKit Go.Ev.Num
/-! ### What is not as defined -/
noncomputable def a12r : List (AV plain) := [rawC, rawS, rawP, rv 34, rawQ, rv 36, rv 37]
theorem d12_a : isRes (kYes 12 a12r).res (runK P L true [kNo 19 rawC, k21] [] (gNo cavP) (kYes 12 a12r)) = true := by decide +kernel
theorem c12_a : Con P (Fence.there P) (gNo cavP).holds (kYes 12 a12r) := con_no (H := fun o => ¬ cavP (zo o)) (List.forall_mem_cons.2 ⟨⟨by decide +kernel, no19⟩, kn_ok⟩) (fun o h => h.extra) d12_a
noncomputable def a12b : List (AV plain) := [cavA, rawS, rawP, rv 34, rawQ, rv 36, rv 37]
theorem d12_b : isRes (kYes 12 a12b).res (runK P L true [kNo 20 rawS, k21] [] (gValid cavL (fun o => ¬ stP (zo o))) (kYes 12 a12b)) = true := by decide +kernel
theorem c12_b : Con P (Fence.there P) (gValid cavL (fun o => ¬ stP (zo o))).holds (kYes 12 a12b) := con_no (H := fun o => ¬ stP (zo o)) (List.forall_mem_cons.2 ⟨⟨by decide +kernel, no20⟩, kn_ok⟩) (fun o h => h.extra) d12_b
noncomputable def a12c : List (AV plain) := [cavA, stA, rawP, rv 34, rawQ, rv 36, rv 37]
theorem d12_c : isRes (kYes 12 a12c).res (runK P L true [kNo 40 rawP, k21] [] (gValid (cavL ++ stL) (fun o => ¬ poiP (zo o))) (kYes 12 a12c)) = true := by decide +kernel
theorem c12_c : Con P (Fence.there P) (gValid (cavL ++ stL) (fun o => ¬ poiP (zo o))).holds (kYes 12 a12c) := con_no (H := fun o => ¬ poiP (zo o)) (List.forall_mem_cons.2 ⟨⟨by decide +kernel, no40⟩, kn_ok⟩) (fun o h => h.extra) d12_c
noncomputable def a12d : List (AV plain) := [cavA, stA, lotP, rv 34, rawQ, rv 36, rv 37]
noncomputable def gN (l : List (SX × SX × Bool)) : Ctx := gValid (cavL ++ stL ++ l) (fun _ => True)
theorem con_21 {G : Ctx} {f : Nat} {a : List (AV plain)} (h : isRes (kYes f a).res (runK P L true [k21] [] G (kYes f a)) = true) : Con P (Fence.there P) G.holds (kYes f a) := con_no (H := fun _ => True) kn_ok (fun o h => trivial) h
theorem c12_d : Con P (Fence.there P) (gN uo).holds (kYes 12 a12d) := con_21 (by decide +kernel)
theorem c12_e : Con P (Fence.there P) (gN up).holds (kYes 12 a12d) := con_21 (by decide +kernel)
noncomputable def a12f : List (AV plain) := [cavA, stA, lotP, un, rawQ, rv 36, rv 37]
theorem d12_f : isRes (kYes 12 a12f).res (runK P L true [kHasQ, k21] [] gHasQ (kYes 12 a12f)) = true := by decide +kernel
theorem c12_f : Con P (Fence.there P) gHasQ.holds (kYes 12 a12f) := con_no (H := gHasQ.holds) (List.forall_mem_cons.2 ⟨⟨by decide +kernel, cHasQ⟩, kn_ok⟩) (fun o h => h) d12_f
noncomputable def a12g : List (AV plain) := [cavA, stA, lotP, un, qA, rv 36, rv 37]
theorem c12_g : Con P (Fence.there P) (gN (hasQL ++ [(.v 36, .v 0, true)])).holds (kYes 12 a12g) := con_21 (by decide +kernel)
theorem c12_h : Con P (Fence.there P) (gN (hasQL ++ [(.v 36, .v 0, false), (.v 1, .v 36, true)])).holds (kYes 12 a12g) := con_21 (by decide +kernel)
noncomputable def a12i : List (AV plain) := [cavA, stA, lotP, un, qA, iv 36 1 1000000, rv 37]
theorem c12_i : Con P (Fence.there P) (gN (hasQL ++ voL ++ [(.v 37, .c 1, true)])).holds (kYes 12 a12i) := con_21 (by decide +kernel)
theorem c12_j : Con P (Fence.there P) (gN (hasQL ++ voL ++ [(.v 37, .c 1, false), (.c 100, .v 37, true)])).holds (kYes 12 a12i) := con_21 (by decide +kernel)
/-! ### The numbers -/
theorem ints_zl {z : Nat → Int} (hz : ints z) {k : Int} (h : op1b (zl z k)) : ints (zl z k) := fun i => by
  simp only [op1b] at h
  unfold zl
  have e19 : zl z k 19 = k * z 30 := rfl
  have e20 : zl z k 20 = k * z 31 := rfl
  have e22 : zl z k 22 = k * z 33 := rfl
  split <;> first | exact hz _ | omega
theorem ints_zw {z : Nat → Int} (hz : ints z) {k : Int} (h : op2b (zw z k)) : ints (zw z k) := fun i => by
  simp only [op2b] at h
  unfold zw
  have e23 : zw z k 23 = k * z 34 := rfl
  split <;> first | exact hz _ | omega
theorem op1_of {y : Nat → Int} (h : opP y) (h1 : y 28 = 1) : op1 y := by
  rcases h with h | h | h
  · exact h
  · exact absurd h.1 (by omega)
  · exact absurd h.1 (by omega)
theorem op2_of {y : Nat → Int} (h : opP y) (h1 : y 28 = 2) : op2 y := by
  rcases h with h | h | h
  · exact absurd h.1 (by omega)
  · exact h
  · exact absurd h.1 (by omega)
section
variable {z : Nat → Int} (hz : ints z) (hc : cavP z) (hs : stP z)
include hc hs
theorem keep_lots (hl : poiP z) (hq : hasQ z) (hv : volP z) (h37 : 1 ≤ z 37 ∧ z 37 ≤ 100) {m : Nat} (hm : IsMost zl z m) (h : z 37 ≤ m) : Gives (Fence.there P) 48 #[cavV z, qV z, opV (ol z), vi (z 36)] (.bool true) := by
  have h2 := hm.2.1 (z 37).toNat (by omega) (by omega)
  rw [show (((z 37).toNat : Nat) : Int) = z 37 by omega] at h2
  have hop := ((do_big (z := zl z (z 37)) hc hs (.inl (op_lots hl (by omega) h37.2))).1 h2.1).1
  exact kept_inject (y := zl z (z 37)) hc hs hq hv (op1_of hop rfl) h2.1 h2.2
theorem keep_units (hu : unP z) (hq : hasQ z) (hv : volP z) (h37 : 1 ≤ z 37 ∧ z 37 ≤ 100) {m : Nat} (hm : IsMost zw z m) (h : z 37 ≤ m) : Gives (Fence.there P) 48 #[cavV z, qV z, opV (ow z), vi (z 36)] (.bool true) := by
  have h2 := hm.2.1 (z 37).toNat (by omega) (by omega)
  rw [show (((z 37).toNat : Nat) : Int) = z 37 by omega] at h2
  have hop := ((do_big (z := zw z (z 37)) hc hs (.inr (op_units hu (by omega) h37.2))).1 h2.1).1
  exact kept_withdraw (y := zw z (z 37)) hc hs hq hv (op2_of hop rfl) h2.1 h2.2
include hz
theorem none_lots (hl : poiP z) {m : Nat} (hm : IsMost zl z m) (h : m < 100) : Gives (Fence.there P) 50 #[cavV z, stV z, opV (zl z ((m : Int) + 1))] (.bool false) :=
  fine_no (y := zl z ((m : Int) + 1)) hc hs (ints_zl hz (op_lots hl (by omega) (by omega))) (hm.2.2 h)
theorem none_units (hu : unP z) {m : Nat} (hm : IsMost zw z m) (h : m < 100) : Gives (Fence.there P) 50 #[cavV z, stV z, opV (zw z ((m : Int) + 1))] (.bool false) :=
  fine_no (y := zw z ((m : Int) + 1)) hc hs (ints_zw hz (op_units hu (by omega) (by omega))) (hm.2.2 h)
end
end Go.Ev.Gas
end

noncomputable section
set_option maxRecDepth 1000000
set_option maxHeartbeats 0
namespace Go.Ev.Gas
open Go.RowKit Go.Ev.Num
theorem seven {z : Nat → Int} {a b c d e f g : AV plain} {u v w x p q r : Value} (h1 : VR (envZ z) a u) (h2 : VR (envZ z) b v) (h3 : VR (envZ z) c w) (h4 : VR (envZ z) d x) (h5 : VR (envZ z) e p) (h6 : VR (envZ z) f q) (h7 : VR (envZ z) g r) :
    VRs (envZ z) [a, b, c, d, e, f, g] (#[u, v, w, x, p, q, r] : Array Value).toList :=
  vrs_cons h1 (vrs_cons h2 (vrs_cons h3 (vrs_cons h4 (vrs_cons h5 (vrs_cons h6 (vrs_cons h7 vrs_nil))))))
theorem hasQ_lts {z : Nat → Int} (hq : hasQ z) : LtsP (ov z) hasQL := by
  simp only [hasQ] at hq
  exact ⟨hq.1.1, hq.1.2, hq.2.1.1, hq.2.1.2, hq.2.2.1.1, hq.2.2.1.2, hq.2.2.2.1, hq.2.2.2.2, trivial⟩
theorem vr_qs {y : Nat → Int} (hs : stP y) (hq : hasQ y) : VR (envZ y) qA (qV y) := by
  simp only [hasQ, stP] at hq hs
  exact vr_agg (vrs_cons (vr_iv y (by omega) (by omega)) (vrs_cons (vr_iv y (by omega) (by omega)) (vrs_cons (vr_iv y (by omega) (by omega)) (vrs_cons (vr_iv y (by omega) (by omega)) vrs_nil))))
/-- The theorem of room. -/
theorem roomed {z : Nat → Int} (hz : ints z) : Yes 12 #[cavV z, stV z, poV z, vi (z 34), qV z, vi (z 36), vi (z 37)] := by
  by_cases hc : cavP z
  · by_cases hs : stP z
    · have base := lts_cs hc hs
      by_cases hl : poiP z
      · by_cases u1 : z 34 < 1
        · exact yes_of c12_d z (no_holds (lts_app base ⟨u1, trivial⟩) trivial) _ (seven (vr_cav hc) (vr_st hs) (vr_po hl) (vr_rv hz 34) (four_raw hz) (vr_rv hz 36) (vr_rv hz 37))
        by_cases u2 : 1000000 < z 34
        · exact yes_of c12_e z (no_holds (lts_app base ⟨(show 1 ≤ z 34 by omega), u2, trivial⟩) trivial) _ (seven (vr_cav hc) (vr_st hs) (vr_po hl) (vr_rv hz 34) (four_raw hz) (vr_rv hz 36) (vr_rv hz 37))
        have hu : unP z := ⟨by omega, by omega⟩
        have vu : VR (envZ z) un (vi (z 34)) := vr_iv z hu.1 hu.2
        by_cases hq : hasQ z
        · have hql := hasQ_lts hq
          by_cases v1 : z 36 < z 0
          · exact yes_of c12_g z (no_holds (lts_app base (lts_app hql ⟨v1, trivial⟩)) trivial) _ (seven (vr_cav hc) (vr_st hs) (vr_po hl) vu (vr_qs hs hq) (vr_rv hz 36) (vr_rv hz 37))
          by_cases v2 : z 1 < z 36
          · exact yes_of c12_h z (no_holds (lts_app base (lts_app hql ⟨(show z 0 ≤ z 36 by omega), v2, trivial⟩)) trivial) _ (seven (vr_cav hc) (vr_st hs) (vr_po hl) vu (vr_qs hs hq) (vr_rv hz 36) (vr_rv hz 37))
          have hv : volP z := ⟨by omega, by omega⟩
          have vol : LtsP (ov z) voL := ⟨hv.1, hv.2, trivial⟩
          by_cases w1 : z 37 < 1
          · exact yes_of c12_i z (no_holds (lts_app base (lts_app (lts_app hql vol) ⟨w1, trivial⟩)) trivial) _ (seven (vr_cav hc) (vr_st hs) (vr_po hl) vu (vr_q hc hs hq hv) (vr_v hc hs hq hv) (vr_rv hz 37))
          by_cases w2 : 100 < z 37
          · exact yes_of c12_j z (no_holds (lts_app base (lts_app (lts_app hql vol) ⟨(show 1 ≤ z 37 by omega), w2, trivial⟩)) trivial) _ (seven (vr_cav hc) (vr_st hs) (vr_po hl) vu (vr_q hc hs hq hv) (vr_v hc hs hq hv) (vr_rv hz 37))
          have h37 : 1 ≤ z 37 ∧ z 37 ≤ 100 := ⟨by omega, by omega⟩
          obtain ⟨m, hm⟩ := most_is zl z
          obtain ⟨m', hm'⟩ := most_is zw z
          let y := nR z m m' 0
          have nv : NumZ y (ov y) := fun _ _ => rfl
          have xa : At Xa (ov y) := ⟨y, nv, z, m, m', 0, hc, hs, hl, hm, rfl⟩
          have xb : At Xb (ov y) := ⟨y, nv, z, m, m', 0, hc, hs, hu, hm', rfl⟩
          have xk1 : z 37 ≤ m → At (XK ol) (ov y) := fun h => ⟨y, nv, z, m, m', rfl, keep_lots hc hs hl hq hv h37 hm h⟩
          have xk2 : z 37 ≤ m' → At (XK ow) (ov y) := fun h => ⟨y, nv, z, m, m', rfl, keep_units hc hs hu hq hv h37 hm' h⟩
          have xf1 : (m : Int) < 100 → At XF1 (ov y) := fun h => ⟨y, nv, z, m, m', rfl, none_lots hz hc hs hl hm (by omega)⟩
          have xf2 : (m' : Int) < 100 → At XF2 (ov y) := fun h => ⟨y, nv, z, m, m', rfl, none_units hz hc hs hu hm' (by omega)⟩
          have b' : LtsP (ov y) (cavL ++ stL) := lts_cs (z := y) hc hs
          have q' : LtsP (ov y) hasQL := hasQ_lts (z := y) hq
          have v' : LtsP (ov y) voL := ⟨hv.1, hv.2, trivial⟩
          have va : VRs (envZ y) a12 (#[cavV z, stV z, poV z, vi (z 34), qV z, vi (z 36), vi (z 37)] : Array Value).toList :=
            seven (vr_cav (z := y) hc) (vr_st (z := y) hs) (vr_po (z := y) hl) (vr_iv y hu.1 hu.2) (vr_q (y := y) hc hs hq hv) (vr_v (y := y) hc hs hq hv) (vr_iv y h37.1 h37.2)
          by_cases A : (m : Int) < z 37
          · by_cases B : (m' : Int) < z 37
            · by_cases C : (m : Int) < 100
              · by_cases D : (m' : Int) < 100
                · exact yes_of c12_15 y (no_holds (lts_app b' (lts_app (lts_app q' v') ⟨A, B, C, D, trivial⟩)) ⟨xa, xb, xf1 C, xf2 D⟩) _ va
                · exact yes_of c12_7 y (no_holds (lts_app b' (lts_app (lts_app q' v') ⟨A, B, C, (show (100 : Int) ≤ (m' : Int) by omega), trivial⟩)) ⟨xa, xb, xf1 C⟩) _ va
              · by_cases D : (m' : Int) < 100
                · exact yes_of c12_11 y (no_holds (lts_app b' (lts_app (lts_app q' v') ⟨A, B, (show (100 : Int) ≤ (m : Int) by omega), D, trivial⟩)) ⟨xa, xb, xf2 D⟩) _ va
                · exact yes_of c12_3 y (no_holds (lts_app b' (lts_app (lts_app q' v') ⟨A, B, (show (100 : Int) ≤ (m : Int) by omega), (show (100 : Int) ≤ (m' : Int) by omega), trivial⟩)) ⟨xa, xb⟩) _ va
            · by_cases C : (m : Int) < 100
              · by_cases D : (m' : Int) < 100
                · exact yes_of c12_13 y (no_holds (lts_app b' (lts_app (lts_app q' v') ⟨A, (show z 37 ≤ (m' : Int) by omega), C, D, trivial⟩)) ⟨xa, xb, xk2 (by omega), xf1 C, xf2 D⟩) _ va
                · exact yes_of c12_5 y (no_holds (lts_app b' (lts_app (lts_app q' v') ⟨A, (show z 37 ≤ (m' : Int) by omega), C, (show (100 : Int) ≤ (m' : Int) by omega), trivial⟩)) ⟨xa, xb, xk2 (by omega), xf1 C⟩) _ va
              · by_cases D : (m' : Int) < 100
                · exact yes_of c12_9 y (no_holds (lts_app b' (lts_app (lts_app q' v') ⟨A, (show z 37 ≤ (m' : Int) by omega), (show (100 : Int) ≤ (m : Int) by omega), D, trivial⟩)) ⟨xa, xb, xk2 (by omega), xf2 D⟩) _ va
                · exact yes_of c12_1 y (no_holds (lts_app b' (lts_app (lts_app q' v') ⟨A, (show z 37 ≤ (m' : Int) by omega), (show (100 : Int) ≤ (m : Int) by omega), (show (100 : Int) ≤ (m' : Int) by omega), trivial⟩)) ⟨xa, xb, xk2 (by omega)⟩) _ va
          · by_cases B : (m' : Int) < z 37
            · by_cases C : (m : Int) < 100
              · by_cases D : (m' : Int) < 100
                · exact yes_of c12_14 y (no_holds (lts_app b' (lts_app (lts_app q' v') ⟨(show z 37 ≤ (m : Int) by omega), B, C, D, trivial⟩)) ⟨xa, xb, xk1 (by omega), xf1 C, xf2 D⟩) _ va
                · exact yes_of c12_6 y (no_holds (lts_app b' (lts_app (lts_app q' v') ⟨(show z 37 ≤ (m : Int) by omega), B, C, (show (100 : Int) ≤ (m' : Int) by omega), trivial⟩)) ⟨xa, xb, xk1 (by omega), xf1 C⟩) _ va
              · by_cases D : (m' : Int) < 100
                · exact yes_of c12_10 y (no_holds (lts_app b' (lts_app (lts_app q' v') ⟨(show z 37 ≤ (m : Int) by omega), B, (show (100 : Int) ≤ (m : Int) by omega), D, trivial⟩)) ⟨xa, xb, xk1 (by omega), xf2 D⟩) _ va
                · exact yes_of c12_2 y (no_holds (lts_app b' (lts_app (lts_app q' v') ⟨(show z 37 ≤ (m : Int) by omega), B, (show (100 : Int) ≤ (m : Int) by omega), (show (100 : Int) ≤ (m' : Int) by omega), trivial⟩)) ⟨xa, xb, xk1 (by omega)⟩) _ va
            · by_cases C : (m : Int) < 100
              · by_cases D : (m' : Int) < 100
                · exact yes_of c12_12 y (no_holds (lts_app b' (lts_app (lts_app q' v') ⟨(show z 37 ≤ (m : Int) by omega), (show z 37 ≤ (m' : Int) by omega), C, D, trivial⟩)) ⟨xa, xb, xk1 (by omega), xk2 (by omega), xf1 C, xf2 D⟩) _ va
                · exact yes_of c12_4 y (no_holds (lts_app b' (lts_app (lts_app q' v') ⟨(show z 37 ≤ (m : Int) by omega), (show z 37 ≤ (m' : Int) by omega), C, (show (100 : Int) ≤ (m' : Int) by omega), trivial⟩)) ⟨xa, xb, xk1 (by omega), xk2 (by omega), xf1 C⟩) _ va
              · by_cases D : (m' : Int) < 100
                · exact yes_of c12_8 y (no_holds (lts_app b' (lts_app (lts_app q' v') ⟨(show z 37 ≤ (m : Int) by omega), (show z 37 ≤ (m' : Int) by omega), (show (100 : Int) ≤ (m : Int) by omega), D, trivial⟩)) ⟨xa, xb, xk1 (by omega), xk2 (by omega), xf2 D⟩) _ va
                · exact yes_of c12_0 y (no_holds (lts_app b' (lts_app (lts_app q' v') ⟨(show z 37 ≤ (m : Int) by omega), (show z 37 ≤ (m' : Int) by omega), (show (100 : Int) ≤ (m : Int) by omega), (show (100 : Int) ≤ (m' : Int) by omega), trivial⟩)) ⟨xa, xb, xk1 (by omega), xk2 (by omega)⟩) _ va
        · exact yes_of c12_f z (no_holds base hq) _ (seven (vr_cav hc) (vr_st hs) (vr_po hl) vu (four_raw hz) (vr_rv hz 36) (vr_rv hz 37))
      · exact yes_of c12_c z (no_holds base hl) _ (seven (vr_cav hc) (vr_st hs) (raw_p hz) (vr_rv hz 34) (four_raw hz) (vr_rv hz 36) (vr_rv hz 37))
    · exact yes_of c12_b z (no_holds (lts_cav hc) hs) _ (seven (vr_cav hc) (raw_s hz) (raw_p hz) (vr_rv hz 34) (four_raw hz) (vr_rv hz 36) (vr_rv hz 37))
  · exact yes_of c12_a z (holds_of (G := gNo cavP) trivial trivial trivial hc) _ (seven (raw_c hz) (raw_s hz) (raw_p hz) (vr_rv hz 34) (four_raw hz) (vr_rv hz 36) (vr_rv hz 37))
end Go.Ev.Gas
end

