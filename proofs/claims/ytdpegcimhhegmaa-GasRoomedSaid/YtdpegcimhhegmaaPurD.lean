import Derived.Test.YtdpegcimhhegmaaPurC
set_option linter.unusedVariables false
set_option linter.unusedSimpArgs false
set_option linter.unusedSectionVars false
noncomputable section
set_option maxRecDepth 1000000
set_option maxHeartbeats 0
namespace Go.Ev.Gas
open Go.RowKit Go.Ev.Num
theorem d44y : isRes (k44 (iv 300 1 100) 0).res (runK P L true [k83y] [] (gNot (cavL ++ stL) Xf) (k44 (iv 300 1 100) 0)) = true := by decide +kernel
theorem d44z : isRes (k44 (.int .i64 0) 0).res (runK P L true [k83z] [] (gNot (cavL ++ stL) Xz) (k44 (.int .i64 0) 0)) = true := by decide +kernel
theorem d44n : isRes (k44 (.int .i64 0) 5).res (runK P L true [k83n] [] (gNot (cavL ++ stL) Xn) (k44 (.int .i64 0) 5)) = true := by decide +kernel
theorem one_t {H : (Nat → Value) → Prop} {k : KC} (h1 : k.free = true) (h2 : Con P (Fence.there P) H k) : ∀ c ∈ [k], c.free = true ∧ Con P (Fence.there P) H c := List.forall_mem_cons.2 ⟨⟨h1, h2⟩, List.forall_mem_nil _⟩
theorem c44y : Con P (Fence.there P) (gNot (cavL ++ stL) Xf).holds (k44 (iv 300 1 100) 0) := con_of_run fbT (by decide +kernel) (one_t (by decide +kernel) c83y) no_p (fun o h => h.extra) d44y
theorem c44z : Con P (Fence.there P) (gNot (cavL ++ stL) Xz).holds (k44 (.int .i64 0) 0) := con_of_run fbT (by decide +kernel) (one_t (by decide +kernel) c83z) no_p (fun o h => h.extra) d44z
theorem c44n : Con P (Fence.there P) (gNot (cavL ++ stL) Xn).holds (k44 (.int .i64 0) 5) := con_of_run fbT (by decide +kernel) (one_t (by decide +kernel) c83n) no_p (fun o h => h.extra) d44n
/-- What a context with more facts says is said by the one with fewer. -/
theorem not_more {l r : List (SX × SX × Bool)} {X : (Nat → Int) → Prop} (o : Nat → Value) (h : (gNot (l ++ r) X).holds o) : (gNot l X).holds o :=
  ⟨fun x k lo hi hm => (by cases hm), fun x y b hm => h.lts x y b (List.mem_append_left _ hm), fun x y b hm => (by cases hm), h.extra⟩
noncomputable def a13 : List (AV plain) := [cavA, stA, lotP, qA]
noncomputable def G13t : Ctx := gNot (cavL ++ stL ++ (hasQL ++ upQ ++ [thinQ true])) Xf
noncomputable def G13r : Ctx := gNot (cavL ++ stL ++ (hasQL ++ upQ ++ [thinQ false, richQ])) Xf
noncomputable def G13z : Ctx := gNot (cavL ++ stL ++ (hasQL ++ lowQ)) Xz
noncomputable def G13n : Ctx := gNot (cavL ++ stL ++ hasQL) Xn
theorem d13t : isRes (kYes 13 a13).res (runK P L true [k44 (iv 300 1 100) 0, k21] [] G13t (kYes 13 a13)) = true := by decide +kernel
theorem d13r : isRes (kYes 13 a13).res (runK P L true [k44 (iv 300 1 100) 0, k21] [] G13r (kYes 13 a13)) = true := by decide +kernel
theorem d13z : isRes (kYes 13 a13).res (runK P L true [k44 (.int .i64 0) 0, k21] [] G13z (kYes 13 a13)) = true := by decide +kernel
theorem d13n : isRes (kYes 13 a13).res (runK P L true [k44 (.int .i64 0) 5, k21] [] G13n (kYes 13 a13)) = true := by decide +kernel
theorem c13t : Con P (Fence.there P) G13t.holds (kYes 13 a13) := con_no (List.forall_mem_cons.2 ⟨⟨by decide +kernel, c44y⟩, kn_ok⟩) not_more d13t
theorem c13r : Con P (Fence.there P) G13r.holds (kYes 13 a13) := con_no (List.forall_mem_cons.2 ⟨⟨by decide +kernel, c44y⟩, kn_ok⟩) not_more d13r
theorem c13z : Con P (Fence.there P) G13z.holds (kYes 13 a13) := con_no (List.forall_mem_cons.2 ⟨⟨by decide +kernel, c44z⟩, kn_ok⟩) not_more d13z
theorem c13n : Con P (Fence.there P) G13n.holds (kYes 13 a13) := con_no (List.forall_mem_cons.2 ⟨⟨by decide +kernel, c44n⟩, kn_ok⟩) not_more d13n
theorem d13_1 : isRes (kYes 13 [rawC, rawS, rawP, rawQ]).res (runK P L true [kNo 19 rawC, k21] [] (gNo cavP) (kYes 13 [rawC, rawS, rawP, rawQ])) = true := by decide +kernel
theorem c13_1 : Con P (Fence.there P) (gNo cavP).holds (kYes 13 [rawC, rawS, rawP, rawQ]) := con_no (H := fun o => ¬ cavP (zo o)) (List.forall_mem_cons.2 ⟨⟨by decide +kernel, no19⟩, kn_ok⟩) (fun o h => h.extra) d13_1
theorem d13_2 : isRes (kYes 13 [cavA, rawS, rawP, rawQ]).res (runK P L true [kNo 20 rawS, k21] [] (gValid cavL (fun o => ¬ stP (zo o))) (kYes 13 [cavA, rawS, rawP, rawQ])) = true := by decide +kernel
theorem c13_2 : Con P (Fence.there P) (gValid cavL (fun o => ¬ stP (zo o))).holds (kYes 13 [cavA, rawS, rawP, rawQ]) := con_no (H := fun o => ¬ stP (zo o)) (List.forall_mem_cons.2 ⟨⟨by decide +kernel, no20⟩, kn_ok⟩) (fun o h => h.extra) d13_2
theorem d13_3 : isRes (kYes 13 [cavA, stA, rawP, rawQ]).res (runK P L true [kNo 40 rawP, k21] [] (gValid (cavL ++ stL) (fun o => ¬ poiP (zo o))) (kYes 13 [cavA, stA, rawP, rawQ])) = true := by decide +kernel
theorem c13_3 : Con P (Fence.there P) (gValid (cavL ++ stL) (fun o => ¬ poiP (zo o))).holds (kYes 13 [cavA, stA, rawP, rawQ]) := con_no (H := fun o => ¬ poiP (zo o)) (List.forall_mem_cons.2 ⟨⟨by decide +kernel, no40⟩, kn_ok⟩) (fun o h => h.extra) d13_3
theorem d13_4 : isRes (kYes 13 [cavA, stA, lotP, rawQ]).res (runK P L true [kHasQ, k21] [] gHasQ (kYes 13 [cavA, stA, lotP, rawQ])) = true := by decide +kernel
theorem c13_4 : Con P (Fence.there P) gHasQ.holds (kYes 13 [cavA, stA, lotP, rawQ]) := con_no (H := gHasQ.holds) (List.forall_mem_cons.2 ⟨⟨by decide +kernel, cHasQ⟩, kn_ok⟩) (fun o h => h) d13_4
/-! ### The numbers -/
theorem zs_lots (z : Nat → Int) (k : Int) : zs (zl z k) 11 = z 11 + k * z 30 ∧ zs (zl z k) 12 = z 12 + k * z 30 ∧ zs (zl z k) 13 = z 13 + k * z 31 ∧ zs (zl z k) 14 = z 14 + k * z 31 ∧ zs (zl z k) 9 = z 9 ∧ zs (zl z k) 10 = z 10 := by
  have e : aft (zl z k) = aft1 (zl z k) := if_pos rfl
  refine ⟨?_, ?_, ?_, ?_, rfl, rfl⟩
  · show aft (zl z k) 0 = _; rw [e]; rfl
  · show aft (zl z k) 1 = _; rw [e]; rfl
  · show aft (zl z k) 2 = _; rw [e]; rfl
  · show aft (zl z k) 3 = _; rw [e]; rfl
theorem pure_ok {y : Nat → Int} (h : pureN y = 1) : ¬ thinP y ∧ ¬ richP y := by
  unfold pureN at h
  by_cases a : thinP y
  · rw [if_pos a] at h; omega
  · rw [if_neg a] at h
    by_cases b : richP y
    · rw [if_pos b] at h; omega
    · exact ⟨a, b⟩
theorem pure_no {y : Nat → Int} (h : pureN y ≠ 1) : thinP y ∨ richP y := by
  unfold pureN at h
  by_cases a : thinP y
  · exact .inl a
  · rw [if_neg a] at h
    by_cases b : richP y
    · exact .inr b
    · rw [if_neg b] at h; exact absurd rfl h
section
variable {z : Nat → Int} (hc : cavP z) (hq : hasQ z)
include hc hq
/-- Whatever content is true has neither too little hydrogen nor too much. -/
theorem up_ok {m : Nat} (h : okP (zl z m)) : 9 = 9 ∧ z 9 * ((z 44 + z 45) + m * (z 30 + z 31)) ≤ 1000 * (z 45 + m * z 31) ∧ 1000 * (z 45 + m * z 31) ≤ z 10 * ((z 44 + z 45) + m * (z 30 + z 31)) := by
  obtain ⟨h1, h2⟩ := pure_ok h.2
  obtain ⟨e1, e2, e3, e4, e5, e6⟩ := zs_lots z m
  simp only [thinP, richP, e1, e2, e3, e4, e5, e6] at h1 h2
  simp only [cavP, hasQ] at hc hq
  generalize hM : (m : Int) * z 30 = a at *
  generalize hN : (m : Int) * z 31 = b at *
  have d : (m : Int) * (z 30 + z 31) = a + b := by rw [Int.mul_add, hM, hN]
  rw [d]
  have t := thin_le (p := z 9) (g := z 44 + a) (h := z 45 + b) (g' := z 12 + a) (h' := z 13 + b) (by omega) (by omega) (by omega) (by omega)
  have r := rich_le (p := z 10) (g := z 44 + a) (h := z 45 + b) (g' := z 11 + a) (h' := z 14 + b) (by omega) (by omega) (by omega) (by omega)
  have s1 : z 44 + z 45 + (a + b) = z 44 + a + (z 45 + b) := by omega
  rw [s1]
  exact ⟨rfl, by omega, by omega⟩
end
theorem four_raw {z : Nat → Int} (hz : ints z) : VR (envZ z) rawQ (.agg [vi (z 44), vi (z 45), vi (z 46), vi (z 47)].toArray) :=
  vr_agg (vrs_cons (vr_rv hz 44) (vrs_cons (vr_rv hz 45) (vrs_cons (vr_rv hz 46) (vrs_cons (vr_rv hz 47) vrs_nil))))
def qV (z : Nat → Int) : Value := .agg [vi (z 44), vi (z 45), vi (z 46), vi (z 47)].toArray
/-- The theorem of purity. -/
theorem purged {z : Nat → Int} (hz : ints z) : Yes 13 #[cavV z, stV z, poV z, qV z] := by
  by_cases hc : cavP z
  · by_cases hs : stP z
    · by_cases hl : poiP z
      · by_cases hq : hasQ z
        · have base := lts_cs hc hs
          have hq' := hq
          have hs' := hs
          simp only [hasQ, stP] at hq' hs'
          have hqv : ∀ y : Nat → Int, (∀ i, i < 300 → y i = z i) → VR (envZ y) qA (qV z) := fun y hy => by
            have e : qV z = .agg [vi (y 44), vi (y 45), vi (y 46), vi (y 47)].toArray := by simp only [qV, hy 44 (by omega), hy 45 (by omega), hy 46 (by omega), hy 47 (by omega)]
            rw [e]
            exact vr_agg (vrs_cons (vr_iv y (by rw [hy 44 (by omega)]; omega) (by rw [hy 44 (by omega)]; omega)) (vrs_cons (vr_iv y (by rw [hy 45 (by omega)]; omega) (by rw [hy 45 (by omega)]; omega)) (vrs_cons (vr_iv y (by rw [hy 46 (by omega)]; omega) (by rw [hy 46 (by omega)]; omega)) (vrs_cons (vr_iv y (by rw [hy 47 (by omega)]; omega) (by rw [hy 47 (by omega)]; omega)) vrs_nil))))
          have hh : ∀ y : Nat → Int, (∀ i, i < 300 → y i = z i) → LtsP (ov y) hasQL := fun y hy => by
            simp only [hasQL, LtsP, SX.eval, ov, valI, hy 44 (by omega), hy 45 (by omega), hy 46 (by omega), hy 47 (by omega), hy 11 (by omega), hy 12 (by omega), hy 13 (by omega), hy 14 (by omega), hy 15 (by omega), hy 16 (by omega), hy 17 (by omega), hy 18 (by omega), and_true]
            omega
          rcases purge_total z with ⟨m, hm⟩ | hn
          · obtain ⟨_, u1, u2⟩ := up_ok hc hq hm.2.1
            by_cases h0 : m = 0
            · subst h0
              simp only [Int.ofNat_zero, Int.natCast_zero, Int.zero_mul, Int.add_zero] at u1 u2
              have fz : LtsP (ov z) lowQ := ⟨u1, u2, trivial⟩
              exact yes_of c13z z (holds_of (G := G13z) trivial (lts_app base (lts_app (hh z fun _ _ => rfl) fz)) trivial ⟨z, fun _ _ => rfl, hc, hs, hl, hm⟩) _ (four (vr_cav hc) (vr_st hs) (vr_po hl) (hqv z fun _ _ => rfl))
            · let y := nQ z m
              have hy : ∀ i, i < 300 → y i = z i := fun i hi => by
                show nQ z m i = z i
                unfold nQ; split
                · omega
                · rfl
              have hX : ∃ x, NumZ x (ov y) ∧ Xf x := ⟨y, fun _ _ => rfl, z, m, hc, hs, hl, by omega, hm, rfl⟩
              have fu : LtsP (ov y) upQ := ⟨u1, u2, trivial⟩
              have hf := hm.2.2 (m - 1) (by omega)
              have em : (((m - 1 : Nat)) : Int) = (m : Int) - 1 := by omega
              rw [em] at hf
              obtain ⟨e1, e2, e3, e4, e5, e6⟩ := zs_lots z ((m : Int) - 1)
              have by' : LtsP (ov y) (cavL ++ stL) := lts_cs (z := y) hc hs
              by_cases ht : thinP (zs (zl z ((m : Int) - 1)))
              · have ht' := ht
                simp only [thinP, e2, e3, e5] at ht'
                have ft : LtsP (ov y) [thinQ true] := ⟨(show 1000 * (z 13 + ((m : Int) - 1) * z 31) < z 9 * ((z 12 + ((m : Int) - 1) * z 30) + (z 13 + ((m : Int) - 1) * z 31)) by omega), trivial⟩
                exact yes_of c13t y (holds_of (G := G13t) trivial (lts_app by' (lts_app (lts_app (hh y hy) fu) ft)) trivial hX) _ (four (vr_cav (z := y) hc) (vr_st (z := y) hs) (vr_po (z := y) hl) (hqv y hy))
              · have hr := (pure_no hf.2).resolve_left ht
                have ht' := ht
                simp only [thinP, e2, e3, e5] at ht'
                simp only [richP, e1, e4, e6] at hr
                have ft : LtsP (ov y) [thinQ false, richQ] := ⟨(show z 9 * ((z 12 + ((m : Int) - 1) * z 30) + (z 13 + ((m : Int) - 1) * z 31)) ≤ 1000 * (z 13 + ((m : Int) - 1) * z 31) by omega), (show z 10 * ((z 11 + ((m : Int) - 1) * z 30) + (z 14 + ((m : Int) - 1) * z 31)) < 1000 * (z 14 + ((m : Int) - 1) * z 31) by omega), trivial⟩
                exact yes_of c13r y (holds_of (G := G13r) trivial (lts_app by' (lts_app (lts_app (hh y hy) fu) ft)) trivial hX) _ (four (vr_cav (z := y) hc) (vr_st (z := y) hs) (vr_po (z := y) hl) (hqv y hy))
          · exact yes_of c13n z (holds_of (G := G13n) trivial (lts_app base (hh z fun _ _ => rfl)) trivial ⟨z, fun _ _ => rfl, hc, hs, hl, hn⟩) _ (four (vr_cav hc) (vr_st hs) (vr_po hl) (hqv z fun _ _ => rfl))
        · exact yes_of c13_4 z (no_holds (lts_cs hc hs) hq) _ (four (vr_cav hc) (vr_st hs) (vr_po hl) (four_raw hz))
      · exact yes_of c13_3 z (no_holds (lts_cs hc hs) hl) _ (four (vr_cav hc) (vr_st hs) (raw_p hz) (four_raw hz))
    · exact yes_of c13_2 z (no_holds (lts_cav hc) hs) _ (four (vr_cav hc) (raw_s hz) (raw_p hz) (four_raw hz))
  · exact yes_of c13_1 z (holds_of (G := gNo cavP) trivial trivial trivial hc) _ (four (raw_c hz) (raw_s hz) (raw_p hz) (four_raw hz))
end Go.Ev.Gas
end

