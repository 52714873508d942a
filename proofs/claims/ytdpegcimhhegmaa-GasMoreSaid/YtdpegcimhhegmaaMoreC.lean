import Derived.Test.YtdpegcimhhegmaaMoreB
set_option linter.unusedVariables false
set_option linter.unusedSimpArgs false
set_option linter.unusedSectionVars false
noncomputable section
set_option maxRecDepth 1000000
set_option maxHeartbeats 0
namespace Go.Ev.Gas
open Go.RowKit Go.Ev.Num
/-- The narrower state's numbers. -/
def ny (z : Nat → Int) (i : Nat) : Int := if i = 11 then z 80 else if i = 14 then z 81 else if i = 15 then z 82 else if i = 18 then z 83 else z i
/-- What stands where the answer's numbers are. -/
def Ans (z w : Nat → Int) (x g : Nat) : Bool → Prop
  | true => can w ∧ (∀ i, i < 8 → z (x + i) = aft w i) ∧ (∀ i, i < 6 → z (g + i) = gon w i)
  | false => ¬ can w
structure HM (b1 b2 : Bool) (z : Nat → Int) : Prop where
  hc : cavP z
  hs : stP z
  hy : stP (ny z)
  ho : opP z
  a1 : Ans z z 90 100 b1
  a2 : Ans z (ny z) 110 120 b2
def HO (b1 b2 : Bool) (a : AV plain) (o : Nat → Value) : Prop := HM b1 b2 (zo o) ∧ valOf o a = opV (zo o)
theorem op_ny {z : Nat → Int} (h : opP z) : opP (ny z) := h
theorem cav_ny {z : Nat → Int} (h : cavP z) : cavP (ny z) := h
theorem do_ok {z w : Nat → Int} {x g : Nat} (hc : cavP w) (hs : stP w) (ho : opP w) (h : Ans z w x g true) : Gives (Fence.there P) 29 #[cavV w, stV w, opV w] (ansV (fun i => z (x + i)) (fun i => z (g + i)) (vi 0)) ∧ StI (fun i => z (x + i)) ∧ (∀ i, i < 6 → -9223372036854775808 ≤ z (g + i) ∧ z (g + i) ≤ 9223372036854775807) := by
  obtain ⟨h1, h2, h3⟩ := h
  have := ((do_all hc hs ho).1 h1).2
  have k := aft_in hc hs ho h1
  rw [show ansV (fun i => z (x + i)) (fun i => z (g + i)) (vi 0) = ansV (aft w) (gon w) (vi 0) by unfold ansV; rw [sV_congr (b := aft w) h2, gV_congr (b := gon w) h3]]
  refine ⟨this, ?_, fun i hi => by rw [h3 i hi]; exact k.2 i⟩
  have e := fun i hi => h2 i hi
  have k1 := k.1
  simp only [StI] at k1 ⊢
  rw [e 0 (by omega), e 1 (by omega), e 2 (by omega), e 3 (by omega), e 4 (by omega), e 5 (by omega), e 6 (by omega), e 7 (by omega)]
  exact k1
theorem do_no {z w : Nat → Int} {x g : Nat} (hc : cavP w) (hs : stP w) (ho : opP w) (h : Ans z w x g false) : Gives (Fence.there P) 29 #[cavV w, stV w, opV w] (ansV zeros zeros (vi 7)) := ((do_all hc hs ho).2 h).2
section
variable {b1 b2 : Bool} {a : AV plain} (hp : pureA a = true)
include hp
theorem c1_ok : Con P (Fence.there P) (HO true b2 a) (kDo stA a xA gxA 0) :=
  con_val rfl rfl (by show (pureA cavA && (pureA stA && (pureA a && true))) = true; rw [hp]; rfl) rfl fun o ⟨h, e⟩ => by
    obtain ⟨k1, k2, k3⟩ := do_ok (z := zo o) (w := zo o) h.hc h.hs h.ho h.a1
    refine ⟨?_, ?_⟩
    · rw [show (valsOf o (kDo stA a xA gxA 0).args).toArray = #[cavV (zo o), stV (zo o), opV (zo o)] by rw [← e]; rfl]
      exact k1
    · simp only [StI, zo, Nat.reduceAdd] at k2
      have g0 := k3 0 (by omega); have g1 := k3 1 (by omega); have g2 := k3 2 (by omega); have g3 := k3 3 (by omega); have g4 := k3 4 (by omega); have g5 := k3 5 (by omega)
      simp only [zo, Nat.reduceAdd] at g0 g1 g2 g3 g4 g5
      simp only [bnd, bnds, xA, gxA, iv, rv, SX.eval, and_true]
      omega
theorem c1_no : Con P (Fence.there P) (HO false b2 a) (kDo stA a z8A z6A 7) :=
  con_val rfl rfl (by show (pureA cavA && (pureA stA && (pureA a && true))) = true; rw [hp]; rfl) rfl fun o ⟨h, e⟩ => by
    refine ⟨?_, by simp only [bnd, bnds, z8A, z6A, Z, and_true]⟩
    rw [show (valsOf o (kDo stA a z8A z6A 7).args).toArray = #[cavV (zo o), stV (zo o), opV (zo o)] by rw [← e]; rfl]
    exact do_no (z := zo o) (w := zo o) h.hc h.hs h.ho h.a1
theorem c2_ok : Con P (Fence.there P) (HO b1 true a) (kDo nA a yA gyA 0) :=
  con_val rfl rfl (by show (pureA cavA && (pureA nA && (pureA a && true))) = true; rw [hp]; rfl) rfl fun o ⟨h, e⟩ => by
    obtain ⟨k1, k2, k3⟩ := do_ok (z := zo o) (w := ny (zo o)) (cav_ny h.hc) h.hy (op_ny h.ho) h.a2
    refine ⟨?_, ?_⟩
    · rw [show (valsOf o (kDo nA a yA gyA 0).args).toArray = #[cavV (ny (zo o)), stV (ny (zo o)), opV (ny (zo o))] by rw [show opV (ny (zo o)) = opV (zo o) from rfl, ← e]; rfl]
      exact k1
    · simp only [StI, zo, Nat.reduceAdd] at k2
      have g0 := k3 0 (by omega); have g1 := k3 1 (by omega); have g2 := k3 2 (by omega); have g3 := k3 3 (by omega); have g4 := k3 4 (by omega); have g5 := k3 5 (by omega)
      simp only [zo, Nat.reduceAdd] at g0 g1 g2 g3 g4 g5
      simp only [bnd, bnds, yA, gyA, iv, rv, SX.eval, and_true]
      omega
theorem c2_no : Con P (Fence.there P) (HO b1 false a) (kDo nA a z8A z6A 7) :=
  con_val rfl rfl (by show (pureA cavA && (pureA nA && (pureA a && true))) = true; rw [hp]; rfl) rfl fun o ⟨h, e⟩ => by
    refine ⟨?_, by simp only [bnd, bnds, z8A, z6A, Z, and_true]⟩
    rw [show (valsOf o (kDo nA a z8A z6A 7).args).toArray = #[cavV (ny (zo o)), stV (ny (zo o)), opV (ny (zo o))] by rw [show opV (ny (zo o)) = opV (zo o) from rfl, ← e]; rfl]
    exact do_no (z := zo o) (w := ny (zo o)) (cav_ny h.hc) h.hy (op_ny h.ho) h.a2
omit hp
/-- An operation that changes nothing. -/
def opz (z : Nat → Int) (k t : Int) (i : Nat) : Int := if i < 19 then z i else if i = 28 then k else if i = 21 then t else 0
theorem bnd_st {z : Nat → Int} {o : Nat → Value} (e : zo o = z) (hs : stP z) : bnd o (.tuple [stA, z6A, .int .i64 0]) := by
  subst e
  simp only [stP, zo] at hs
  simp only [bnd, bnds, stA, z6A, Z, iv, SX.eval, and_true]
  omega
theorem cW : Con P (Fence.there P) (HO b1 b2 a) (kS oW) :=
  con_val rfl rfl rfl rfl fun o ⟨h, _⟩ => by
    refine ⟨?_, bnd_st rfl h.hs⟩
    have ho : op2 (opz (zo o) 2 0) := by simp [op2, opz]
    have hs : stP (opz (zo o) 2 0) := h.hs
    have hh := hs
    simp only [stP] at hh
    have k := ((do_withdraw (z := opz (zo o) 2 0) h.hc hs ho).1 (by simp only [opz] at hh ⊢; simp at hh ⊢; omega)).2
    have q0 : ∀ h A : Int, qt (opz (zo o) 2 0) h A = 0 := fun h A => by unfold qt; rw [show opz (zo o) 2 0 23 = 0 from rfl, Int.zero_mul]; exact Int.zero_tdiv _
    have e1 : sV (aft2 (opz (zo o) 2 0)) = stV (zo o) := by simp only [sV, aft2, q0, show opz (zo o) 2 0 23 = 0 from rfl, Int.sub_zero]; rfl
    have e2 : gV (gon2 (opz (zo o) 2 0)) = gV zeros := gV_congr fun i hi => by unfold gon2; split <;> simp only [q0, show opz (zo o) 2 0 23 = 0 from rfl, zeros] <;> rfl
    unfold ansV at k
    rw [e1, e2] at k
    exact k
theorem cR : Con P (Fence.there P) (HO b1 b2 a) (kS oR) :=
  con_val rfl rfl rfl rfl fun o ⟨h, _⟩ => by
    refine ⟨?_, bnd_st rfl h.hs⟩
    have ho : op3 (opz (zo o) 3 0) := by simp [op3, opz]
    have hs : stP (opz (zo o) 3 0) := h.hs
    have hh := hs
    simp only [stP] at hh
    have k := ((do_rest (z := opz (zo o) 3 0) h.hc hs ho).1 (by simp only [opz] at hh ⊢; simp at hh ⊢; omega)).2
    have n0 : ∀ t s : Nat, opz (zo o) 3 0 s = 0 → nr (opz (zo o) 3 0) t s = opz (zo o) 3 0 t := fun t s e => by unfold nr; rw [e, Int.mul_zero]; simp
    have e1 : sV (aft3 (opz (zo o) 3 0)) = stV (zo o) := by
      simp only [sV, aft3, n0 15 24 rfl, n0 15 25 rfl, n0 16 24 rfl, n0 16 25 rfl, sx3_l (Int.le_refl _), sx4_l (Int.le_refl _), show opz (zo o) 3 0 26 = 0 from rfl, show opz (zo o) 3 0 27 = 0 from rfl, Int.add_zero]; rfl
    unfold ansV at k
    rw [e1] at k
    exact k
theorem cI {ha : AV plain} (hpa : pureA ha = true) {t : (Nat → Value) → Int} (ht : ∀ o, HO b1 b2 a o → valOf o ha = vi (t o) ∧ 2000 ≤ t o ∧ t o ≤ 5000) : Con P (Fence.there P) (HO b1 b2 a) (kS (oI ha)) :=
  con_val rfl rfl (by show (pureA cavA && (pureA stA && (pureA (oI ha) && true))) = true; simp only [oI, pureA, puresA, hpa, one, Z]; rfl) rfl fun o hO => by
    obtain ⟨t1, t2, t3⟩ := ht o hO
    obtain ⟨h, _⟩ := hO
    refine ⟨?_, bnd_st rfl h.hs⟩
    have ho : op1 (opz (zo o) 1 (t o)) := by simp [op1, opz, t2, t3]
    have hs : stP (opz (zo o) 1 (t o)) := h.hs
    have hh := hs
    simp only [stP] at hh
    have k := ((do_inject (z := opz (zo o) 1 (t o)) h.hc hs ho).1 (by simp only [opz] at hh ⊢; simp at hh ⊢; omega)).2
    have c0 : cm (opz (zo o) 1 (t o)) = 0 := by unfold cm; rw [show opz (zo o) 1 (t o) 19 = 0 from rfl, show opz (zo o) 1 (t o) 20 = 0 from rfl, Int.zero_mul, Int.zero_mul]; rfl
    have w0 : ∀ S T : Int, warmT (opz (zo o) 1 (t o)) S T = T := fun S T => by
      show wt S (cm (opz (zo o) 1 (t o))) T (opz (zo o) 1 (t o) 21) = T
      rw [c0]; exact wt_zero
    have e1 : sV (aft1 (opz (zo o) 1 (t o))) = stV (zo o) := by
      simp only [sV, aft1, w0, sx3_l (Int.le_refl _), sx4_l (Int.le_refl _), show opz (zo o) 1 (t o) 19 = 0 from rfl, show opz (zo o) 1 (t o) 20 = 0 from rfl, show opz (zo o) 1 (t o) 22 = 0 from rfl, Int.add_zero]; rfl
    unfold ansV at k
    rw [e1] at k
    have e2 : (valsOf o (kS (oI ha)).args).toArray = #[cavV (opz (zo o) 1 (t o)), stV (opz (zo o) 1 (t o)), opV (opz (zo o) 1 (t o))] := by
      show #[cavV (zo o), stV (zo o), valOf o (oI ha)] = _
      have : valOf o (oI ha) = opV (opz (zo o) 1 (t o)) := by
        simp only [oI, valOf, valsOf, t1, one, Z]; rfl
      rw [this]; rfl
    rw [e2]
    exact k
end
noncomputable def gM_IA : Ctx := gM ([] ++ innL) (HO true true inA)
theorem dM_IA : isRes (kMore inA).res (runK P L true [kDo stA inA xA gxA 0, kDo nA inA yA gyA 0, kS oW, kS (oI (iv 21 2000 5000)), kS oR, k21] [] gM_IA (kMore inA)) = true := by decide +kernel
theorem cM_IA : Con P (Fence.there P) gM_IA.holds (kMore inA) :=
  con_of_run (H := HO true true inA) fbT rfl (List.forall_mem_cons.2 ⟨⟨by decide +kernel, c1_ok rfl⟩, List.forall_mem_cons.2 ⟨⟨by decide +kernel, c2_ok rfl⟩, List.forall_mem_cons.2 ⟨⟨by decide +kernel, cW⟩, List.forall_mem_cons.2 ⟨⟨by decide +kernel, cI (t := (fun o => zo o 21)) rfl (fun o h => ⟨rfl, by have := h.2; have := h.1.ho; simp only [opP, op1, op2, op3] at this; have h28 : zo o 28 = 1 := (by injection h.2 with hh; injection congrArg (fun x : Array Value => x[0]!) hh with _ q; exact q.symm); omega, by have := h.1.ho; simp only [opP, op1, op2, op3] at this; have h28 : zo o 28 = 1 := (by injection h.2 with hh; injection congrArg (fun x : Array Value => x[0]!) hh with _ q; exact q.symm); omega⟩)⟩, List.forall_mem_cons.2 ⟨⟨by decide +kernel, cR⟩, kn_ok⟩⟩⟩⟩⟩) no_p (fun o h => h.extra) dM_IA
noncomputable def gM_IB : Ctx := gM [] (HO false true inA)
theorem dM_IB : isRes (kMore inA).res (runK P L true [kDo stA inA z8A z6A 7, kDo nA inA yA gyA 0, kS oW, kS (oI (iv 21 2000 5000)), kS oR, k21] [] gM_IB (kMore inA)) = true := by decide +kernel
theorem cM_IB : Con P (Fence.there P) gM_IB.holds (kMore inA) :=
  con_of_run (H := HO false true inA) fbT rfl (List.forall_mem_cons.2 ⟨⟨by decide +kernel, c1_no rfl⟩, List.forall_mem_cons.2 ⟨⟨by decide +kernel, c2_ok rfl⟩, List.forall_mem_cons.2 ⟨⟨by decide +kernel, cW⟩, List.forall_mem_cons.2 ⟨⟨by decide +kernel, cI (t := (fun o => zo o 21)) rfl (fun o h => ⟨rfl, by have := h.2; have := h.1.ho; simp only [opP, op1, op2, op3] at this; have h28 : zo o 28 = 1 := (by injection h.2 with hh; injection congrArg (fun x : Array Value => x[0]!) hh with _ q; exact q.symm); omega, by have := h.1.ho; simp only [opP, op1, op2, op3] at this; have h28 : zo o 28 = 1 := (by injection h.2 with hh; injection congrArg (fun x : Array Value => x[0]!) hh with _ q; exact q.symm); omega⟩)⟩, List.forall_mem_cons.2 ⟨⟨by decide +kernel, cR⟩, kn_ok⟩⟩⟩⟩⟩) no_p (fun o h => h.extra) dM_IB
noncomputable def gM_IC : Ctx := gM [] (HO false false inA)
theorem dM_IC : isRes (kMore inA).res (runK P L true [kDo stA inA z8A z6A 7, kDo nA inA z8A z6A 7, kS oW, kS (oI (iv 21 2000 5000)), kS oR, k21] [] gM_IC (kMore inA)) = true := by decide +kernel
theorem cM_IC : Con P (Fence.there P) gM_IC.holds (kMore inA) :=
  con_of_run (H := HO false false inA) fbT rfl (List.forall_mem_cons.2 ⟨⟨by decide +kernel, c1_no rfl⟩, List.forall_mem_cons.2 ⟨⟨by decide +kernel, c2_no rfl⟩, List.forall_mem_cons.2 ⟨⟨by decide +kernel, cW⟩, List.forall_mem_cons.2 ⟨⟨by decide +kernel, cI (t := (fun o => zo o 21)) rfl (fun o h => ⟨rfl, by have := h.2; have := h.1.ho; simp only [opP, op1, op2, op3] at this; have h28 : zo o 28 = 1 := (by injection h.2 with hh; injection congrArg (fun x : Array Value => x[0]!) hh with _ q; exact q.symm); omega, by have := h.1.ho; simp only [opP, op1, op2, op3] at this; have h28 : zo o 28 = 1 := (by injection h.2 with hh; injection congrArg (fun x : Array Value => x[0]!) hh with _ q; exact q.symm); omega⟩)⟩, List.forall_mem_cons.2 ⟨⟨by decide +kernel, cR⟩, kn_ok⟩⟩⟩⟩⟩) no_p (fun o h => h.extra) dM_IC
noncomputable def gM_WA : Ctx := gM ([] ++ innL) (HO true true wiA)
theorem dM_WA : isRes (kMore wiA).res (runK P L true [kDo stA wiA xA gxA 0, kDo nA wiA yA gyA 0, kS oW, kS (oI (one 2000)), kS oR, k21] [] gM_WA (kMore wiA)) = true := by decide +kernel
theorem cM_WA : Con P (Fence.there P) gM_WA.holds (kMore wiA) :=
  con_of_run (H := HO true true wiA) fbT rfl (List.forall_mem_cons.2 ⟨⟨by decide +kernel, c1_ok rfl⟩, List.forall_mem_cons.2 ⟨⟨by decide +kernel, c2_ok rfl⟩, List.forall_mem_cons.2 ⟨⟨by decide +kernel, cW⟩, List.forall_mem_cons.2 ⟨⟨by decide +kernel, cI (t := (fun _ => 2000)) rfl (fun o h => ⟨rfl, by omega, by omega⟩)⟩, List.forall_mem_cons.2 ⟨⟨by decide +kernel, cR⟩, kn_ok⟩⟩⟩⟩⟩) no_p (fun o h => h.extra) dM_WA
noncomputable def gM_WB : Ctx := gM [] (HO false true wiA)
theorem dM_WB : isRes (kMore wiA).res (runK P L true [kDo stA wiA z8A z6A 7, kDo nA wiA yA gyA 0, kS oW, kS (oI (one 2000)), kS oR, k21] [] gM_WB (kMore wiA)) = true := by decide +kernel
theorem cM_WB : Con P (Fence.there P) gM_WB.holds (kMore wiA) :=
  con_of_run (H := HO false true wiA) fbT rfl (List.forall_mem_cons.2 ⟨⟨by decide +kernel, c1_no rfl⟩, List.forall_mem_cons.2 ⟨⟨by decide +kernel, c2_ok rfl⟩, List.forall_mem_cons.2 ⟨⟨by decide +kernel, cW⟩, List.forall_mem_cons.2 ⟨⟨by decide +kernel, cI (t := (fun _ => 2000)) rfl (fun o h => ⟨rfl, by omega, by omega⟩)⟩, List.forall_mem_cons.2 ⟨⟨by decide +kernel, cR⟩, kn_ok⟩⟩⟩⟩⟩) no_p (fun o h => h.extra) dM_WB
noncomputable def gM_WC : Ctx := gM [] (HO false false wiA)
theorem dM_WC : isRes (kMore wiA).res (runK P L true [kDo stA wiA z8A z6A 7, kDo nA wiA z8A z6A 7, kS oW, kS (oI (one 2000)), kS oR, k21] [] gM_WC (kMore wiA)) = true := by decide +kernel
theorem cM_WC : Con P (Fence.there P) gM_WC.holds (kMore wiA) :=
  con_of_run (H := HO false false wiA) fbT rfl (List.forall_mem_cons.2 ⟨⟨by decide +kernel, c1_no rfl⟩, List.forall_mem_cons.2 ⟨⟨by decide +kernel, c2_no rfl⟩, List.forall_mem_cons.2 ⟨⟨by decide +kernel, cW⟩, List.forall_mem_cons.2 ⟨⟨by decide +kernel, cI (t := (fun _ => 2000)) rfl (fun o h => ⟨rfl, by omega, by omega⟩)⟩, List.forall_mem_cons.2 ⟨⟨by decide +kernel, cR⟩, kn_ok⟩⟩⟩⟩⟩) no_p (fun o h => h.extra) dM_WC
noncomputable def gM_RA : Ctx := gM (trL ++ innL) (HO true true reA)
theorem dM_RA : isRes (kMore reA).res (runK P L true [kDo stA reA xA gxA 0, kDo nA reA yA gyA 0, kS oW, kS (oI (one 2000)), kS oR, k21] [] gM_RA (kMore reA)) = true := by decide +kernel
theorem cM_RA : Con P (Fence.there P) gM_RA.holds (kMore reA) :=
  con_of_run (H := HO true true reA) fbT rfl (List.forall_mem_cons.2 ⟨⟨by decide +kernel, c1_ok rfl⟩, List.forall_mem_cons.2 ⟨⟨by decide +kernel, c2_ok rfl⟩, List.forall_mem_cons.2 ⟨⟨by decide +kernel, cW⟩, List.forall_mem_cons.2 ⟨⟨by decide +kernel, cI (t := (fun _ => 2000)) rfl (fun o h => ⟨rfl, by omega, by omega⟩)⟩, List.forall_mem_cons.2 ⟨⟨by decide +kernel, cR⟩, kn_ok⟩⟩⟩⟩⟩) no_p (fun o h => h.extra) dM_RA
noncomputable def gM_RB : Ctx := gM trL (HO false true reA)
theorem dM_RB : isRes (kMore reA).res (runK P L true [kDo stA reA z8A z6A 7, kDo nA reA yA gyA 0, kS oW, kS (oI (one 2000)), kS oR, k21] [] gM_RB (kMore reA)) = true := by decide +kernel
theorem cM_RB : Con P (Fence.there P) gM_RB.holds (kMore reA) :=
  con_of_run (H := HO false true reA) fbT rfl (List.forall_mem_cons.2 ⟨⟨by decide +kernel, c1_no rfl⟩, List.forall_mem_cons.2 ⟨⟨by decide +kernel, c2_ok rfl⟩, List.forall_mem_cons.2 ⟨⟨by decide +kernel, cW⟩, List.forall_mem_cons.2 ⟨⟨by decide +kernel, cI (t := (fun _ => 2000)) rfl (fun o h => ⟨rfl, by omega, by omega⟩)⟩, List.forall_mem_cons.2 ⟨⟨by decide +kernel, cR⟩, kn_ok⟩⟩⟩⟩⟩) no_p (fun o h => h.extra) dM_RB
noncomputable def gM_RC : Ctx := gM trL (HO false false reA)
theorem dM_RC : isRes (kMore reA).res (runK P L true [kDo stA reA z8A z6A 7, kDo nA reA z8A z6A 7, kS oW, kS (oI (one 2000)), kS oR, k21] [] gM_RC (kMore reA)) = true := by decide +kernel
theorem cM_RC : Con P (Fence.there P) gM_RC.holds (kMore reA) :=
  con_of_run (H := HO false false reA) fbT rfl (List.forall_mem_cons.2 ⟨⟨by decide +kernel, c1_no rfl⟩, List.forall_mem_cons.2 ⟨⟨by decide +kernel, c2_no rfl⟩, List.forall_mem_cons.2 ⟨⟨by decide +kernel, cW⟩, List.forall_mem_cons.2 ⟨⟨by decide +kernel, cI (t := (fun _ => 2000)) rfl (fun o h => ⟨rfl, by omega, by omega⟩)⟩, List.forall_mem_cons.2 ⟨⟨by decide +kernel, cR⟩, kn_ok⟩⟩⟩⟩⟩) no_p (fun o h => h.extra) dM_RC
end Go.Ev.Gas
end

