import Derived.Test.YtdpegcimhhegmaaMoreA
import Derived.Test.YtdpegcimhhegmaaMoreV
set_option linter.unusedVariables false
set_option linter.unusedSimpArgs false
set_option linter.unusedSectionVars false
noncomputable section
set_option maxRecDepth 1000000
set_option maxHeartbeats 0
namespace Go.Ev.Gas
open Go.RowKit Go.Ev.Num
/-- The narrower state's numbers. -/
def ny (z : Nat → Int) (i : Nat) : Int := if i = 11 then z 80 else if i = 14 then z 81 else if i = 15 then z 82 else if i = 18 then z 83 else z i
/-- What stands where the answer's numbers are. -/
def Ans (z w : Nat → Int) (x g : Nat) : Bool → Prop
  | true => can w ∧ (∀ i, i < 8 → z (x + i) = aft w i) ∧ (∀ i, i < 6 → z (g + i) = gon w i)
  | false => ¬ can w
structure HM (b1 b2 : Bool) (z : Nat → Int) : Prop where
  hc : cavP z
  hs : stP z
  hy : stP (ny z)
  ho : opP z
  a1 : Ans z z 90 100 b1
  a2 : Ans z (ny z) 110 120 b2
def HO (b1 b2 : Bool) (a : AV plain) (o : Nat → Value) : Prop := HM b1 b2 (zo o) ∧ valOf o a = opV (zo o)
theorem op_ny {z : Nat → Int} (h : opP z) : opP (ny z) := h
theorem cav_ny {z : Nat → Int} (h : cavP z) : cavP (ny z) := h
theorem do_ok {z w : Nat → Int} {x g : Nat} (hc : cavP w) (hs : stP w) (ho : opP w) (h : Ans z w x g true) : Gives (Fence.there P) 29 #[cavV w, stV w, opV w] (ansV (fun i => z (x + i)) (fun i => z (g + i)) (vi 0)) ∧ StI (fun i => z (x + i)) ∧ (∀ i, i < 6 → -9223372036854775808 ≤ z (g + i) ∧ z (g + i) ≤ 9223372036854775807) := by
  obtain ⟨h1, h2, h3⟩ := h
  have := ((do_all hc hs ho).1 h1).2
  have k := aft_in hc hs ho h1
  rw [show ansV (fun i => z (x + i)) (fun i => z (g + i)) (vi 0) = ansV (aft w) (gon w) (vi 0) by unfold ansV; rw [sV_congr (b := aft w) h2, gV_congr (b := gon w) h3]]
  refine ⟨this, ?_, fun i hi => by rw [h3 i hi]; exact k.2 i⟩
  have e := fun i hi => h2 i hi
  have k1 := k.1
  simp only [StI] at k1 ⊢
  rw [e 0 (by omega), e 1 (by omega), e 2 (by omega), e 3 (by omega), e 4 (by omega), e 5 (by omega), e 6 (by omega), e 7 (by omega)]
  exact k1
theorem do_no {z w : Nat → Int} {x g : Nat} (hc : cavP w) (hs : stP w) (ho : opP w) (h : Ans z w x g false) : Gives (Fence.there P) 29 #[cavV w, stV w, opV w] (ansV zeros zeros (vi 7)) := ((do_all hc hs ho).2 h).2
section
variable {b1 b2 : Bool} {a : AV plain} (hp : pureA a = true)
include hp
theorem c1_ok : Con P (Fence.there P) (HO true b2 a) (kDo stA a xA gxA 0) :=
  con_val rfl rfl (by show (pureA cavA && (pureA stA && (pureA a && true))) = true; rw [hp]; rfl) rfl fun o ⟨h, e⟩ => by
    obtain ⟨k1, k2, k3⟩ := do_ok (z := zo o) (w := zo o) h.hc h.hs h.ho h.a1
    refine ⟨?_, ?_⟩
    · rw [show (valsOf o (kDo stA a xA gxA 0).args).toArray = #[cavV (zo o), stV (zo o), opV (zo o)] by rw [← e]; rfl]
      exact k1
    · simp only [StI, zo, Nat.reduceAdd] at k2
      have g0 := k3 0 (by omega); have g1 := k3 1 (by omega); have g2 := k3 2 (by omega); have g3 := k3 3 (by omega); have g4 := k3 4 (by omega); have g5 := k3 5 (by omega)
      simp only [zo, Nat.reduceAdd] at g0 g1 g2 g3 g4 g5
      simp only [bnd, bnds, xA, gxA, iv, rv, SX.eval, and_true]
      omega
theorem c1_no : Con P (Fence.there P) (HO false b2 a) (kDo stA a z8A z6A 7) :=
  con_val rfl rfl (by show (pureA cavA && (pureA stA && (pureA a && true))) = true; rw [hp]; rfl) rfl fun o ⟨h, e⟩ => by
    refine ⟨?_, by simp only [bnd, bnds, z8A, z6A, Z, and_true]⟩
    rw [show (valsOf o (kDo stA a z8A z6A 7).args).toArray = #[cavV (zo o), stV (zo o), opV (zo o)] by rw [← e]; rfl]
    exact do_no (z := zo o) (w := zo o) h.hc h.hs h.ho h.a1
theorem c2_ok : Con P (Fence.there P) (HO b1 true a) (kDo nA a yA gyA 0) :=
  con_val rfl rfl (by show (pureA cavA && (pureA nA && (pureA a && true))) = true; rw [hp]; rfl) rfl fun o ⟨h, e⟩ => by
    obtain ⟨k1, k2, k3⟩ := do_ok (z := zo o) (w := ny (zo o)) (cav_ny h.hc) h.hy (op_ny h.ho) h.a2
    refine ⟨?_, ?_⟩
    · rw [show (valsOf o (kDo nA a yA gyA 0).args).toArray = #[cavV (ny (zo o)), stV (ny (zo o)), opV (ny (zo o))] by rw [show opV (ny (zo o)) = opV (zo o) from rfl, ← e]; rfl]
      exact k1
    · simp only [StI, zo, Nat.reduceAdd] at k2
      have g0 := k3 0 (by omega); have g1 := k3 1 (by omega); have g2 := k3 2 (by omega); have g3 := k3 3 (by omega); have g4 := k3 4 (by omega); have g5 := k3 5 (by omega)
      simp only [zo, Nat.reduceAdd] at g0 g1 g2 g3 g4 g5
      simp only [bnd, bnds, yA, gyA, iv, rv, SX.eval, and_true]
      omega
theorem c2_no : Con P (Fence.there P) (HO b1 false a) (kDo nA a z8A z6A 7) :=
  con_val rfl rfl (by show (pureA cavA && (pureA nA && (pureA a && true))) = true; rw [hp]; rfl) rfl fun o ⟨h, e⟩ => by
    refine ⟨?_, by simp only [bnd, bnds, z8A, z6A, Z, and_true]⟩
    rw [show (valsOf o (kDo nA a z8A z6A 7).args).toArray = #[cavV (ny (zo o)), stV (ny (zo o)), opV (ny (zo o))] by rw [show opV (ny (zo o)) = opV (zo o) from rfl, ← e]; rfl]
    exact do_no (z := zo o) (w := ny (zo o)) (cav_ny h.hc) h.hy (op_ny h.ho) h.a2
omit hp
/-- An operation that changes nothing. -/
def opz (z : Nat → Int) (k t : Int) (i : Nat) : Int := if i < 19 then z i else if i = 28 then k else if i = 21 then t else 0
theorem bnd_stM {z : Nat → Int} {o : Nat → Value} (e : zo o = z) (hs : stP z) : bnd o (.tuple [stA, z6A, .int .i64 0]) := by
  subst e
  simp only [stP, zo] at hs
  simp only [bnd, bnds, stA, z6A, Z, iv, SX.eval, and_true]
  omega
theorem cW : Con P (Fence.there P) (HO b1 b2 a) (kS oW) :=
  con_val rfl rfl rfl rfl fun o ⟨h, _⟩ => by
    refine ⟨?_, bnd_stM rfl h.hs⟩
    have ho : op2 (opz (zo o) 2 0) := by simp [op2, opz]
    have hs : stP (opz (zo o) 2 0) := h.hs
    have hh := hs
    simp only [stP] at hh
    have k := ((do_withdraw (z := opz (zo o) 2 0) h.hc hs ho).1 (by simp only [opz] at hh ⊢; simp at hh ⊢; omega)).2
    have q0 : ∀ h A : Int, qt (opz (zo o) 2 0) h A = 0 := fun h A => by unfold qt; rw [show opz (zo o) 2 0 23 = 0 from rfl, Int.zero_mul]; exact Int.zero_tdiv _
    have e1 : sV (aft2 (opz (zo o) 2 0)) = stV (zo o) := by simp only [sV, aft2, q0, show opz (zo o) 2 0 23 = 0 from rfl, Int.sub_zero]; rfl
    have e2 : gV (gon2 (opz (zo o) 2 0)) = gV zeros := gV_congr fun i hi => by unfold gon2; split <;> simp only [q0, show opz (zo o) 2 0 23 = 0 from rfl, zeros] <;> rfl
    unfold ansV at k
    rw [e1, e2] at k
    exact k
theorem cR : Con P (Fence.there P) (HO b1 b2 a) (kS oR) :=
  con_val rfl rfl rfl rfl fun o ⟨h, _⟩ => by
    refine ⟨?_, bnd_stM rfl h.hs⟩
    have ho : op3 (opz (zo o) 3 0) := by simp [op3, opz]
    have hs : stP (opz (zo o) 3 0) := h.hs
    have hh := hs
    simp only [stP] at hh
    have k := ((do_rest (z := opz (zo o) 3 0) h.hc hs ho).1 (by simp only [opz] at hh ⊢; simp at hh ⊢; omega)).2
    have n0 : ∀ t s : Nat, opz (zo o) 3 0 s = 0 → nr (opz (zo o) 3 0) t s = opz (zo o) 3 0 t := fun t s e => by unfold nr; rw [e, Int.mul_zero]; simp
    have e1 : sV (aft3 (opz (zo o) 3 0)) = stV (zo o) := by
      simp only [sV, aft3, n0 15 24 rfl, n0 15 25 rfl, n0 16 24 rfl, n0 16 25 rfl, sx3_l (Int.le_refl _), sx4_l (Int.le_refl _), show opz (zo o) 3 0 26 = 0 from rfl, show opz (zo o) 3 0 27 = 0 from rfl, Int.add_zero]; rfl
    unfold ansV at k
    rw [e1] at k
    exact k
theorem cI {ha : AV plain} (hpa : pureA ha = true) {t : (Nat → Value) → Int} (ht : ∀ o, HO b1 b2 a o → valOf o ha = vi (t o) ∧ 2000 ≤ t o ∧ t o ≤ 5000) : Con P (Fence.there P) (HO b1 b2 a) (kS (oI ha)) :=
  con_val rfl rfl (by show (pureA cavA && (pureA stA && (pureA (oI ha) && true))) = true; simp only [oI, pureA, puresA, hpa, one, Z]; rfl) rfl fun o hO => by
    obtain ⟨t1, t2, t3⟩ := ht o hO
    obtain ⟨h, _⟩ := hO
    refine ⟨?_, bnd_stM rfl h.hs⟩
    have ho : op1 (opz (zo o) 1 (t o)) := by simp [op1, opz, t2, t3]
    have hs : stP (opz (zo o) 1 (t o)) := h.hs
    have hh := hs
    simp only [stP] at hh
    have k := ((do_inject (z := opz (zo o) 1 (t o)) h.hc hs ho).1 (by simp only [opz] at hh ⊢; simp at hh ⊢; omega)).2
    have c0 : cm (opz (zo o) 1 (t o)) = 0 := by unfold cm; rw [show opz (zo o) 1 (t o) 19 = 0 from rfl, show opz (zo o) 1 (t o) 20 = 0 from rfl, Int.zero_mul, Int.zero_mul]; rfl
    have w0 : ∀ S T : Int, warmT (opz (zo o) 1 (t o)) S T = T := fun S T => by
      show wt S (cm (opz (zo o) 1 (t o))) T (opz (zo o) 1 (t o) 21) = T
      rw [c0]; exact wt_zero
    have e1 : sV (aft1 (opz (zo o) 1 (t o))) = stV (zo o) := by
      simp only [sV, aft1, w0, sx3_l (Int.le_refl _), sx4_l (Int.le_refl _), show opz (zo o) 1 (t o) 19 = 0 from rfl, show opz (zo o) 1 (t o) 20 = 0 from rfl, show opz (zo o) 1 (t o) 22 = 0 from rfl, Int.add_zero]; rfl
    unfold ansV at k
    rw [e1] at k
    have e2 : (valsOf o (kS (oI ha)).args).toArray = #[cavV (opz (zo o) 1 (t o)), stV (opz (zo o) 1 (t o)), opV (opz (zo o) 1 (t o))] := by
      show #[cavV (zo o), stV (zo o), valOf o (oI ha)] = _
      have : valOf o (oI ha) = opV (opz (zo o) 1 (t o)) := by
        simp only [oI, valOf, valsOf, t1, one, Z]; rfl
      rw [this]; rfl
    rw [e2]
    exact k
end
noncomputable def gM_IA : Ctx := gM ([] ++ innL) (HO true true inA)
theorem dM_IA : isRes (kMore inA).res (runK P L true [kDo stA inA xA gxA 0, kDo nA inA yA gyA 0, kS oW, kS (oI (iv 21 2000 5000)), kS oR, k21] [] gM_IA (kMore inA)) = true := by decide +kernel
theorem cM_IA : Con P (Fence.there P) gM_IA.holds (kMore inA) :=
  con_of_run (H := HO true true inA) fbT rfl (List.forall_mem_cons.2 ⟨⟨by decide +kernel, c1_ok rfl⟩, List.forall_mem_cons.2 ⟨⟨by decide +kernel, c2_ok rfl⟩, List.forall_mem_cons.2 ⟨⟨by decide +kernel, cW⟩, List.forall_mem_cons.2 ⟨⟨by decide +kernel, cI (t := (fun o => zo o 21)) rfl (fun o h => ⟨rfl, by have := h.2; have := h.1.ho; simp only [opP, op1, op2, op3] at this; have h28 : zo o 28 = 1 := (by injection h.2 with hh; injection congrArg (fun x : Array Value => x[0]!) hh with _ q; exact q.symm); omega, by have := h.1.ho; simp only [opP, op1, op2, op3] at this; have h28 : zo o 28 = 1 := (by injection h.2 with hh; injection congrArg (fun x : Array Value => x[0]!) hh with _ q; exact q.symm); omega⟩)⟩, List.forall_mem_cons.2 ⟨⟨by decide +kernel, cR⟩, kn_ok⟩⟩⟩⟩⟩) no_p (fun o h => h.extra) dM_IA
noncomputable def gM_IB : Ctx := gM [] (HO false true inA)
theorem dM_IB : isRes (kMore inA).res (runK P L true [kDo stA inA z8A z6A 7, kDo nA inA yA gyA 0, kS oW, kS (oI (iv 21 2000 5000)), kS oR, k21] [] gM_IB (kMore inA)) = true := by decide +kernel
theorem cM_IB : Con P (Fence.there P) gM_IB.holds (kMore inA) :=
  con_of_run (H := HO false true inA) fbT rfl (List.forall_mem_cons.2 ⟨⟨by decide +kernel, c1_no rfl⟩, List.forall_mem_cons.2 ⟨⟨by decide +kernel, c2_ok rfl⟩, List.forall_mem_cons.2 ⟨⟨by decide +kernel, cW⟩, List.forall_mem_cons.2 ⟨⟨by decide +kernel, cI (t := (fun o => zo o 21)) rfl (fun o h => ⟨rfl, by have := h.2; have := h.1.ho; simp only [opP, op1, op2, op3] at this; have h28 : zo o 28 = 1 := (by injection h.2 with hh; injection congrArg (fun x : Array Value => x[0]!) hh with _ q; exact q.symm); omega, by have := h.1.ho; simp only [opP, op1, op2, op3] at this; have h28 : zo o 28 = 1 := (by injection h.2 with hh; injection congrArg (fun x : Array Value => x[0]!) hh with _ q; exact q.symm); omega⟩)⟩, List.forall_mem_cons.2 ⟨⟨by decide +kernel, cR⟩, kn_ok⟩⟩⟩⟩⟩) no_p (fun o h => h.extra) dM_IB
noncomputable def gM_IC : Ctx := gM [] (HO false false inA)
theorem dM_IC : isRes (kMore inA).res (runK P L true [kDo stA inA z8A z6A 7, kDo nA inA z8A z6A 7, kS oW, kS (oI (iv 21 2000 5000)), kS oR, k21] [] gM_IC (kMore inA)) = true := by decide +kernel
theorem cM_IC : Con P (Fence.there P) gM_IC.holds (kMore inA) :=
  con_of_run (H := HO false false inA) fbT rfl (List.forall_mem_cons.2 ⟨⟨by decide +kernel, c1_no rfl⟩, List.forall_mem_cons.2 ⟨⟨by decide +kernel, c2_no rfl⟩, List.forall_mem_cons.2 ⟨⟨by decide +kernel, cW⟩, List.forall_mem_cons.2 ⟨⟨by decide +kernel, cI (t := (fun o => zo o 21)) rfl (fun o h => ⟨rfl, by have := h.2; have := h.1.ho; simp only [opP, op1, op2, op3] at this; have h28 : zo o 28 = 1 := (by injection h.2 with hh; injection congrArg (fun x : Array Value => x[0]!) hh with _ q; exact q.symm); omega, by have := h.1.ho; simp only [opP, op1, op2, op3] at this; have h28 : zo o 28 = 1 := (by injection h.2 with hh; injection congrArg (fun x : Array Value => x[0]!) hh with _ q; exact q.symm); omega⟩)⟩, List.forall_mem_cons.2 ⟨⟨by decide +kernel, cR⟩, kn_ok⟩⟩⟩⟩⟩) no_p (fun o h => h.extra) dM_IC
noncomputable def gM_WA : Ctx := gM ([] ++ innL) (HO true true wiA)
theorem dM_WA : isRes (kMore wiA).res (runK P L true [kDo stA wiA xA gxA 0, kDo nA wiA yA gyA 0, kS oW, kS (oI (one 2000)), kS oR, k21] [] gM_WA (kMore wiA)) = true := by decide +kernel
theorem cM_WA : Con P (Fence.there P) gM_WA.holds (kMore wiA) :=
  con_of_run (H := HO true true wiA) fbT rfl (List.forall_mem_cons.2 ⟨⟨by decide +kernel, c1_ok rfl⟩, List.forall_mem_cons.2 ⟨⟨by decide +kernel, c2_ok rfl⟩, List.forall_mem_cons.2 ⟨⟨by decide +kernel, cW⟩, List.forall_mem_cons.2 ⟨⟨by decide +kernel, cI (t := (fun _ => 2000)) rfl (fun o h => ⟨rfl, by omega, by omega⟩)⟩, List.forall_mem_cons.2 ⟨⟨by decide +kernel, cR⟩, kn_ok⟩⟩⟩⟩⟩) no_p (fun o h => h.extra) dM_WA
noncomputable def gM_WB : Ctx := gM [] (HO false true wiA)
theorem dM_WB : isRes (kMore wiA).res (runK P L true [kDo stA wiA z8A z6A 7, kDo nA wiA yA gyA 0, kS oW, kS (oI (one 2000)), kS oR, k21] [] gM_WB (kMore wiA)) = true := by decide +kernel
theorem cM_WB : Con P (Fence.there P) gM_WB.holds (kMore wiA) :=
  con_of_run (H := HO false true wiA) fbT rfl (List.forall_mem_cons.2 ⟨⟨by decide +kernel, c1_no rfl⟩, List.forall_mem_cons.2 ⟨⟨by decide +kernel, c2_ok rfl⟩, List.forall_mem_cons.2 ⟨⟨by decide +kernel, cW⟩, List.forall_mem_cons.2 ⟨⟨by decide +kernel, cI (t := (fun _ => 2000)) rfl (fun o h => ⟨rfl, by omega, by omega⟩)⟩, List.forall_mem_cons.2 ⟨⟨by decide +kernel, cR⟩, kn_ok⟩⟩⟩⟩⟩) no_p (fun o h => h.extra) dM_WB
noncomputable def gM_WC : Ctx := gM [] (HO false false wiA)
theorem dM_WC : isRes (kMore wiA).res (runK P L true [kDo stA wiA z8A z6A 7, kDo nA wiA z8A z6A 7, kS oW, kS (oI (one 2000)), kS oR, k21] [] gM_WC (kMore wiA)) = true := by decide +kernel
theorem cM_WC : Con P (Fence.there P) gM_WC.holds (kMore wiA) :=
  con_of_run (H := HO false false wiA) fbT rfl (List.forall_mem_cons.2 ⟨⟨by decide +kernel, c1_no rfl⟩, List.forall_mem_cons.2 ⟨⟨by decide +kernel, c2_no rfl⟩, List.forall_mem_cons.2 ⟨⟨by decide +kernel, cW⟩, List.forall_mem_cons.2 ⟨⟨by decide +kernel, cI (t := (fun _ => 2000)) rfl (fun o h => ⟨rfl, by omega, by omega⟩)⟩, List.forall_mem_cons.2 ⟨⟨by decide +kernel, cR⟩, kn_ok⟩⟩⟩⟩⟩) no_p (fun o h => h.extra) dM_WC
noncomputable def gM_RA : Ctx := gM (trL ++ innL) (HO true true reA)
theorem dM_RA : isRes (kMore reA).res (runK P L true [kDo stA reA xA gxA 0, kDo nA reA yA gyA 0, kS oW, kS (oI (one 2000)), kS oR, k21] [] gM_RA (kMore reA)) = true := by decide +kernel
theorem cM_RA : Con P (Fence.there P) gM_RA.holds (kMore reA) :=
  con_of_run (H := HO true true reA) fbT rfl (List.forall_mem_cons.2 ⟨⟨by decide +kernel, c1_ok rfl⟩, List.forall_mem_cons.2 ⟨⟨by decide +kernel, c2_ok rfl⟩, List.forall_mem_cons.2 ⟨⟨by decide +kernel, cW⟩, List.forall_mem_cons.2 ⟨⟨by decide +kernel, cI (t := (fun _ => 2000)) rfl (fun o h => ⟨rfl, by omega, by omega⟩)⟩, List.forall_mem_cons.2 ⟨⟨by decide +kernel, cR⟩, kn_ok⟩⟩⟩⟩⟩) no_p (fun o h => h.extra) dM_RA
noncomputable def gM_RB : Ctx := gM trL (HO false true reA)
theorem dM_RB : isRes (kMore reA).res (runK P L true [kDo stA reA z8A z6A 7, kDo nA reA yA gyA 0, kS oW, kS (oI (one 2000)), kS oR, k21] [] gM_RB (kMore reA)) = true := by decide +kernel
theorem cM_RB : Con P (Fence.there P) gM_RB.holds (kMore reA) :=
  con_of_run (H := HO false true reA) fbT rfl (List.forall_mem_cons.2 ⟨⟨by decide +kernel, c1_no rfl⟩, List.forall_mem_cons.2 ⟨⟨by decide +kernel, c2_ok rfl⟩, List.forall_mem_cons.2 ⟨⟨by decide +kernel, cW⟩, List.forall_mem_cons.2 ⟨⟨by decide +kernel, cI (t := (fun _ => 2000)) rfl (fun o h => ⟨rfl, by omega, by omega⟩)⟩, List.forall_mem_cons.2 ⟨⟨by decide +kernel, cR⟩, kn_ok⟩⟩⟩⟩⟩) no_p (fun o h => h.extra) dM_RB
noncomputable def gM_RC : Ctx := gM trL (HO false false reA)
theorem dM_RC : isRes (kMore reA).res (runK P L true [kDo stA reA z8A z6A 7, kDo nA reA z8A z6A 7, kS oW, kS (oI (one 2000)), kS oR, k21] [] gM_RC (kMore reA)) = true := by decide +kernel
theorem cM_RC : Con P (Fence.there P) gM_RC.holds (kMore reA) :=
  con_of_run (H := HO false false reA) fbT rfl (List.forall_mem_cons.2 ⟨⟨by decide +kernel, c1_no rfl⟩, List.forall_mem_cons.2 ⟨⟨by decide +kernel, c2_no rfl⟩, List.forall_mem_cons.2 ⟨⟨by decide +kernel, cW⟩, List.forall_mem_cons.2 ⟨⟨by decide +kernel, cI (t := (fun _ => 2000)) rfl (fun o h => ⟨rfl, by omega, by omega⟩)⟩, List.forall_mem_cons.2 ⟨⟨by decide +kernel, cR⟩, kn_ok⟩⟩⟩⟩⟩) no_p (fun o h => h.extra) dM_RC
end Go.Ev.Gas
end

noncomputable section
set_option maxRecDepth 100000
namespace Go.Ev.Gas
open Go.RowKit Go.Ev.Num
theorem aft_congr {z w : Nat → Int} (h : ∀ i, i < 40 → z i = w i) : aft z = aft w ∧ gon z = gon w ∧ (can z ↔ can w) := by
  have e4 := h 4 (by omega); have e6 := h 6 (by omega); have e7 := h 7 (by omega); have e8 := h 8 (by omega)
  have e11 := h 11 (by omega); have e12 := h 12 (by omega); have e13 := h 13 (by omega); have e14 := h 14 (by omega); have e15 := h 15 (by omega); have e16 := h 16 (by omega); have e17 := h 17 (by omega); have e18 := h 18 (by omega)
  have e19 := h 19 (by omega); have e20 := h 20 (by omega); have e21 := h 21 (by omega); have e22 := h 22 (by omega); have e23 := h 23 (by omega); have e24 := h 24 (by omega); have e25 := h 25 (by omega); have e26 := h 26 (by omega); have e27 := h 27 (by omega); have e28 := h 28 (by omega)
  refine ⟨?_, ?_, ?_⟩
  · funext i
    unfold aft
    rw [e28]
    have ec : cm z = cm w := by simp only [cm, e6, e7, e19, e20]
    have s1 : sm z 11 13 = sm w 11 13 := by simp only [sm, e6, e7, e11, e13]
    have s2 : sm z 12 14 = sm w 12 14 := by simp only [sm, e6, e7, e12, e14]
    have ew : ∀ S T : Int, warmT z S T = warmT w S T := fun S T => by unfold warmT; rw [ec, e21]
    have a1 : aft1 z i = aft1 w i := by simp only [aft1, ew, s1, s2, e11, e12, e13, e14, e15, e16, e17, e18, e19, e20, e22]
    have a2 : aft2 z i = aft2 w i := by simp only [aft2, qt, am, e11, e12, e13, e14, e15, e16, e17, e18, e23]
    have a3 : aft3 z i = aft3 w i := by simp only [aft3, nr, e8, e11, e12, e13, e14, e15, e16, e17, e18, e24, e25, e26, e27]
    by_cases k : w 28 = 1
    · rw [if_pos k, if_pos k, a1]
    · rw [if_neg k, if_neg k]
      by_cases k : w 28 = 2
      · rw [if_pos k, if_pos k, a2]
      · rw [if_neg k, if_neg k, a3]
  · funext i
    unfold gon
    rw [e28]
    have a2 : gon2 z i = gon2 w i := by simp only [gon2, qt, am, e11, e12, e13, e14, e15, e16, e17, e18, e23]
    by_cases k : w 28 = 2
    · rw [if_pos k, if_pos k, a2]
    · rw [if_neg k, if_neg k]
  · simp only [can, e11, e12, e13, e14, e18, e19, e20, e22, e23, e27, e28]
/-- By how much less is unknown. -/
def inr (n lo hi : Int) : Int := sxOp 4 0 (sxOp 3 n (hi - lo))
theorem inr_in {n lo hi : Int} (h : lo ≤ hi) : 0 ≤ inr n lo hi ∧ inr n lo hi ≤ hi - lo := by
  unfold inr
  have e1 : sxOp 3 n (hi - lo) ≤ hi - lo := by show (if _ < _ then _ else _) ≤ _; split <;> omega
  generalize sxOp 3 n (hi - lo) = x at *
  show 0 ≤ (if _ > _ then _ else _) ∧ (if _ > _ then _ else _) ≤ _
  split <;> omega
def yM (z l : Nat → Int) (i : Nat) : Int := if i = 11 then z 11 + inr (l 0) (z 11) (z 12) else if i = 14 then z 14 - inr (l 1) (z 13) (z 14) else if i = 15 then z 15 + inr (l 2) (z 15) (z 16) else if i = 18 then z 18 - inr (l 3) (z 17) (z 18) else z i
def zM (z l : Nat → Int) (i : Nat) : Int :=
  if i < 40 then z i else if i < 44 then l (i - 40) else if i = 80 then z 11 + inr (l 0) (z 11) (z 12) else if i = 81 then z 14 - inr (l 1) (z 13) (z 14) else if i = 82 then z 15 + inr (l 2) (z 15) (z 16) else if i = 83 then z 18 - inr (l 3) (z 17) (z 18)
  else if i < 90 then 0 else if i < 98 then aft z (i - 90) else if i < 100 then 0 else if i < 106 then gon z (i - 100) else if i < 110 then 0 else if i < 118 then aft (yM z l) (i - 110) else if i < 120 then 0 else gon (yM z l) (i - 120)
theorem zM_lo {z l : Nat → Int} {i : Nat} (h : i < 40) : zM z l i = z i := by unfold zM; rw [if_pos h]
theorem zM_x {z l : Nat → Int} {i : Nat} (h : i < 8) : zM z l (90 + i) = aft z i := by
  unfold zM
  rw [if_neg (by omega), if_neg (by omega), if_neg (by omega), if_neg (by omega), if_neg (by omega), if_neg (by omega), if_neg (by omega), if_pos (by omega)]
  congr 1; omega
theorem zM_g {z l : Nat → Int} {i : Nat} (h : i < 6) : zM z l (100 + i) = gon z i := by
  unfold zM
  rw [if_neg (by omega), if_neg (by omega), if_neg (by omega), if_neg (by omega), if_neg (by omega), if_neg (by omega), if_neg (by omega), if_neg (by omega), if_neg (by omega), if_pos (by omega)]
  congr 1; omega
theorem zM_y {z l : Nat → Int} {i : Nat} (h : i < 8) : zM z l (110 + i) = aft (yM z l) i := by
  unfold zM
  rw [if_neg (by omega), if_neg (by omega), if_neg (by omega), if_neg (by omega), if_neg (by omega), if_neg (by omega), if_neg (by omega), if_neg (by omega), if_neg (by omega), if_neg (by omega), if_neg (by omega), if_pos (by omega)]
  congr 1; omega
theorem zM_h {z l : Nat → Int} {i : Nat} (h : i < 6) : zM z l (120 + i) = gon (yM z l) i := by
  unfold zM
  rw [if_neg (by omega), if_neg (by omega), if_neg (by omega), if_neg (by omega), if_neg (by omega), if_neg (by omega), if_neg (by omega), if_neg (by omega), if_neg (by omega), if_neg (by omega), if_neg (by omega), if_neg (by omega), if_neg (by omega)]
  congr 1; omega
theorem ny_zM {z l : Nat → Int} {i : Nat} (h : i < 40) : ny (zM z l) i = yM z l i := by
  unfold ny yM
  by_cases k1 : i = 11
  · rw [if_pos k1, if_pos k1]; rfl
  rw [if_neg k1, if_neg k1]
  by_cases k2 : i = 14
  · rw [if_pos k2, if_pos k2]; rfl
  rw [if_neg k2, if_neg k2]
  by_cases k3 : i = 15
  · rw [if_pos k3, if_pos k3]; rfl
  rw [if_neg k3, if_neg k3]
  by_cases k4 : i = 18
  · rw [if_pos k4, if_pos k4]; rfl
  rw [if_neg k4, if_neg k4, zM_lo h]
section
variable {z : Nat → Int} (l : Nat → Int) (hc : cavP z) (hs : stP z) (ho : opP z)
include hc hs ho
theorem yM_in : In z (yM z l) ∧ stP (yM z l) := by
  have hs' := hs
  simp only [stP] at hs'
  have a := inr_in (n := l 0) (lo := z 11) (hi := z 12) (by omega)
  have b := inr_in (n := l 1) (lo := z 13) (hi := z 14) (by omega)
  have c := inr_in (n := l 2) (lo := z 15) (hi := z 16) (by omega)
  have d := inr_in (n := l 3) (lo := z 17) (hi := z 18) (by omega)
  have y11 : yM z l 11 = z 11 + inr (l 0) (z 11) (z 12) := rfl
  have y12 : yM z l 12 = z 12 := rfl
  have y13 : yM z l 13 = z 13 := rfl
  have y14 : yM z l 14 = z 14 - inr (l 1) (z 13) (z 14) := rfl
  have y15 : yM z l 15 = z 15 + inr (l 2) (z 15) (z 16) := rfl
  have y16 : yM z l 16 = z 16 := rfl
  have y17 : yM z l 17 = z 17 := rfl
  have y18 : yM z l 18 = z 18 - inr (l 3) (z 17) (z 18) := rfl
  refine ⟨⟨fun i hi => ?_, fun i hi => ?_, by omega, by omega, by omega, by omega⟩, ?_⟩
  · unfold yM; rw [if_neg (by omega), if_neg (by omega), if_neg (by omega), if_neg (by omega)]
  · unfold yM; rw [if_neg (by omega), if_neg (by omega), if_neg (by omega), if_neg (by omega)]
  · simp only [stP, y11, y12, y13, y14, y15, y16, y17, y18]; omega
theorem names_M : NamesP (ov (zM z l)) moreN := by
  have hs' := hs
  simp only [stP] at hs'
  have a := inr_in (n := l 0) (lo := z 11) (hi := z 12) (by omega)
  have b := inr_in (n := l 1) (lo := z 13) (hi := z 14) (by omega)
  have c := inr_in (n := l 2) (lo := z 15) (hi := z 16) (by omega)
  have d := inr_in (n := l 3) (lo := z 17) (hi := z 18) (by omega)
  have e0 : valI (ov (zM z l) 80) = z 11 + inr (l 0) (z 11) (z 12) := rfl
  have e1 : valI (ov (zM z l) 81) = z 14 - inr (l 1) (z 13) (z 14) := rfl
  have e2 : valI (ov (zM z l) 82) = z 15 + inr (l 2) (z 15) (z 16) := rfl
  have e3 : valI (ov (zM z l) 83) = z 18 - inr (l 3) (z 17) (z 18) := rfl
  exact ⟨⟨rfl, by omega, by omega⟩, ⟨rfl, by omega, by omega⟩, ⟨rfl, by omega, by omega⟩, ⟨rfl, by omega, by omega⟩, trivial⟩
theorem hm_of (b1 b2 : Bool) (h1 : b1 = true ↔ can z) (h2 : b2 = true ↔ can (yM z l)) : HM b1 b2 (zM z l) := by
  have y := yM_in l hc hs ho
  have A := aft_congr (z := zM z l) (w := z) (fun i h => zM_lo h)
  have B := aft_congr (z := ny (zM z l)) (w := yM z l) (fun i h => ny_zM h)
  refine ⟨hc, hs, ?_, ho, ?_, ?_⟩
  · have e := fun i (h : i < 40) => ny_zM (z := z) (l := l) h
    have := y.2
    simp only [stP] at this ⊢
    rw [e 11 (by omega), e 12 (by omega), e 13 (by omega), e 14 (by omega), e 15 (by omega), e 16 (by omega), e 17 (by omega), e 18 (by omega)]
    exact this
  · cases b1 with
    | true => exact ⟨A.2.2.2 (h1.1 rfl), fun i h => by rw [zM_x h, A.1], fun i h => by rw [zM_g h, A.2.1]⟩
    | false => exact fun c => by have := h1.2 (A.2.2.1 c); cases this
  · cases b2 with
    | true => exact ⟨B.2.2.2 (h2.1 rfl), fun i h => by rw [zM_y h, B.1], fun i h => by rw [zM_h h, B.2.1]⟩
    | false => exact fun c => by have := h2.2 (B.2.2.1 c); cases this
theorem inn_of (h : can z) : LtsP (ov (zM z l)) innL := by
  have y := yM_in l hc hs ho
  obtain ⟨a, b, c, d⟩ := (more_all hc hs y.2 y.1 ho h).2
  have ex := fun i (h : i < 8) => zM_x (z := z) (l := l) h
  have ey := fun i (h : i < 8) => zM_y (z := z) (l := l) h
  have t : ∀ i j, i < 8 → j < 8 → aft z i ≤ aft (yM z l) j → valI (ov (zM z l) (90 + i)) ≤ valI (ov (zM z l) (110 + j)) := fun i j hi hj k => by
    show zM z l (90 + i) ≤ zM z l (110 + j); rw [ex i hi, ey j hj]; exact k
  have t' : ∀ i j, i < 8 → j < 8 → aft (yM z l) j ≤ aft z i → valI (ov (zM z l) (110 + j)) ≤ valI (ov (zM z l) (90 + i)) := fun i j hi hj k => by
    show zM z l (110 + j) ≤ zM z l (90 + i); rw [ex i hi, ey j hj]; exact k
  exact ⟨t 0 0 (by omega) (by omega) a.1, t' 1 1 (by omega) (by omega) a.2, t 2 2 (by omega) (by omega) b.1, t' 3 3 (by omega) (by omega) b.2, t 4 4 (by omega) (by omega) c.1, t' 5 5 (by omega) (by omega) c.2, t 6 6 (by omega) (by omega) d.1, t' 7 7 (by omega) (by omega) d.2, trivial⟩
end
end Go.Ev.Gas
end

noncomputable section
set_option maxRecDepth 100000
namespace Go.Ev.Gas
open Go.RowKit Go.Ev.Num
theorem lts_ap {o : Nat → Value} : ∀ {a b : List (SX × SX × Bool)}, LtsP o a → LtsP o b → LtsP o (a ++ b)
  | [], _, _, h => h
  | (x, y, true) :: r, b, h, k => ⟨h.1, lts_ap h.2 k⟩
  | (x, y, false) :: r, b, h, k => ⟨h.1, lts_ap h.2 k⟩
/-- The world in which a list of four lies. -/
def envS (z : Nat → Int) (p : Plc) : Env plain := ⟨fun i => ([p][i]?).map fun p => (p.b, p.o), ov z, 0, fun i => (([p][i]?).map (·.room)).getD 0, fun _ => True, ov_one z, plain_holds _⟩
theorem vr_to {z : Nat → Int} {p : Plc} {a : AV plain} {v : Value} (hp : pureA a = true) (hf : a.free = true) (h : VR (envZ z) a v) : VR (envS z p) a v :=
  VR.free (e := envZ z) (e' := envS z p) rfl a v hf h
theorem more_run {z : Nat → Int} {G : Ctx} {o : AV plain} (c : Con P (Fence.there P) G.holds (kMore o)) (hG : G.holds (ov z)) (hc : cavP z) (hs : stP z) (hop : pureA o = true) (hof : o.free = true) (hv : VR (envZ z) o (opV z)) (b off cap : Nat) (w : World)
    (hb : b < w.heap.size) (hcap : 4 ≤ cap) (hcells : ∀ j, j < 4 → w.cell? ⟨b, off + j, none⟩ = some (vi (z (40 + j)))) (hl : ∀ j, j < 4 → -9223372036854775808 ≤ z (40 + j) ∧ z (40 + j) ≤ 9223372036854775807) :
    Calls P 14 #[cavV z, stV z, opV z, .slice (some ⟨b, off, none⟩) 4 cap] w fun e w' => e = .returned (.bool true) ∧ Below w.heap.size w w' := by
  let p : Plc := ⟨b, off, cap⟩
  have hr : ∀ j, j < 4 → VR (envS z p) (rv (40 + j)) (vi (z (40 + j))) := fun j hj => vr_to rfl rfl (vr_iv z (hl j hj).1 (hl j hj).2)
  have := c (ov z) (ov_one z) hG (envS z p) [p] #[cavV z, stV z, opV z, .slice (some ⟨b, off, none⟩) 4 cap] w 0 rfl ⟨rfl, fun i => rfl, fun i => rfl, fun cc q hcc hq => ?_⟩ ?_
  · refine (this.calls (room_there P)).mono fun e w' ⟨h1, h2⟩ => ⟨?_, h2⟩
    obtain ⟨v', rfl, e2, _, h3⟩ := h1
    simp only [VR] at h3
    rw [h3]
  · have e1 : [rv 40, rv 41, rv 42, rv 43] = cc := Option.some.inj hcc
    have e2 : p = q := (List.cons.inj hq).1
    subst e1; subst e2
    refine ⟨hb, fun j a ha => ?_⟩
    match j, ha with
    | 0, ha => cases ha; exact ⟨_, hcells 0 (by omega), hr 0 (by omega)⟩
    | 1, ha => cases ha; exact ⟨_, hcells 1 (by omega), hr 1 (by omega)⟩
    | 2, ha => cases ha; exact ⟨_, hcells 2 (by omega), hr 2 (by omega)⟩
    | 3, ha => cases ha; exact ⟨_, hcells 3 (by omega), hr 3 (by omega)⟩
    | j + 4, ha => simp at ha
  · refine vrs_cons (vr_to rfl rfl (vr_cav hc)) (vrs_cons (vr_to rfl rfl (vr_st hs)) (vrs_cons (vr_to hop hof hv) (vrs_cons ?_ vrs_nil)))
    simp only [VR]
    exact ⟨b, off, cap, rfl, rfl, hcap, fun h => (by cases h), fun _ _ => (by show cap * 1 ≤ cap; omega)⟩
theorem more_in {z : Nat → Int} (l : Nat → Int) (hc : cavP z) (hs : stP z) (ho : opP z) (b off cap : Nat) (w : World) (hb : b < w.heap.size) (hcap : 4 ≤ cap) (hcells : ∀ j, j < 4 → w.cell? ⟨b, off + j, none⟩ = some (vi (l j))) (hl : ∀ j, j < 4 → -9223372036854775808 ≤ l j ∧ l j ≤ 9223372036854775807) :
    Calls P 14 #[cavV z, stV z, opV z, .slice (some ⟨b, off, none⟩) 4 cap] w fun e w' => e = .returned (.bool true) ∧ Below w.heap.size w w' := by
  have ex : ∀ j, j < 4 → zM z l (40 + j) = l j := fun j hj => by unfold zM; rw [if_neg (by omega), if_pos (by omega)]; congr 1; omega
  have hcells' : ∀ j, j < 4 → w.cell? ⟨b, off + j, none⟩ = some (vi (zM z l (40 + j))) := fun j hj => by rw [ex j hj]; exact hcells j hj
  have hl' : ∀ j, j < 4 → -9223372036854775808 ≤ zM z l (40 + j) ∧ zM z l (40 + j) ≤ 9223372036854775807 := fun j hj => by rw [ex j hj]; exact hl j hj
  have nm := names_M l hc hs ho
  have cs : LtsP (ov (zM z l)) (cavL ++ stL) := lts_cs (z := zM z l) hc hs
  have y := yM_in l hc hs ho
  have run : ∀ {G : Ctx} {o : AV plain}, Con P (Fence.there P) G.holds (kMore o) → pureA o = true → o.free = true → VR (envZ (zM z l)) o (opV (zM z l)) → G.holds (ov (zM z l)) → Calls P 14 #[cavV z, stV z, opV z, .slice (some ⟨b, off, none⟩) 4 cap] w fun e w' => e = .returned (.bool true) ∧ Below w.heap.size w w' :=
    fun c h1 h2 h3 hG => more_run (z := zM z l) c hG hc hs h1 h2 h3 b off cap w hb hcap hcells' hl'
  have val : ∀ {o : AV plain}, pureA o = true → VR (envZ (zM z l)) o (opV (zM z l)) → valOf (ov (zM z l)) o = opV (zo (ov (zM z l))) := fun h1 h2 => (val_of _ _ h1 h2).symm
  have hm := hm_of l hc hs ho
  by_cases c1 : can z
  · have c2 := (more_all hc hs y.2 y.1 ho c1).1
    have hm := hm true true ⟨fun _ => c1, fun _ => rfl⟩ ⟨fun _ => c2, fun _ => rfl⟩
    have inn := inn_of l hc hs ho c1
    rcases ho with k | k | k
    · have hv : VR (envZ (zM z l)) inA (opV (zM z l)) := vr_inj (z := zM z l) (m := 1000000) k (by simp only [op1] at k; show z 19 ≤ _; omega) (by simp only [op1] at k; show z 20 ≤ _; omega)
      exact run cM_IA rfl rfl hv (holds_of (G := gM_IA) nm (lts_ap cs inn) trivial ⟨hm, val rfl hv⟩)
    · have hv : VR (envZ (zM z l)) wiA (opV (zM z l)) := vr_wit (z := zM z l) (m := 2000000) k (by simp only [op2] at k; show z 23 ≤ _; omega)
      exact run cM_WA rfl rfl hv (holds_of (G := gM_WA) nm (lts_ap cs inn) trivial ⟨hm, val rfl hv⟩)
    · have hv : VR (envZ (zM z l)) reA (opV (zM z l)) := vr_rst (z := zM z l) k
      have tr : LtsP (ov (zM z l)) trL := by simp only [op3] at k; exact ⟨k.2.2.2.2.2.2.1.2.1, k.2.2.2.2.2.2.2.2.1, trivial⟩
      exact run cM_RA rfl rfl hv (holds_of (G := gM_RA) nm (lts_ap cs (lts_ap tr inn)) trivial ⟨hm, val rfl hv⟩)
  · by_cases c2 : can (yM z l)
    · have hm := hm false true ⟨fun h => (by cases h), fun h => absurd h c1⟩ ⟨fun _ => c2, fun _ => rfl⟩
      rcases ho with k | k | k
      · have hv : VR (envZ (zM z l)) inA (opV (zM z l)) := vr_inj (z := zM z l) (m := 1000000) k (by simp only [op1] at k; show z 19 ≤ _; omega) (by simp only [op1] at k; show z 20 ≤ _; omega)
        exact run cM_IB rfl rfl hv (holds_of (G := gM_IB) nm (lts_ap cs trivial) trivial ⟨hm, val rfl hv⟩)
      · have hv : VR (envZ (zM z l)) wiA (opV (zM z l)) := vr_wit (z := zM z l) (m := 2000000) k (by simp only [op2] at k; show z 23 ≤ _; omega)
        exact run cM_WB rfl rfl hv (holds_of (G := gM_WB) nm (lts_ap cs trivial) trivial ⟨hm, val rfl hv⟩)
      · have hv : VR (envZ (zM z l)) reA (opV (zM z l)) := vr_rst (z := zM z l) k
        have tr : LtsP (ov (zM z l)) trL := by simp only [op3] at k; exact ⟨k.2.2.2.2.2.2.1.2.1, k.2.2.2.2.2.2.2.2.1, trivial⟩
        exact run cM_RB rfl rfl hv (holds_of (G := gM_RB) nm (lts_ap cs tr) trivial ⟨hm, val rfl hv⟩)
    · have hm := hm false false ⟨fun h => (by cases h), fun h => absurd h c1⟩ ⟨fun h => (by cases h), fun h => absurd h c2⟩
      rcases ho with k | k | k
      · have hv : VR (envZ (zM z l)) inA (opV (zM z l)) := vr_inj (z := zM z l) (m := 1000000) k (by simp only [op1] at k; show z 19 ≤ _; omega) (by simp only [op1] at k; show z 20 ≤ _; omega)
        exact run cM_IC rfl rfl hv (holds_of (G := gM_IC) nm (lts_ap cs trivial) trivial ⟨hm, val rfl hv⟩)
      · have hv : VR (envZ (zM z l)) wiA (opV (zM z l)) := vr_wit (z := zM z l) (m := 2000000) k (by simp only [op2] at k; show z 23 ≤ _; omega)
        exact run cM_WC rfl rfl hv (holds_of (G := gM_WC) nm (lts_ap cs trivial) trivial ⟨hm, val rfl hv⟩)
      · have hv : VR (envZ (zM z l)) reA (opV (zM z l)) := vr_rst (z := zM z l) k
        have tr : LtsP (ov (zM z l)) trL := by simp only [op3] at k; exact ⟨k.2.2.2.2.2.2.1.2.1, k.2.2.2.2.2.2.2.2.1, trivial⟩
        exact run cM_RC rfl rfl hv (holds_of (G := gM_RC) nm (lts_ap cs tr) trivial ⟨hm, val rfl hv⟩)
/-- What is less, at a call: a list that reads. -/
def ListI (w : World) (v : Value) (n : Nat) (l : Nat → Int) : Prop :=
  ∃ (a : Option Addr) (cap : Nat), v = .slice a n cap ∧ (n = 4 → ∃ b off, a = some ⟨b, off, none⟩ ∧ b < w.heap.size ∧ 4 ≤ cap ∧ (∀ j, j < 4 → w.cell? ⟨b, off + j, none⟩ = some (vi (l j))) ∧ ∀ j, j < 4 → -9223372036854775808 ≤ l j ∧ l j ≤ 9223372036854775807)
theorem more {z : Nat → Int} (hz : ints z) {v : Value} {n : Nat} {l : Nat → Int} {w : World} (h : ListI w v n l) : Calls P 14 #[cavV z, stV z, opV z, v] w fun e w' => e = .returned (.bool true) ∧ Below w.heap.size w w' := by
  by_cases hc : cavP z
  · by_cases hs : stP z
    · by_cases ho : opP z
      · obtain ⟨a, cap, rfl, h4⟩ := h
        by_cases hn : n = 4
        · subst hn
          obtain ⟨b, off, rfl, h1, h2, h3, h5⟩ := h4 rfl
          exact more_in l hc hs ho b off cap w h1 h2 h3 h5
        · exact out4 a n cap (by omega) ((says19 hz).1 hc) ((says20 hz).1 hs) ((says30 hz).1 ho) w
      · exact out3 v ((says19 hz).1 hc) ((says20 hz).1 hs) ((says30 hz).2 ho) w
    · exact out2 v ((says19 hz).1 hc) ((says20 hz).2 hs) w
  · exact out1 v ((says19 hz).2 hc) w
end Go.Ev.Gas
end

