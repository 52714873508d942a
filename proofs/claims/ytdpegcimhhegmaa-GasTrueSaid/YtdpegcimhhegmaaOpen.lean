import Derived.Test.YtdpegcimhhegmaaInts
import Derived.Test.YtdpegcimhhegmaaRows
import Derived.ProofKit
import Derived.OpenShut
import Derived.Lib.SmallJoins
import Derived.Carry
import Derived.ChangeSame
set_option linter.unusedVariables false
set_option linter.unusedSimpArgs false
set_option linter.unusedSectionVars false
noncomputable section
set_option maxRecDepth 100000
namespace Go.Ev.Gas
open Go.RowKit
theorem vrs_nil {e : Env plain} : VRs e [] [] := by simp only [VRs]
theorem vrs_cons {e : Env plain} {a : AV plain} {r : List (AV plain)} {v : Value} {vs : List Value} (h : VR e a v) (t : VRs e r vs) : VRs e (a :: r) (v :: vs) := by
  simp only [VRs]; exact ⟨v, vs, rfl, h, t⟩
theorem vr_agg {e : Env plain} {r : List (AV plain)} {vs : List Value} (h : VRs e r vs) : VR e (.agg r) (.agg vs.toArray) := by
  simp only [VR]; exact ⟨vs.toArray, rfl, h⟩
/-- An int. -/
abbrev vi (n : Int) : Value := .int .i64 n
theorem vr_iv (z : Nat → Int) {i : Nat} {lo hi : Int} (h1 : lo ≤ z i) (h2 : z i ≤ hi) : VR (envZ z) (iv i lo hi) (vi (z i)) := by
  simp only [iv, VR]; exact ⟨rfl, h1, h2⟩
theorem vr_n (z : Nat → Int) {n m : Int} (h : m = n) : VR (envZ z) (one n) (vi m) := by
  simp only [one, VR]; rw [h]
theorem vr_Z (z : Nat → Int) {m : Int} (h : m = 0) : VR (envZ z) Z (vi m) := vr_n z h
/-- The numbers are ints. -/
def ints (z : Nat → Int) : Prop := ∀ i, -9223372036854775808 ≤ z i ∧ z i ≤ 9223372036854775807
theorem vr_rv {z : Nat → Int} (hz : ints z) (i : Nat) : VR (envZ z) (rv i) (vi (z i)) := vr_iv z (hz i).1 (hz i).2
def cavV (z : Nat → Int) : Value := .agg [vi (z 0), vi (z 1), vi (z 2), vi (z 3), vi (z 4), vi (z 5), vi (z 6), vi (z 7), vi (z 8), vi (z 9), vi (z 10)].toArray
def stV (z : Nat → Int) : Value := .agg [vi (z 11), vi (z 12), vi (z 13), vi (z 14), vi (z 15), vi (z 16), vi (z 17), vi (z 18)].toArray
def opV (z : Nat → Int) : Value := .agg [vi (z 28), vi (z 19), vi (z 20), vi (z 21), vi (z 22), vi (z 23), vi (z 24), vi (z 25), vi (z 26), vi (z 27)].toArray
theorem raw_c {z : Nat → Int} (hz : ints z) : VR (envZ z) rawC (cavV z) :=
  vr_agg (vrs_cons (vr_rv hz 0) (vrs_cons (vr_rv hz 1) (vrs_cons (vr_rv hz 2) (vrs_cons (vr_rv hz 3) (vrs_cons (vr_rv hz 4) (vrs_cons (vr_rv hz 5) (vrs_cons (vr_rv hz 6) (vrs_cons (vr_rv hz 7) (vrs_cons (vr_rv hz 8) (vrs_cons (vr_rv hz 9) (vrs_cons (vr_rv hz 10) vrs_nil)))))))))))
theorem raw_s {z : Nat → Int} (hz : ints z) : VR (envZ z) rawS (stV z) :=
  vr_agg (vrs_cons (vr_rv hz 11) (vrs_cons (vr_rv hz 12) (vrs_cons (vr_rv hz 13) (vrs_cons (vr_rv hz 14) (vrs_cons (vr_rv hz 15) (vrs_cons (vr_rv hz 16) (vrs_cons (vr_rv hz 17) (vrs_cons (vr_rv hz 18) vrs_nil))))))))
theorem raw_o {z : Nat → Int} (hz : ints z) : VR (envZ z) rawO (opV z) :=
  vr_agg (vrs_cons (vr_rv hz 28) (vrs_cons (vr_rv hz 19) (vrs_cons (vr_rv hz 20) (vrs_cons (vr_rv hz 21) (vrs_cons (vr_rv hz 22) (vrs_cons (vr_rv hz 23) (vrs_cons (vr_rv hz 24) (vrs_cons (vr_rv hz 25) (vrs_cons (vr_rv hz 26) (vrs_cons (vr_rv hz 27) vrs_nil))))))))))
theorem vr_cav {z : Nat → Int} (hc : cavP z) : VR (envZ z) cavA (cavV z) := by
  simp only [cavP] at hc
  exact vr_agg (vrs_cons (vr_iv z (by omega) (by omega)) (vrs_cons (vr_iv z (by omega) (by omega)) (vrs_cons (vr_iv z (by omega) (by omega)) (vrs_cons (vr_iv z (by omega) (by omega)) (vrs_cons (vr_iv z (by omega) (by omega)) (vrs_cons (vr_iv z (by omega) (by omega)) (vrs_cons (vr_iv z (by omega) (by omega)) (vrs_cons (vr_iv z (by omega) (by omega)) (vrs_cons (vr_iv z (by omega) (by omega)) (vrs_cons (vr_iv z (by omega) (by omega)) (vrs_cons (vr_iv z (by omega) (by omega)) vrs_nil)))))))))))
theorem vr_stB {z : Nat → Int} {g g' h h' : Int} (hs : stP z) (h1 : z 11 ≤ g) (h2 : z 12 ≤ g') (h3 : z 13 ≤ h) (h4 : z 14 ≤ h') : VR (envZ z) (.agg [iv 11 0 g, iv 12 0 g', iv 13 0 h, iv 14 0 h', iv 15 2000 5000, iv 16 2000 5000, iv 17 0 1000000000, iv 18 0 1000000000]) (stV z) := by
  simp only [stP] at hs
  exact vr_agg (vrs_cons (vr_iv z (by omega) (by omega)) (vrs_cons (vr_iv z (by omega) (by omega)) (vrs_cons (vr_iv z (by omega) (by omega)) (vrs_cons (vr_iv z (by omega) (by omega)) (vrs_cons (vr_iv z (by omega) (by omega)) (vrs_cons (vr_iv z (by omega) (by omega)) (vrs_cons (vr_iv z (by omega) (by omega)) (vrs_cons (vr_iv z (by omega) (by omega)) vrs_nil))))))))
theorem vr_st {z : Nat → Int} (hs : stP z) : VR (envZ z) stA (stV z) := by
  have h := hs
  simp only [stP] at h
  exact vr_stB hs (by omega) (by omega) (by omega) (by omega)
/-- A state with least and most at the bounds that are told. -/
theorem vr_stZ {z : Nat → Int} {lh lg : Int × Int} (hs : stP z) (h1 : z 11 = 0) (h3 : z 13 = 0) (h2 : lg.1 ≤ z 12) (h2' : z 12 ≤ lg.2) (h4 : lh.1 ≤ z 14) (h4' : z 14 ≤ lh.2) : VR (envZ z) (.agg [iv 11 0 0, iv 12 lg.1 lg.2, iv 13 0 0, iv 14 lh.1 lh.2, iv 15 2000 5000, iv 16 2000 5000, iv 17 0 1000000000, iv 18 0 1000000000]) (stV z) := by
  simp only [stP] at hs
  exact vr_agg (vrs_cons (vr_iv z (by omega) (by omega)) (vrs_cons (vr_iv z h2 h2') (vrs_cons (vr_iv z (by omega) (by omega)) (vrs_cons (vr_iv z h4 h4') (vrs_cons (vr_iv z (by omega) (by omega)) (vrs_cons (vr_iv z (by omega) (by omega)) (vrs_cons (vr_iv z (by omega) (by omega)) (vrs_cons (vr_iv z (by omega) (by omega)) vrs_nil))))))))
theorem vr_inj {z : Nat → Int} {m : Int} (ho : op1 z) (h1 : z 19 ≤ m) (h2 : z 20 ≤ m) : VR (envZ z) (.agg [one 1, iv 19 0 m, iv 20 0 m, iv 21 2000 5000, iv 22 0 1000000000, Z, Z, Z, Z, Z]) (opV z) := by
  simp only [op1] at ho
  exact vr_agg (vrs_cons (vr_n z (by omega)) (vrs_cons (vr_iv z (by omega) h1) (vrs_cons (vr_iv z (by omega) h2) (vrs_cons (vr_iv z (by omega) (by omega)) (vrs_cons (vr_iv z (by omega) (by omega)) (vrs_cons (vr_Z z (by omega)) (vrs_cons (vr_Z z (by omega)) (vrs_cons (vr_Z z (by omega)) (vrs_cons (vr_Z z (by omega)) (vrs_cons (vr_Z z (by omega)) vrs_nil))))))))))
theorem vr_wit {z : Nat → Int} {m : Int} (ho : op2 z) (h1 : z 23 ≤ m) : VR (envZ z) (.agg [one 2, Z, Z, Z, Z, iv 23 0 m, Z, Z, Z, Z]) (opV z) := by
  simp only [op2] at ho
  exact vr_agg (vrs_cons (vr_n z (by omega)) (vrs_cons (vr_Z z (by omega)) (vrs_cons (vr_Z z (by omega)) (vrs_cons (vr_Z z (by omega)) (vrs_cons (vr_Z z (by omega)) (vrs_cons (vr_iv z (by omega) h1) (vrs_cons (vr_Z z (by omega)) (vrs_cons (vr_Z z (by omega)) (vrs_cons (vr_Z z (by omega)) (vrs_cons (vr_Z z (by omega)) vrs_nil))))))))))
theorem vr_rst {z : Nat → Int} (ho : op3 z) : VR (envZ z) (.agg [one 3, Z, Z, Z, Z, Z, iv 24 0 1000, iv 25 0 1000, iv 26 0 1000000, iv 27 0 1000000]) (opV z) := by
  simp only [op3] at ho
  exact vr_agg (vrs_cons (vr_n z (by omega)) (vrs_cons (vr_Z z (by omega)) (vrs_cons (vr_Z z (by omega)) (vrs_cons (vr_Z z (by omega)) (vrs_cons (vr_Z z (by omega)) (vrs_cons (vr_Z z (by omega)) (vrs_cons (vr_iv z (by omega) (by omega)) (vrs_cons (vr_iv z (by omega) (by omega)) (vrs_cons (vr_iv z (by omega) (by omega)) (vrs_cons (vr_iv z (by omega) (by omega)) vrs_nil))))))))))
theorem three {z : Nat → Int} {a b c : AV plain} {u v w : Value} (h1 : VR (envZ z) a u) (h2 : VR (envZ z) b v) (h3 : VR (envZ z) c w) : VRs (envZ z) [a, b, c] (#[u, v, w] : Array Value).toList :=
  vrs_cons h1 (vrs_cons h2 (vrs_cons h3 vrs_nil))

/-- The law says yes. -/
def Yes (f : Nat) (vs : Array Value) : Prop := ∀ w, Calls P f vs w fun e w' => e = .returned (.bool true) ∧ Below w.heap.size w w'
theorem yes_of {f : Nat} {G : Ctx} {a : List (AV plain)} (c : Con P (Fence.there P) G.holds (kYes f a)) (z : Nat → Int) (h : G.holds (ov z)) (vs : Array Value) (hv : VRs (envZ z) a vs.toList) : Yes f vs :=
  fun w => c.at (room_there P) rfl z h rfl vs hv w

theorem no_holds {l : List (SX × SX × Bool)} {p : (Nat → Value) → Prop} {o : Nat → Value} (h1 : LtsP o l) (h2 : p o) : (gValid l p).holds o :=
  holds_of (G := gValid l p) trivial h1 trivial h2
theorem lts_cav {z : Nat → Int} (hc : cavP z) : LtsP (ov z) cavL := by
  simp only [cavP] at hc
  simp only [cavL, LtsP, SX.eval, valI, ov, and_true]
  omega
theorem lts_cs {z : Nat → Int} (hc : cavP z) (hs : stP z) : LtsP (ov z) (cavL ++ stL) := by
  simp only [cavP, stP] at hc hs
  simp only [cavL, stL, List.cons_append, List.nil_append, LtsP, SX.eval, valI, ov, and_true]
  omega

theorem inject_yes {z : Nat → Int} (hc : cavP z) (hs : stP z) (ho : op1 z) : Yes 5 #[cavV z, stV z, opV z] := by
  have hb := sm_in hc hs ho
  by_cases hC : 0 < cm z
  · have hv : VRs (envZ (zI z)) a_IA (#[cavV z, stV z, opV z] : Array Value).toList :=
      three (vr_cav (z := zI z) hc) (vr_st (z := zI z) hs) (vr_inj (z := zI z) (m := 1000000) ho (by simp only [op1] at ho; simp only [zI]; omega) (by simp only [op1] at ho; simp only [zI]; omega))
    by_cases hg : 1000000 < z 12 + z 19
    · exact yes_of c_IG (zI z) (holds_IG hc hs ho hC hg) _ hv
    by_cases hh : 1000000 < z 14 + z 20
    · exact yes_of c_IH (zI z) (holds_IH hc hs ho hC (by omega) hh) _ hv
    by_cases hw : 1000000000 < z 18 + z 22
    · exact yes_of c_IW (zI z) (holds_IW hc hs ho hC (by omega) (by omega) hw) _ hv
    · exact yes_of c_IA (zI z) (holds_IA hc hs ho hC (by omega) (by omega) (by omega)) _ hv
  · have h0 : z 19 = 0 ∧ z 20 = 0 := by
      have hc' := hc; have ho' := ho
      simp only [cavP, op1] at hc' ho'
      have a1 : z 19 ≤ z 19 * z 6 := by have := Int.mul_le_mul_of_nonneg_left (show 1 ≤ z 6 by omega) (show 0 ≤ z 19 by omega); omega
      have a2 : z 20 ≤ z 20 * z 7 := by have := Int.mul_le_mul_of_nonneg_left (show 1 ≤ z 7 by omega) (show 0 ≤ z 20 by omega); omega
      simp only [cm] at hC
      omega
    have hv : VRs (envZ (zZ z)) a_IZ0 (#[cavV z, stV z, opV z] : Array Value).toList :=
      three (vr_cav (z := zZ z) hc) (vr_st (z := zZ z) hs) (vr_inj (z := zZ z) (m := 0) ho (by simp only [zZ]; omega) (by simp only [zZ]; omega))
    obtain ⟨b0, b1, b2, b3, _, m1, m2, m3, m4⟩ := hb
    have step {p q : Prop} : p ∨ q → (p → Yes 5 #[cavV z, stV z, opV z]) → (q → Yes 5 #[cavV z, stV z, opV z]) → Yes 5 #[cavV z, stV z, opV z] := fun h a b => h.elim a b
    by_cases hw : z 18 + z 22 ≤ 1000000000
    · by_cases k0 : sm z 11 13 = 0
      · by_cases k1 : sm z 11 14 = 0
        · by_cases k2 : sm z 12 13 = 0
          · have k3 : sm z 12 14 = 0 := by simp only [sm] at *; omega
            exact yes_of c_IZ4 (zZ z) (holds_IZ4 hc hs ho k0 k1 k2 k3 hw) _ hv
          · exact yes_of c_IZ2 (zZ z) (holds_IZ2 hc hs ho k0 k1 (by omega) (by omega) hw) _ hv
        · by_cases k2 : sm z 12 13 = 0
          · exact yes_of c_IZ3 (zZ z) (holds_IZ3 hc hs ho k0 (by omega) k2 (by omega) hw) _ hv
          · exact yes_of c_IZ1 (zZ z) (holds_IZ1 hc hs ho k0 (by omega) (by omega) (by omega) hw) _ hv
      · exact yes_of c_IZ0 (zZ z) (holds_IZ0 hc hs ho (by omega) (by omega) (by omega) (by omega) hw) _ hv
    · have hw : 1000000000 < z 18 + z 22 := by omega
      by_cases k0 : sm z 11 13 = 0
      · by_cases k1 : sm z 11 14 = 0
        · by_cases k2 : sm z 12 13 = 0
          · have k3 : sm z 12 14 = 0 := by simp only [sm] at *; omega
            exact yes_of c_IY4 (zZ z) (holds_IY4 hc hs ho k0 k1 k2 k3 hw) _ hv
          · exact yes_of c_IY2 (zZ z) (holds_IY2 hc hs ho k0 k1 (by omega) (by omega) hw) _ hv
        · by_cases k2 : sm z 12 13 = 0
          · exact yes_of c_IY3 (zZ z) (holds_IY3 hc hs ho k0 (by omega) k2 (by omega) hw) _ hv
          · exact yes_of c_IY1 (zZ z) (holds_IY1 hc hs ho k0 (by omega) (by omega) (by omega) hw) _ hv
      · exact yes_of c_IY0 (zZ z) (holds_IY0 hc hs ho (by omega) (by omega) (by omega) (by omega) hw) _ hv
theorem withdraw_yes {z : Nat → Int} (hc : cavP z) (hs : stP z) (ho : op2 z) : Yes 5 #[cavV z, stV z, opV z] := by
  have ho' := ho; have hs' := hs
  simp only [op2, stP] at ho' hs'
  by_cases h0 : z 11 + z 13 < z 23
  · exact yes_of c_W0 z (holds_W0 hc hs ho h0) _ (three (vr_cav hc) (vr_st hs) (vr_wit ho (by omega)))
  by_cases h1 : 1 ≤ z 11 + z 13
  · exact yes_of c_W1 (zW z) (holds_W1 hc hs ho h1 (by omega)) _ (three (vr_cav (z := zW z) hc) (vr_st (z := zW z) hs) (vr_wit (z := zW z) ho (by simp only [zW]; omega)))
  · have hw := vr_wit (z := z) (m := 0) ho (by omega)
    by_cases h2 : z 14 = 0
    · by_cases h3 : z 12 = 0
      · exact yes_of c_WZ3 z (holds_WZ3 hc hs) _ (three (vr_cav hc) (vr_stZ (lh := (0, 0)) (lg := (0, 0)) hs (by omega) (by omega) (by simp only; omega) (by simp only; omega) (by simp only; omega) (by simp only; omega)) hw)
      · exact yes_of c_WZ1 z (holds_WZ1 hc hs) _ (three (vr_cav hc) (vr_stZ (lh := (0, 0)) (lg := (1, 1000000)) hs (by omega) (by omega) (by simp only; omega) (by simp only; omega) (by simp only; omega) (by simp only; omega)) hw)
    · by_cases h3 : z 12 = 0
      · exact yes_of c_WZ2 z (holds_WZ2 hc hs) _ (three (vr_cav hc) (vr_stZ (lh := (1, 1000000)) (lg := (0, 0)) hs (by omega) (by omega) (by simp only; omega) (by simp only; omega) (by simp only; omega) (by simp only; omega)) hw)
      · exact yes_of c_WZ0 z (holds_WZ0 hc hs) _ (three (vr_cav hc) (vr_stZ (lh := (1, 1000000)) (lg := (1, 1000000)) hs (by omega) (by omega) (by simp only; omega) (by simp only; omega) (by simp only; omega) (by simp only; omega)) hw)
theorem rest_yes {z : Nat → Int} (hc : cavP z) (hs : stP z) (ho : op3 z) : Yes 5 #[cavV z, stV z, opV z] := by
  have hv : VRs (envZ (zR z)) a_RA (#[cavV z, stV z, opV z] : Array Value).toList :=
    three (vr_cav (z := zR z) hc) (vr_st (z := zR z) hs) (vr_rst (z := zR z) ho)
  by_cases hw : 1000000000 < z 18 + z 27
  · exact yes_of c_RW (zR z) (holds_RW hc hs ho hw) _ hv
  · exact yes_of c_RA (zR z) (holds_RA hc hs ho (by omega)) _ hv
/-- An operation does to a state what the document says. -/
theorem does {z : Nat → Int} (hz : ints z) : Yes 5 #[cavV z, stV z, opV z] := by
  by_cases hc : cavP z
  · by_cases hs : stP z
    · by_cases ho : opP z
      · rcases ho with h | h | h
        · exact inject_yes hc hs h
        · exact withdraw_yes hc hs h
        · exact rest_yes hc hs h
      · exact yes_of c_N3 z (no_holds (lts_cs hc hs) ho) _ (three (vr_cav hc) (vr_st hs) (raw_o hz))
    · exact yes_of c_N2 z (no_holds (lts_cav hc) hs) _ (three (vr_cav hc) (raw_s hz) (raw_o hz))
  · exact yes_of c_N1 z (holds_of (G := gNo cavP) trivial trivial trivial hc) _ (three (raw_c hz) (raw_s hz) (raw_o hz))
end Go.Ev.Gas
end

section
set_option maxRecDepth 100000
namespace Go.Proofs.Ytdpegcimhhegmaa
open Go.ChangeShapes Go.WideShapes Go.ChangeAt Go.RowKit Go.Joins Go.Ev.Gas

theorem own : ownKnob Try.prog.godebug = none := by kernel_rfl
theorem laidOut : laidOutB Try.prog = true := by kernel_rfl

/-- The cells of such a value are ints. -/
def Flat (t : TypeId) : Prop :=
  ∀ (H : Type) (enc : TypeId × Value → H) (w : World) (base : Nat) (spare : Nat → Bool) (held : Bool) (n : Nat) (cs : List Value) (x : DataW H × List MemPlace),
    DataW.trod enc Try.prog w base spare held n t cs = some x → cs.length = Try.prog.cellsOf t ∧ ∀ i, i < Try.prog.cellsOf t → ∃ z : Int, cs[i]? = some (vi z) ∧ -9223372036854775808 ≤ z ∧ z ≤ 9223372036854775807
theorem flat_int {t : TypeId} (ht : Try.prog.underlying t = some (.int .i64)) (hc : Try.prog.cellsOf t = 1) : Flat t := by
  intro H enc w base spare held n cs x h
  obtain ⟨z, rfl, _, hw⟩ := DataW.trod_int ht h
  refine ⟨hc.symm, fun i hi => ?_⟩
  rw [hc] at hi
  obtain rfl : i = 0 := by omega
  simp only [Lit.wf, Bool.and_eq_true, decide_eq_true_eq] at hw
  exact ⟨z, rfl, hw⟩
theorem part_of {cs : List Value} {off c i : Nat} (h1 : off ≤ i) (h2 : i < off + c) : ((cs.drop off).take c)[i - off]? = cs[i]? := by
  rw [List.getElem?_take, if_pos (by omega), List.getElem?_drop]
  congr 1
  omega
theorem flat_struct {t : TypeId} {fs : Array Field} (ht : Try.prog.underlying t = some (.struct fs)) (ts : List TypeId) (hts : ∀ t ∈ ts, Flat t)
    (hcov : (List.range (Try.prog.cellsOf t)).all (fun i => fs.toList.any fun f => decide (f.offset ≤ i) && decide (i < f.offset + Try.prog.cellsOf f.type) && ts.contains f.type) = true) : Flat t := by
  intro H enc w base spare held n cs x h
  obtain ⟨xs, n', _, _, hl, hlen, hf⟩ := DataW.trod_struct ht h
  refine ⟨hl, fun i hi => ?_⟩
  have := List.all_eq_true.1 hcov i (List.mem_range.2 hi)
  obtain ⟨f, hfm, hp⟩ := List.any_eq_true.1 this
  simp only [Bool.and_eq_true, decide_eq_true_eq] at hp
  obtain ⟨⟨h1, h2⟩, h3⟩ := hp
  obtain ⟨j, hj, e⟩ := List.mem_iff_getElem.1 hfm
  have hj' : fs[j]? = some f := by simp at hj; simp [Array.getElem?_eq_getElem hj]; simpa using e
  have hx := hf j f hj'
  have hjx : j < xs.length := by rw [hlen]; simpa using hj
  rw [List.getElem?_eq_getElem hjx] at hx
  obtain ⟨z, h4, h5⟩ := (hts f.type (by simpa using h3) H enc w base spare held n' _ _ hx).2 (i - f.offset) (by omega)
  rw [part_of h1 h2] at h4
  exact ⟨z, h4, h5⟩
theorem trod_array {t e : TypeId} {k : Nat} {H : Type} {enc : TypeId × Value → H} {w : World} {base : Nat} {spare : Nat → Bool} {held : Bool} {n : Nat} {cs : List Value} {x : DataW H × List MemPlace} (ht : Try.prog.underlying t = some (.array k e)) (h : DataW.trod enc Try.prog w base spare held n t cs = some x) :
    ∃ (xs : List (DataW H × List MemPlace)) (m : Nat), cs.length = Try.prog.cellsOf t ∧ (List.range k).mapM (fun i => DataW.trod enc Try.prog w base spare held m e ((cs.drop (i * Try.prog.cellsOf e)).take (Try.prog.cellsOf e))) = some xs := by
  cases n with
  | zero => simp [DataW.trod] at h
  | succ n =>
    unfold DataW.trod at h
    rw [ht] at h
    split at h <;> simp_all
    obtain ⟨hl, xs, hx, _⟩ := h
    exact ⟨xs, n, hx⟩
theorem flat_array {t e : TypeId} {k : Nat} (ht : Try.prog.underlying t = some (.array k e)) (he : Flat e) (hp : 0 < Try.prog.cellsOf e) (hc : Try.prog.cellsOf t = k * Try.prog.cellsOf e) : Flat t := by
  intro H enc w base spare held n cs x h
  obtain ⟨xs, m, hl, hx⟩ := trod_array ht h
  refine ⟨hl, fun i hi => ?_⟩
  rw [hc] at hi
  have hj : i / Try.prog.cellsOf e < k := (Nat.div_lt_iff_lt_mul hp).2 hi
  have hy := Go.mapM_some_get hx (i / Try.prog.cellsOf e) (i / Try.prog.cellsOf e) (by simp [hj])
  have hjx : i / Try.prog.cellsOf e < xs.length := by rw [Go.mapM_some_length hx]; simpa using hj
  rw [List.getElem?_eq_getElem hjx] at hy
  have hm := Nat.div_add_mod i (Try.prog.cellsOf e)
  have hr := Nat.mod_lt i hp
  rw [Nat.mul_comm] at hm
  have h2 := (he H enc w base spare held m _ _ hy).2 (i - i / Try.prog.cellsOf e * Try.prog.cellsOf e) (by omega)
  rw [part_of (by omega) (by omega)] at h2
  exact h2

theorem all_of {t : TypeId} (h : Flat t) (ts : List TypeId) (k : ∀ t ∈ ts, Flat t) : ∀ u ∈ t :: ts, Flat u := List.forall_mem_cons.2 ⟨h, k⟩
theorem flat3 : Flat 3 := flat_int Try.underlying3 (by kernel_rfl)
theorem flat53 : Flat 53 := flat_int Try.underlying53 (by kernel_rfl)
theorem flat23 : Flat 23 := flat_struct Try.underlying23 [3] (all_of flat3 [] (List.forall_mem_nil _)) (by kernel_rfl)
theorem flat24 : Flat 24 := flat_array Try.underlying24 flat3 (of_decide_eq_true (by kernel_rfl)) (by kernel_rfl)
theorem flat26 : Flat 26 := flat_struct Try.underlying26 [3, 23, 24] (all_of flat3 _ (all_of flat23 _ (all_of flat24 _ (List.forall_mem_nil _)))) (by kernel_rfl)
theorem flat28 : Flat 28 := flat_struct Try.underlying28 [23] (all_of flat23 _ (List.forall_mem_nil _)) (by kernel_rfl)
theorem flat43 : Flat 43 := flat_struct Try.underlying43 [3] (all_of flat3 [] (List.forall_mem_nil _)) (by kernel_rfl)
theorem flat55 : Flat 55 := flat_struct Try.underlying55 [3, 23, 43, 53] (all_of flat3 _ (all_of flat23 _ (all_of flat43 _ (all_of flat53 _ (List.forall_mem_nil _))))) (by kernel_rfl)

/-- A struct of ints, opened. -/
theorem flat_open {t : TypeId} {fs : Array Field} (hF : Flat t) (ht : Try.prog.underlying t = some (.struct fs)) (N : Nat) (hC : Try.prog.cellsOf t = N)
    {H : Type} {enc : TypeId × Value → H} {w : World} {base : Nat} {spare : Nat → Bool} {held : Bool} {r : Reach} {b0 : Nat} {v : Value} {d : DataW H} {p : List MemPlace}
    (hv : Value.okWide Try.prog w r b0 t v) (h : DataW.Trod enc Try.prog w base spare held t v d p) :
    ∃ z : Nat → Int, ints z ∧ v = .agg ((List.range N).map (fun i => vi (z i))).toArray := by
  obtain ⟨cs, rfl, hsz⟩ := okWide_struct ht hv
  obtain ⟨fuel, hf⟩ := h
  obtain ⟨hl, hi⟩ := hF H enc w base spare held fuel _ _ hf
  rw [hC] at hl hi
  simp only [Value.cells] at hl hi
  have each : ∀ i : Nat, ∃ z : Int, (i < N → cs.toList[i]? = some (vi z)) ∧ -9223372036854775808 ≤ z ∧ z ≤ 9223372036854775807 := fun i => by
    by_cases h : i < N
    · obtain ⟨z, h1, h2⟩ := hi i h
      exact ⟨z, fun _ => h1, h2⟩
    · exact ⟨0, fun h' => absurd h' h, by omega, by omega⟩
  refine ⟨fun i => Classical.choose (each i), fun i => (Classical.choose_spec (each i)).2, ?_⟩
  congr 1
  apply Array.ext'
  apply List.ext_getElem?
  intro i
  by_cases h : i < N
  · rw [(Classical.choose_spec (each i)).1 h]
    simp [h]
  · rw [List.getElem?_eq_none (by omega), List.getElem?_eq_none (by simp; omega)]
/-- An int, opened. -/
theorem int_open {H : Type} {enc : TypeId × Value → H} {w : World} {base : Nat} {spare : Nat → Bool} {held : Bool} {r : Reach} {b0 : Nat} {v : Value} {d : DataW H} {p : List MemPlace}
    (hv : Value.okWide Try.prog w r b0 3 v) (h : DataW.Trod enc Try.prog w base spare held 3 v d p) : ∃ z : Int, v = vi z ∧ -9223372036854775808 ≤ z ∧ z ≤ 9223372036854775807 := by
  obtain ⟨z, h1, h2, h3, h4⟩ := Go.ChangeShapes.open_int Try.underlying3 hv h
  simp only [Lit.wf, Bool.and_eq_true, decide_eq_true_eq] at h4
  exact ⟨z, h1, h4⟩
theorem cells26 : Try.prog.cellsOf 26 = 11 := by kernel_rfl
theorem cells28 : Try.prog.cellsOf 28 = 8 := by kernel_rfl
theorem cells55 : Try.prog.cellsOf 55 = 10 := by kernel_rfl
theorem cells43 : Try.prog.cellsOf 43 = 4 := by kernel_rfl
end Go.Proofs.Ytdpegcimhhegmaa
end

