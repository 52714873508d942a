import Derived.Test.YtdpegcimhhegmaaStE
import Derived.Test.YtdpegcimhhegmaaPlay
import Derived.Test.YtdpegcimhhegmaaStC
set_option linter.unusedVariables false
set_option linter.unusedSimpArgs false
set_option linter.unusedSectionVars false
noncomputable section
set_option maxRecDepth 1000000
namespace Go.Ev.Gas
open Go.RowKit Go.Ev.Num
/-! ### Runs of GasTrue -/
noncomputable def pXt (i : Nat) : AV plain := .agg (tN (700 + 4 * i) 4)
noncomputable def uXt (i : Nat) : AV plain := .agg [rv (760 + 4 * i), rv (760 + 4 * i + 1), Z, rv (760 + 4 * i + 3)]
noncomputable def w33 (i : Nat) : KW := ⟨33, [cavA, pXt i], [(10, 1, tN (100 + 10 * i) 10), (1, 1, tN (820 + i) 1), (1, 1, tN (840 + i) 1)], .tuple [pXt (i + 1), uXt i, .int .i64 0]⟩
noncomputable def w39 (n : Nat) : KW := ⟨39, [], [(10, n, rowsX n), (1, n, tN 820 n), (1, n, tN 840 n)], .bool true⟩
noncomputable def wAll (n k : Nat) : List KW := (List.range k).map w33 ++ [w39 n]
noncomputable def kHasX (i : Nat) : KC := { f := 26, args := [sX i, pXt i], res := .ret (.bool true) }
noncomputable def kDo29 (i : Nat) : KC := { f := 29, args := [cavA, sX i, oX i], res := .ret (.tuple [sX (i + 1), gX i, .int .i64 0]) }
noncomputable def tTrue (n k : Nat) : List KC := (List.range k).map kDo29 ++ ((List.range (k + 1)).map kHasX ++ tAll n k)
noncomputable def ltsT (k : Nat) : List (SX × SX × Bool) := (List.range k).flatMap fun i =>
  [(.v (760 + 4 * i), .v (500 + 6 * i), false), (.v (500 + 6 * i + 1), .v (760 + 4 * i), false), (.v (760 + 4 * i + 1), .v (500 + 6 * i + 2), false), (.v (500 + 6 * i + 3), .v (760 + 4 * i + 1), false), (.v (760 + 4 * i + 3), .v (500 + 6 * i + 4), false), (.v (500 + 6 * i + 5), .v (760 + 4 * i + 3), false)]
def pzt (z : Nat → Int) (i q : Nat) : Int := z (700 + 4 * i + q)
def shz (z : Nat → Int) (i : Nat) : Int := z (820 + i)
def wtz (z : Nat → Int) (i : Nat) : Int := z (840 + i)
/-- A cavern, a state, an operation, a content and what is true of it. -/
def yy (c s o p : Nat → Int) (sh wt : Int) (m : Nat) : Int :=
  if m < 29 then zz c s o m else if m = 37 then sh else if m = 38 then wt else if m < 44 then 0 else if m < 48 then p (m - 44) else 0
def HasP (s p : Nat → Int) : Prop := (s 0 ≤ p 0 ∧ p 0 ≤ s 1) ∧ (s 2 ≤ p 1 ∧ p 1 ≤ s 3) ∧ (s 4 ≤ p 2 ∧ p 2 ≤ s 5) ∧ (s 6 ≤ p 3 ∧ p 3 ≤ s 7)
def TruP (o : Nat → Int) (sh wt : Int) : Prop := (o 6 ≤ sh ∧ sh ≤ o 7) ∧ (o 8 ≤ wt ∧ wt ≤ o 9)
structure GoodT (n k : Nat) (z : Nat → Int) : Prop where
  gx : GoodX n k z
  has : HasP (sz z 0) (pzt z 0)
  tru : ∀ i, i < n → TruP (oz z i) (shz z i) (wtz z i)
  pl : ∀ i, i < k → ∀ q, q < 4 → z (700 + 4 * (i + 1) + q) = plq (yy z (sz z i) (oz z i) (pzt z i) (shz z i) (wtz z i)) q
  ul : ∀ i, i < k → ∀ q, q < 4 → q ≠ 2 → z (760 + 4 * i + q) = plu (yy z (sz z i) (oz z i) (pzt z i) (shz z i) (wtz z i)) q
def HTr (n k : Nat) (o : Nat → Value) : Prop := GoodT n k (zo o)
noncomputable def gTr (n k : Nat) : Ctx := ⟨[], ltsT k ++ (cavL ++ stL), [], HTr n k⟩
noncomputable def oTr (n k : Nat) : Oracle (gTr n k) := fun f args h => answerK (ansW (gTr n k) (wAll n k) f args h) (ora (gTr n k) (tTrue n k) [] f args h)
noncomputable def runT8 (n k : Nat) : Option (Res (gTr n k)) :=
  evK P L true (oTr n k) (drawA P L) fuelK (.call 8 (AV.tos _ [cavA, stA] ++ (slArgs 0 [(10, n, rowsX n)] ++ (AV.tos _ [pXt 0] ++ slArgs 1 [(1, n, tN 820 n), (1, n, tN 840 n)]))) (frnH ([(10, n, rowsX n), (1, n, tN 820 n), (1, n, tN 840 n)].map fun s : Spec => AV.tos _ s.2.2)))
noncomputable def okT (n k : Nat) : Bool := isRes (.ret (.bool true)) (runT8 n k)
/-! ### The numbers -/
theorem aft_c {z w : Nat → Int} (h : ∀ i, i < 29 → z i = w i) : aft z = aft w ∧ gon z = gon w ∧ (can z ↔ can w) := by
  have e := aft_congr (z := fun i => if i < 29 then z i else 0) (w := fun i => if i < 29 then w i else 0) fun i _ => by
    by_cases k : i < 29
    · simp only [if_pos k]; exact h i k
    · simp only [if_neg k]
  exact e
theorem yy_aft (c s o p : Nat → Int) (sh wt : Int) : aft (yy c s o p sh wt) = aftO c s o ∧ gon (yy c s o p sh wt) = gonO c s o ∧ (can (yy c s o p sh wt) ↔ canO c s o) :=
  aft_c fun i hi => by unfold yy; rw [if_pos hi]
theorem play_yy {c s o p : Nat → Int} {sh wt : Int} (hc : cavP c) (hs : StI s) (ho : opOk o) (hh : HasP s p) (ht : TruP o sh wt) (hcan : canO c s o) :
    PlayG (yy c s o p sh wt) (plq (yy c s o p sh wt)) (plu (yy c s o p sh wt)) ∧ InN (yy c s o p sh wt) ∧ OutN (yy c s o p sh wt) :=
  play_all (y := yy c s o p sh wt) hc hs hh ho ht ((yy_aft c s o p sh wt).2.2.2 hcan)
theorem HasP.congr {s s' p p' : Nat → Int} (h : HasP s p) (e1 : ∀ q, q < 8 → s' q = s q) (e2 : ∀ q, q < 4 → p' q = p q) : HasP s' p' := by
  unfold HasP at *
  rw [e1 0 (by omega), e1 1 (by omega), e1 2 (by omega), e1 3 (by omega), e1 4 (by omega), e1 5 (by omega), e1 6 (by omega), e1 7 (by omega), e2 0 (by omega), e2 1 (by omega), e2 2 (by omega), e2 3 (by omega)]
  exact h
theorem GoodT.has_all {n k : Nat} {z : Nat → Int} (h : GoodT n k z) : ∀ i, i ≤ k → HasP (sz z i) (pzt z i)
  | 0, _ => h.has
  | i + 1, hi => by
    have kn := h.gx.kn
    have := (play_yy h.gx.hc (h.gx.sti i (by omega)) (h.gx.ho i (by omega)) (h.has_all i (by omega)) (h.tru i (by omega)) (h.gx.can i (by omega))).2.1
    unfold InN at this
    rw [(yy_aft z _ _ _ _ _).1] at this
    exact (show HasP (aftO z (sz z i) (oz z i)) (plq (yy z (sz z i) (oz z i) (pzt z i) (shz z i) (wtz z i))) from this).congr (fun q hq => h.gx.st i (by omega) q hq) (fun q hq => h.pl i (by omega) q hq)
end Go.Ev.Gas
end

noncomputable section
set_option maxRecDepth 1000000
namespace Go.Ev.Gas
open Go.RowKit Go.Ev.Num
/-! ### Their contracts hold -/
theorem c_weak {n k : Nat} {kc : KC} (h : Con P (Fence.there P) (HX n k) kc) : Con P (Fence.there P) (HTr n k) kc := h.mono fun o ho => GoodT.gx ho
noncomputable def gHasX : Ctx := ⟨[], hasQL, [], fun _ => True⟩
noncomputable def k26x : KC := { f := 26, args := [stA, qA], res := .ret (.bool true) }
theorem r26x : isRes k26x.res (runK P L true [] [] gHasX k26x) = true := by decide +kernel
theorem gives26x {s p : Nat → Int} (hs : StI s) (h : HasP s p) : Gives (Fence.there P) 26 #[sV s, pV p] (.bool true) := by
  have hq : hasQ (yy zeros s zeros p 0 0) := h
  have hs' : stP (yy zeros s zeros p 0 0) := hs
  have b := h; have b2 := hs
  unfold HasP at b
  unfold StI at b2
  refine gives_of (k := k26x) (a := .bool true) (con_of_run (H := fun _ => True) (k := k26x) fbT rfl no_k no_p (fun _ _ => trivial) r26x) rfl rfl rfl (yy zeros s zeros p 0 0) (holds_of (G := gHasX) trivial ?_ trivial trivial) _ (vrs_cons (vr_st (z := yy zeros s zeros p 0 0) hs') (vrs_cons (vr_agg (vrs_cons (vr_iv (yy zeros s zeros p 0 0) (show 0 ≤ p 0 by omega) (show p 0 ≤ 1000000 by omega)) (vrs_cons (vr_iv (yy zeros s zeros p 0 0) (show 0 ≤ p 1 by omega) (show p 1 ≤ 1000000 by omega)) (vrs_cons (vr_iv (yy zeros s zeros p 0 0) (show 2000 ≤ p 2 by omega) (show p 2 ≤ 5000 by omega)) (vrs_cons (vr_iv (yy zeros s zeros p 0 0) (show 0 ≤ p 3 by omega) (show p 3 ≤ 1000000000 by omega)) vrs_nil))))) vrs_nil))
  exact ⟨b.1.1, b.1.2, b.2.1.1, b.2.1.2, b.2.2.1.1, b.2.2.1.2, b.2.2.2.1, b.2.2.2.2, trivial⟩
theorem val_p (o : Nat → Value) (i : Nat) : valOf o (pXt i) = pV (pzt (zo o) i) := rfl
theorem pure_p (i : Nat) : pureA (pXt i) = true := rfl
theorem free_p (i : Nat) : (pXt i).free = true := rfl
theorem con_hasX {n k i : Nat} (hi : i ≤ k) : Con P (Fence.there P) (HTr n k) (kHasX i) := by
  refine con_val (a := .bool true) rfl rfl ?_ rfl fun o h => ⟨?_, trivial⟩
  · show (pureA (sX i) && (pureA (pXt i) && true)) = true
    rw [pure_s, pure_p]; rfl
  · have h' : GoodT n k (zo o) := h
    show Gives _ 26 (valsOf o [sX i, pXt i]).toArray _
    simp only [valsOf, val_s, val_p]
    exact gives26x (h'.gx.sti i hi) (h'.has_all i hi)
theorem con_do29 {n k i : Nat} (hi : i < k) : Con P (Fence.there P) (HTr n k) (kDo29 i) := by
  refine con_val (a := .tuple [sX (i + 1), gX i, .int .i64 0]) rfl rfl ?_ ?_ fun o h => ?_
  · show (pureA cavA && (pureA (sX i) && (pureA (oX i) && true))) = true
    rw [pure_s]; rfl
  · show (pureA (sX (i + 1)) && (pureA (gX i) && (true && true))) = true
    rfl
  · have h' : GoodT n k (zo o) := h
    have kn := h'.gx.kn
    have g := gives68 h'.gx.hc (h'.gx.sti i (by omega)) (h'.gx.ho i (by omega)) (h'.gx.can i hi) (h'.gx.st i hi) (h'.gx.go i hi)
    have bg := (aftO_in h'.gx.hc (h'.gx.sti i (by omega)) (h'.gx.ho i (by omega)) (h'.gx.can i hi)).2
    show Gives _ 29 (valsOf o [cavA, sX i, oX i]).toArray _ ∧ _
    rw [args_X]
    refine ⟨g.2.2, ?_, ?_, trivial, trivial⟩
    · exact bnd_tN (sti_b (h'.gx.sti (i + 1) (by omega)))
    · exact bnd_tN fun q hq => by rw [h'.gx.go i hi q hq]; exact bg q
theorem tT_ok (n k : Nat) : ∀ c ∈ tTrue n k, c.free = true ∧ Con P (Fence.there P) (HTr n k) c := by
  intro c hc
  rcases List.mem_append.1 hc with h | h
  · obtain ⟨i, hi, rfl⟩ := List.mem_map.1 h
    refine ⟨?_, con_do29 (List.mem_range.1 hi)⟩
    show (true && ((AV.free cavA && (AV.free (sX i) && (AV.free (oX i) && true))) && (AV.free (sX (i + 1)) && (AV.free (gX i) && (true && true))))) = true
    rw [free_s]; rfl
  rcases List.mem_append.1 h with h | h
  · obtain ⟨i, hi, rfl⟩ := List.mem_map.1 h
    refine ⟨?_, con_hasX (by have := List.mem_range.1 hi; omega)⟩
    show (true && ((AV.free (sX i) && (AV.free (pXt i) && true)) && true)) = true
    rw [free_s]; rfl
  · have := t_ok n k c h
    exact ⟨this.1, c_weak this.2⟩
/-- The cells of a row of names, in the world. -/
theorem cells_of {o : Nat → Value} {w : World} {v : Value} {sz len b m : Nat} (h : RowAt o w v (sz, len, tN b m)) : CellsAt w v len ((List.range m).map fun q => vi (zo o (b + q))) := by
  obtain ⟨bb, off, cap, h1, h2, h3, h4⟩ := h
  refine ⟨bb, off, cap, h1, h2, h3, fun j x hx => ?_⟩
  rw [List.getElem?_map] at hx
  by_cases hj : j < m
  · rw [List.getElem?_range hj] at hx
    obtain ⟨u, hu, e, he, hr⟩ := h4 j (rv (b + j)) (by unfold tN; rw [List.getElem?_map, List.getElem?_range hj]; rfl)
    rw [hu]
    simp only [rv, VR] at hr
    rw [hr.1, he]
    exact hx
  · rw [List.getElem?_eq_none (by simpa using hj)] at hx
    cases hx
theorem isv_vals {o : Nat → Value} {a : List (AV plain)} {v : List Value} (hp : puresA a = true) (h : IsVals o a v) : v = valsOf o a := by
  obtain ⟨e, he, hv⟩ := h
  rw [← he]; exact vals_of a v hp hv
theorem plq_b {c s o p : Nat → Int} {sh wt : Int} (hc : cavP c) (hs : StI s) (ho : opOk o) (hh : HasP s p) (ht : TruP o sh wt) (hcan : canO c s o) : ∀ q, q < 4 → (-9223372036854775808 ≤ plq (yy c s o p sh wt) q ∧ plq (yy c s o p sh wt) q ≤ 9223372036854775807) ∧ (-9223372036854775808 ≤ plu (yy c s o p sh wt) q ∧ plu (yy c s o p sh wt) q ≤ 9223372036854775807) := by
  obtain ⟨_, h1, h2⟩ := play_yy hc hs ho hh ht hcan
  have h3 := aftO_in hc hs ho hcan
  have g := h3.2
  have a := h3.1
  unfold InN at h1
  unfold OutN at h2
  rw [(yy_aft c s o p sh wt).1] at h1
  rw [(yy_aft c s o p sh wt).2.1] at h2
  unfold StI at a
  have g0 := g 0; have g1 := g 1; have g2 := g 2; have g3 := g 3; have g4 := g 4; have g5 := g 5
  intro q hq
  match q, hq with
  | 0, _ => omega
  | 1, _ => omega
  | 2, _ => omega
  | 3, _ => omega
theorem con33 {n k i : Nat} (hi : i < k) : ConW P (Fence.there P) (HTr n k) (w33 i) := by
  intro o h1 h vp vr w m hvp hrows
  have h' : GoodT n k (zo o) := h
  have kn := h'.gx.kn
  have hvp := isv_vals (by show (pureA cavA && (pureA (pXt i) && true)) = true; rw [pure_p]; rfl) hvp
  subst hvp
  obtain ⟨v1, v2, v3, rfl⟩ : ∃ v1 v2 v3, vr = [v1, v2, v3] := by
    have := rowsAt_len hrows
    match vr, this with
    | [v1, v2, v3], _ => exact ⟨v1, v2, v3, rfl⟩
  obtain ⟨r1, r2, r3, _⟩ := hrows
  have c1 := cells_of r1; have c2 := cells_of r2; have c3 := cells_of r3
  have hsti := h'.gx.sti i (by omega)
  have hop := h'.gx.ho i (by omega)
  have hha := h'.has_all i (by omega)
  have htr := h'.tru i (by omega)
  have hca := h'.gx.can i hi
  have pg := (play_yy h'.gx.hc hsti hop hha htr hca).1 w m v1 v2 v3 c1 c2 c3
  have hb := plq_b h'.gx.hc hsti hop hha htr hca
  have hu2 := (play_yy h'.gx.hc hsti hop hha htr hca).2.2.2.2.2
  let e0 : Env plain := ⟨fun _ => none, o, 0, fun _ => 0, fun _ => True, h1, plain_holds _⟩
  have pu : pureA (w33 i).res = true := rfl
  have ep : pV (pzt (zo o) (i + 1)) = pV (plq (yy (zo o) (sz (zo o) i) (oz (zo o) i) (pzt (zo o) i) (shz (zo o) i) (wtz (zo o) i))) := by
    simp only [pV]
    rw [show pzt (zo o) (i + 1) 0 = _ from h'.pl i hi 0 (by omega), show pzt (zo o) (i + 1) 1 = _ from h'.pl i hi 1 (by omega), show pzt (zo o) (i + 1) 2 = _ from h'.pl i hi 2 (by omega), show pzt (zo o) (i + 1) 3 = _ from h'.pl i hi 3 (by omega)]
  have eu : Value.agg [vi (zo o (760 + 4 * i)), vi (zo o (760 + 4 * i + 1)), vi 0, vi (zo o (760 + 4 * i + 3))].toArray = pV (plu (yy (zo o) (sz (zo o) i) (oz (zo o) i) (pzt (zo o) i) (shz (zo o) i) (wtz (zo o) i))) := by
    simp only [pV, hu2]
    rw [show zo o (760 + 4 * i) = _ from h'.ul i hi 0 (by omega) (by omega), show zo o (760 + 4 * i + 1) = _ from h'.ul i hi 1 (by omega) (by omega), show zo o (760 + 4 * i + 3) = _ from h'.ul i hi 3 (by omega) (by omega)]
  have ev : valOf o (w33 i).res = Value.tuple [pV (plq (yy (zo o) (sz (zo o) i) (oz (zo o) i) (pzt (zo o) i) (shz (zo o) i) (wtz (zo o) i))), pV (plu (yy (zo o) (sz (zo o) i) (oz (zo o) i) (pzt (zo o) i) (shz (zo o) i) (wtz (zo o) i))), vi 0].toArray := by
    show Value.tuple [pV (pzt (zo o) (i + 1)), Value.agg [vi (zo o (760 + 4 * i)), vi (zo o (760 + 4 * i + 1)), vi 0, vi (zo o (760 + 4 * i + 3))].toArray, vi 0].toArray = _
    rw [ep, eu]
  have bd : bnd o (w33 i).res := by
    refine ⟨bnd_tN fun q hq => ?_, ⟨?_, ?_, trivial, ?_, trivial⟩, trivial, trivial⟩
    · rw [h'.pl i hi q hq]; exact (hb q hq).1
    · show _ ≤ zo o (760 + 4 * i) ∧ zo o (760 + 4 * i) ≤ _
      rw [show zo o (760 + 4 * i) = _ from h'.ul i hi 0 (by omega) (by omega)]; exact (hb 0 (by omega)).2
    · show _ ≤ zo o (760 + 4 * i + 1) ∧ zo o (760 + 4 * i + 1) ≤ _
      rw [show zo o (760 + 4 * i + 1) = _ from h'.ul i hi 1 (by omega) (by omega)]; exact (hb 1 (by omega)).2
    · show _ ≤ zo o (760 + 4 * i + 3) ∧ zo o (760 + 4 * i + 3) ≤ _
      rw [show zo o (760 + 4 * i + 3) = _ from h'.ul i hi 3 (by omega) (by omega)]; exact (hb 3 (by omega)).2
  have hv := vr_val (e := e0) (w33 i).res pu bd
  refine pg.mono fun e w' ⟨h3, h4⟩ => ⟨⟨_, h3, e0, rfl, ?_⟩, h4⟩
  rw [← ev]; exact hv
end Go.Ev.Gas
end

noncomputable section
set_option maxRecDepth 1000000
namespace Go.Ev.Gas
open Go.RowKit Go.Ev.Num
/-! ### The specification's Truth -/
noncomputable def k58 (b : Bool) : KC := { f := 58, args := [rv 0, rv 1, rv 2], res := .ret (.bool b) }
noncomputable def g58t : Ctx := ⟨[], [(.v 0, .v 1, false), (.v 2, .v 0, false)], [], fun _ => True⟩
noncomputable def g58a : Ctx := ⟨[], [(.v 0, .v 1, true)], [], fun _ => True⟩
noncomputable def g58b : Ctx := ⟨[], [(.v 0, .v 1, false), (.v 2, .v 0, true)], [], fun _ => True⟩
theorem r58t : isRes (k58 true).res (runK P L true [] [] g58t (k58 true)) = true := by decide +kernel
theorem r58a : isRes (k58 false).res (runK P L true [] [] g58a (k58 false)) = true := by decide +kernel
theorem r58b : isRes (k58 false).res (runK P L true [] [] g58b (k58 false)) = true := by decide +kernel
def z3 (a b c : Int) (i : Nat) : Int := match i with | 0 => a | 1 => b | 2 => c | _ => 0
def inB (n : Int) : Prop := -9223372036854775808 ≤ n ∧ n ≤ 9223372036854775807
theorem gives58 {a lo hi : Int} (ha : inB a) (hl : inB lo) (hh : inB hi) : (lo ≤ a ∧ a ≤ hi → Gives (Fence.there P) 58 #[vi a, vi lo, vi hi] (.bool true)) ∧ (¬ (lo ≤ a ∧ a ≤ hi) → Gives (Fence.there P) 58 #[vi a, vi lo, vi hi] (.bool false)) := by
  have hv : VRs (envZ (z3 a lo hi)) [rv 0, rv 1, rv 2] (#[vi a, vi lo, vi hi] : Array Value).toList := vrs_cons (vr_iv (z3 a lo hi) ha.1 ha.2) (vrs_cons (vr_iv (z3 a lo hi) hl.1 hl.2) (vrs_cons (vr_iv (z3 a lo hi) hh.1 hh.2) vrs_nil))
  refine ⟨fun h => ?_, fun h => ?_⟩
  · exact gives_of (k := k58 true) (a := .bool true) (con_of_run (H := fun _ => True) fbT rfl no_k no_p (fun _ _ => trivial) r58t) rfl rfl rfl (z3 a lo hi) (holds_of (G := g58t) trivial ⟨h.1, h.2, trivial⟩ trivial trivial) _ hv
  · by_cases h1 : a < lo
    · exact gives_of (k := k58 false) (a := .bool false) (con_of_run (H := fun _ => True) fbT rfl no_k no_p (fun _ _ => trivial) r58a) rfl rfl rfl (z3 a lo hi) (holds_of (G := g58a) trivial ⟨h1, trivial⟩ trivial trivial) _ hv
    · exact gives_of (k := k58 false) (a := .bool false) (con_of_run (H := fun _ => True) fbT rfl no_k no_p (fun _ _ => trivial) r58b) rfl rfl rfl (z3 a lo hi) (holds_of (G := g58b) trivial ⟨(show lo ≤ a by omega), (show hi < a by omega), trivial⟩ trivial trivial) _ hv
/-- A question of the i-th: whether its share, or its wet, lies between bounds. -/
noncomputable def kIn (i : Nat) (wet : Bool) (b : Bool) : KC := { f := 58, args := (if wet then [rv (840 + i), rv (100 + 10 * i + 8), rv (100 + 10 * i + 9)] else [rv (820 + i), rv (100 + 10 * i + 6), rv (100 + 10 * i + 7)]), res := .ret (.bool b) }
def okSh (z : Nat → Int) (i : Nat) : Prop := oz z i 6 ≤ shz z i ∧ shz z i ≤ oz z i 7
def okWt (z : Nat → Int) (i : Nat) : Prop := oz z i 8 ≤ wtz z i ∧ wtz z i ≤ oz z i 9
/-- How the j-th is: as it must be (2), its share is not (0), or its wet is not (1). -/
structure G39 (n j kd : Nat) (z : Nat → Int) : Prop where
  yes : ∀ i, i < j → okSh z i ∧ okWt z i
  no : j < n → (kd = 0 → ¬ okSh z j) ∧ (kd = 1 → okSh z j ∧ ¬ okWt z j)
  jn : j ≤ n
  b : ∀ i, i < n → (∀ q, q < 10 → inB (oz z i q)) ∧ inB (shz z i) ∧ inB (wtz z i)
def H39 (n j kd : Nat) (o : Nat → Value) : Prop := G39 n j kd (zo o)
noncomputable def tNo (j : Nat) : Nat → List KC
  | 0 => [kIn j false false]
  | 1 => [kIn j false true, kIn j true false]
  | _ => []
noncomputable def t39 (n j kd : Nat) : List KC := (List.range j).flatMap (fun i => [kIn i false true, kIn i true true]) ++ (if Nat.blt j n then tNo j kd else [])
noncomputable def g39 (n j kd : Nat) : Ctx := ⟨[], [], [], H39 n j kd⟩
noncomputable def w39b (n : Nat) (b : Bool) : KW := ⟨39, [], [(10, n, rowsX n), (1, n, tN 820 n), (1, n, tN 840 n)], .bool b⟩
noncomputable def ok39 (n j kd : Nat) : Bool := isRes (.ret (.bool (Nat.beq j n))) (runW P L true (ora (g39 n j kd) (t39 n j kd) []) (w39b n (Nat.beq j n)))
theorem con_in {n j kd i : Nat} {wet b : Bool} (h : ∀ z, G39 n j kd z → i < n ∧ (b = true ↔ (if wet then okWt z i else okSh z i))) : Con P (Fence.there P) (H39 n j kd) (kIn i wet b) := by
  have key : ∀ (z : Nat → Int), G39 n j kd z → ∀ x lo hi : Nat, inB (z x) → inB (z lo) → inB (z hi) → ((if wet then okWt z i else okSh z i) ↔ (z lo ≤ z x ∧ z x ≤ z hi)) → Gives (Fence.there P) 58 #[vi (z x), vi (z lo), vi (z hi)] (.bool b) := fun z hz x lo hi bx bl bh he => by
    have hb := (h z hz).2
    have g := gives58 bx bl bh
    cases b with
    | true => exact g.1 (he.1 (hb.1 rfl))
    | false => exact g.2 fun hh => by have := hb.2 (he.2 hh); cases this
  cases wet with
  | true => exact con_val (a := .bool b) rfl rfl rfl rfl fun o ho => ⟨key (zo o) ho (840 + i) (100 + 10 * i + 8) (100 + 10 * i + 9) (ho.b i (h _ ho).1).2.2 ((ho.b i (h _ ho).1).1 8 (by omega)) ((ho.b i (h _ ho).1).1 9 (by omega)) Iff.rfl, trivial⟩
  | false => exact con_val (a := .bool b) rfl rfl rfl rfl fun o ho => ⟨key (zo o) ho (820 + i) (100 + 10 * i + 6) (100 + 10 * i + 7) (ho.b i (h _ ho).1).2.1 ((ho.b i (h _ ho).1).1 6 (by omega)) ((ho.b i (h _ ho).1).1 7 (by omega)) Iff.rfl, trivial⟩
theorem free_in (i : Nat) (wet b : Bool) : (kIn i wet b).free = true := by cases wet <;> rfl
theorem t39_ok (n j kd : Nat) : ∀ c ∈ t39 n j kd, c.free = true ∧ Con P (Fence.there P) (H39 n j kd) c := by
  intro c hc
  rcases List.mem_append.1 hc with h | h
  · obtain ⟨i, hi, h⟩ := List.mem_flatMap.1 h
    have hi := List.mem_range.1 hi
    rcases List.mem_cons.1 h with rfl | h
    · exact ⟨free_in _ _ _, con_in fun z hz => ⟨Nat.lt_of_lt_of_le hi hz.jn, fun _ => (hz.yes i hi).1, fun _ => rfl⟩⟩
    · rcases List.mem_cons.1 h with rfl | h
      · exact ⟨free_in _ _ _, con_in fun z hz => ⟨Nat.lt_of_lt_of_le hi hz.jn, fun _ => (hz.yes i hi).2, fun _ => rfl⟩⟩
      · cases h
  · cases hb : Nat.blt j n with
    | false => rw [hb] at h; cases h
    | true =>
      rw [hb] at h
      have hj : j < n := by have := Nat.le_of_ble_eq_true hb; omega
      match kd, h with
      | 0, h =>
        rcases List.mem_cons.1 h with rfl | h
        · exact ⟨free_in _ _ _, con_in fun z hz => ⟨hj, fun h => (by cases h), fun h => absurd h ((hz.no hj).1 rfl)⟩⟩
        · cases h
      | 1, h =>
        rcases List.mem_cons.1 h with rfl | h
        · exact ⟨free_in _ _ _, con_in fun z hz => ⟨hj, fun _ => ((hz.no hj).2 rfl).1, fun _ => rfl⟩⟩
        · rcases List.mem_cons.1 h with rfl | h
          · exact ⟨free_in _ _ _, con_in fun z hz => ⟨hj, fun h => (by cases h), fun h => absurd h ((hz.no hj).2 rfl).2⟩⟩
          · cases h
      | kd + 2, h => cases h
theorem free_rows (n : Nat) : AV.frees (rowsX n) = true := by
  induction n with
  | zero => rfl
  | succ n ih =>
    have e : rowsX (n + 1) = rowsX n ++ tN (100 + 10 * n) 10 := by unfold rowsX; rw [List.range_succ, List.flatMap_append]; simp
    have ap : ∀ a b : List (AV plain), AV.frees a = true → AV.frees b = true → AV.frees (a ++ b) = true := fun a b ha hb => by
      induction a with
      | nil => exact hb
      | cons x r ihr =>
        simp only [AV.frees, Bool.and_eq_true] at ha
        show (x.free && AV.frees (r ++ b)) = true
        rw [ha.1, ihr ha.2]; rfl
    rw [e]
    exact ap _ _ ih (frees_tN _ _)
theorem w39_free (n : Nat) (b : Bool) : (w39b n b).free = true := by
  show (true && (AV.frees (rowsX n) && (AV.frees (tN 820 n) && (AV.frees (tN 840 n) && true))) && true) = true
  rw [free_rows, frees_tN, frees_tN]; rfl
theorem con39 {n j kd : Nat} (hr : ok39 n j kd = true) : ConW P (Fence.there P) (H39 n j kd) (w39b n (Nat.beq j n)) :=
  fun o h1 h => conW_of_run (G := g39 n j kd) fbT (w39_free n _) (ora_ok (H := H39 n j kd) (fun o h => h.extra) (t39_ok n j kd) no_p) hr o h1 (by
    refine ⟨?_, ?_, ?_, h⟩
    · intro x k lo hi hm; cases hm
    · intro x y b hm; cases hm
    · intro x y b hm; cases hm)
end Go.Ev.Gas
end

