import Derived.Test.YtdpegcimhhegmaaKeepA
import Derived.Test.YtdpegcimhhegmaaMoreB
import Derived.Test.YtdpegcimhhegmaaKeepD
import Derived.Test.YtdpegcimhhegmaaCheckA
set_option linter.unusedVariables false
set_option linter.unusedSimpArgs false
set_option linter.unusedSectionVars false
noncomputable section
set_option maxRecDepth 1000000
set_option maxHeartbeats 0
namespace Go.Ev.Gas
noncomputable def nL : AV plain := .sx (.bin 2 (.bin 2 (.bin 0 (.bin 2 (.v 11) (.v 4)) (.bin 2 (.v 13) (.v 5))) (.v 15)) (.c 8314)) 0 166280000000000000
noncomputable def dL : AV plain := .sx (.bin 2 (.v 1) (.c 10000000)) 10000000 10000000000000
noncomputable def nH : AV plain := .sx (.bin 2 (.bin 2 (.bin 0 (.bin 2 (.v 12) (.v 4)) (.bin 2 (.v 14) (.v 5))) (.v 16)) (.c 8314)) 0 166280000000000000
noncomputable def dG : AV plain := .sx (.bin 2 (.v 0) (.c 10000000)) 10000000 10000000000000
noncomputable def rL : AV plain := .agg [iv 70 0 9223372036854775807, iv 71 0 9223372036854775807]
noncomputable def rH : AV plain := .agg [iv 72 0 9223372036854775807, iv 73 0 9223372036854775807]
noncomputable def k99 (n d r : AV plain) : KC := { f := 99, args := [.agg [n, d]], res := .ret r }
noncomputable def k63 (n d r : AV plain) : KC := { f := 63, args := [n, d], res := .ret r }
noncomputable def tC (r : Int) : List KC := [k99 nL dL rL, k99 nH dG rH, k63 nL dL rL, k63 nH dG rH, k18 r, k21]
noncomputable def gC0 (p : (Nat → Value) → Prop) : Ctx := ⟨[], cavL ++ stL ++ [((.bin 2 (.bin 2 (.bin 0 (.bin 2 (.v 11) (.v 4)) (.bin 2 (.v 13) (.v 5))) (.v 15)) (.c 8314)), (.bin 2 (.bin 2 (.v 2) (.v 1)) (.c 10000000)), false), ((.bin 2 (.bin 2 (.v 3) (.v 0)) (.c 10000000)), (.bin 2 (.bin 2 (.bin 0 (.bin 2 (.v 12) (.v 4)) (.bin 2 (.v 14) (.v 5))) (.v 16)) (.c 8314)), false), ((.bin 2 (.c 1000) (.v 13)), (.bin 2 (.v 9) (.bin 0 (.v 12) (.v 13))), false), ((.bin 2 (.v 10) (.bin 0 (.v 11) (.v 14))), (.bin 2 (.c 1000) (.v 14)), false)], [], p⟩
noncomputable def gC1 (p : (Nat → Value) → Prop) : Ctx := ⟨[], cavL ++ stL ++ [((.bin 2 (.bin 2 (.bin 0 (.bin 2 (.v 11) (.v 4)) (.bin 2 (.v 13) (.v 5))) (.v 15)) (.c 8314)), (.bin 2 (.bin 2 (.v 2) (.v 1)) (.c 10000000)), true)], [], p⟩
noncomputable def gC2 (p : (Nat → Value) → Prop) : Ctx := ⟨[], cavL ++ stL ++ [((.bin 2 (.bin 2 (.bin 0 (.bin 2 (.v 11) (.v 4)) (.bin 2 (.v 13) (.v 5))) (.v 15)) (.c 8314)), (.bin 2 (.bin 2 (.v 2) (.v 1)) (.c 10000000)), false), ((.bin 2 (.bin 2 (.v 3) (.v 0)) (.c 10000000)), (.bin 2 (.bin 2 (.bin 0 (.bin 2 (.v 12) (.v 4)) (.bin 2 (.v 14) (.v 5))) (.v 16)) (.c 8314)), true)], [], p⟩
noncomputable def gC3 (p : (Nat → Value) → Prop) : Ctx := ⟨[], cavL ++ stL ++ [((.bin 2 (.bin 2 (.bin 0 (.bin 2 (.v 11) (.v 4)) (.bin 2 (.v 13) (.v 5))) (.v 15)) (.c 8314)), (.bin 2 (.bin 2 (.v 2) (.v 1)) (.c 10000000)), false), ((.bin 2 (.bin 2 (.v 3) (.v 0)) (.c 10000000)), (.bin 2 (.bin 2 (.bin 0 (.bin 2 (.v 12) (.v 4)) (.bin 2 (.v 14) (.v 5))) (.v 16)) (.c 8314)), false), ((.bin 2 (.c 1000) (.v 13)), (.bin 2 (.v 9) (.bin 0 (.v 12) (.v 13))), true)], [], p⟩
noncomputable def gC4 (p : (Nat → Value) → Prop) : Ctx := ⟨[], cavL ++ stL ++ [((.bin 2 (.bin 2 (.bin 0 (.bin 2 (.v 11) (.v 4)) (.bin 2 (.v 13) (.v 5))) (.v 15)) (.c 8314)), (.bin 2 (.bin 2 (.v 2) (.v 1)) (.c 10000000)), false), ((.bin 2 (.bin 2 (.v 3) (.v 0)) (.c 10000000)), (.bin 2 (.bin 2 (.bin 0 (.bin 2 (.v 12) (.v 4)) (.bin 2 (.v 14) (.v 5))) (.v 16)) (.c 8314)), false), ((.bin 2 (.c 1000) (.v 13)), (.bin 2 (.v 9) (.bin 0 (.v 12) (.v 13))), false), ((.bin 2 (.v 10) (.bin 0 (.v 11) (.v 14))), (.bin 2 (.c 1000) (.v 14)), true)], [], p⟩
end Go.Ev.Gas
end

noncomputable section
set_option maxRecDepth 1000000
set_option maxHeartbeats 0
namespace Go.Ev.Gas
open Go.RowKit Go.Ev.Num
theorem con_wide {H : (Nat → Value) → Prop} {k : KC} (c : Con P (Fence.there P) H k) : Con P Fence.wide H k :=
  fun o h1 hH e0 ps vs w n he ht hv => (Go.callsIn_wide (n := n)).2 ((c o h1 hH e0 ps vs w n he ht hv).calls (room_there P))
theorem con_valW {H : (Nat → Value) → Prop} {k : KC} {a : AV plain} (ho : k.obj = none) (hr : k.res = .ret a) (hpa : puresA k.args = true) (hp : pureA a = true)
    (h : ∀ o, H o → (∀ w, Calls P k.f (valsOf o k.args).toArray w fun e w' => e = .returned (valOf o a) ∧ Below w.heap.size w w') ∧ bnd o a) : Con P Fence.wide H k := by
  intro o h1 hH e0 ps vs w n he _ hv
  obtain ⟨hg, hb⟩ := h o hH
  have := vals_of k.args vs.toList hpa hv
  rw [he] at this
  have hvs : vs = (valsOf o k.args).toArray := by rw [← this]
  rw [hvs]
  refine (Go.callsIn_wide (n := n)).2 ((hg w).mono fun e w' ⟨h3, h4⟩ => ⟨?_, h4⟩)
  rw [hr]
  exact ⟨valOf o a, h3, e0, he, by rw [← he] at hb ⊢; exact vr_val a hp hb⟩
theorem yes_wide {f : Nat} {H : (Nat → Value) → Prop} {a : List (AV plain)} (c : Con P Fence.wide H (kYes f a)) (z : Nat → Int) (h : H (ov z)) (vs : Array Value) (hv : VRs (envZ z) a vs.toList) : Yes f vs := by
  intro w
  have := c (ov z) (ov_one z) h (envZ z) [] vs w 0 rfl ⟨rfl, fun i => by simp [envZ], fun i => by simp [envZ], fun cc p hc => by cases hc⟩ hv
  refine ((Go.callsIn_wide (n := 0)).1 this).mono fun e w' ⟨h1, h2⟩ => ⟨?_, h2⟩
  obtain ⟨v', rfl, e2, _, h3⟩ := h1
  simp only [VR] at h3
  rw [h3]
/-- A fraction in lowest terms. -/
def qn (n d : Int) : Int := ((n.toNat / Nat.gcd n.toNat d.toNat : Nat) : Int)
def qd (n d : Int) : Int := ((d.toNat / Nat.gcd n.toNat d.toNat : Nat) : Int)
theorem q_in {n d : Int} (hn : n ≤ 9223372036854775807) (hd : d ≤ 9223372036854775807) : (0 ≤ qn n d ∧ qn n d ≤ 9223372036854775807) ∧ (0 ≤ qd n d ∧ qd n d ≤ 9223372036854775807) := by
  have a := Nat.div_le_self n.toNat (Nat.gcd n.toNat d.toNat)
  have b := Nat.div_le_self d.toNat (Nat.gcd n.toNat d.toNat)
  unfold qn qd
  generalize n.toNat / Nat.gcd n.toNat d.toNat = x at *
  generalize d.toNat / Nat.gcd n.toNat d.toNat = y at *
  omega
theorem red99 {n d : Int} (hn : 0 ≤ n ∧ n ≤ 9223372036854775807) (hd : 0 < d ∧ d ≤ 9223372036854775807) (w : World) : Calls P 99 #[.agg [vi n, vi d].toArray] w fun e w' => e = .returned (.agg [vi (qn n d), vi (qd n d)].toArray) ∧ Below w.heap.size w w' := by
  have := reduced_any n.toNat d.toNat w (by omega) (by omega) (by omega)
  rw [Int.toNat_of_nonneg hn.1, Int.toNat_of_nonneg (show 0 ≤ d by omega)] at this
  exact this
theorem red63 {n d : Int} (hn : 0 ≤ n ∧ n ≤ 9223372036854775807) (hd : 0 < d ∧ d ≤ 9223372036854775807) (w : World) : Calls P 63 #[vi n, vi d] w fun e w' => e = .returned (.agg [vi (qn n d), vi (qd n d)].toArray) ∧ Below w.heap.size w w' := by
  have := frac_any n.toNat d.toNat w (by omega) (by omega) (by omega)
  rw [Int.toNat_of_nonneg hn.1, Int.toNat_of_nonneg (show 0 ≤ d by omega)] at this
  exact this
def nuL (z : Nat → Int) : Int := fo z (z 11) (z 13) (z 15) * 8314
def nuH (z : Nat → Int) : Int := fo z (z 12) (z 14) (z 16) * 8314
def deL (z : Nat → Int) : Int := z 1 * 10000000
def deH (z : Nat → Int) : Int := z 0 * 10000000
structure HF (z : Nat → Int) : Prop where
  hc : cavP z
  hs : stP z
  a : z 70 = qn (nuL z) (deL z)
  b : z 71 = qd (nuL z) (deL z)
  c : z 72 = qn (nuH z) (deH z)
  d : z 73 = qd (nuH z) (deH z)
theorem fo_in {z : Nat → Int} (hc : cavP z) {g h t : Int} (g0 : 0 ≤ g) (g1 : g ≤ 1000000) (h0 : 0 ≤ h) (h1 : h ≤ 1000000) (t0 : 0 ≤ t) (t1 : t ≤ 5000) : 0 ≤ fo z g h t * 8314 ∧ fo z g h t * 8314 ≤ 9223372036854775807 := by
  simp only [cavP] at hc
  have a := mulB (b := z 4) (B := 2000) g0 g1 (by omega) (by omega)
  have b := mulB (b := z 5) (B := 2000) h0 h1 (by omega) (by omega)
  have c := mulB (a := g * z 4 + h * z 5) (A := 4000000000) (b := t) (B := 5000) (by omega) (by omega) t0 t1
  simp only [fo]
  omega
theorem hf_in {z : Nat → Int} (h : HF z) : ((0 ≤ nuL z ∧ nuL z ≤ 9223372036854775807) ∧ (0 < deL z ∧ deL z ≤ 9223372036854775807)) ∧ ((0 ≤ nuH z ∧ nuH z ≤ 9223372036854775807) ∧ (0 < deH z ∧ deH z ≤ 9223372036854775807)) := by
  have hc := h.hc; have hs := h.hs
  have hc' := hc
  simp only [cavP] at hc
  simp only [stP] at hs
  exact ⟨⟨fo_in hc' (by omega) (by omega) (by omega) (by omega) (by omega) (by omega), by unfold deL; omega, by unfold deL; omega⟩, ⟨fo_in hc' (by omega) (by omega) (by omega) (by omega) (by omega) (by omega), by unfold deH; omega, by unfold deH; omega⟩⟩
section
variable {H : (Nat → Value) → Prop} (hH : ∀ o, H o → HF (zo o))
include hH
theorem bL (o : Nat → Value) (h : H o) : bnd o rL ∧ valOf o rL = .agg [vi (qn (nuL (zo o)) (deL (zo o))), vi (qd (nuL (zo o)) (deL (zo o)))].toArray := by
  have f := hH o h
  have i := hf_in f
  have q := q_in (n := nuL (zo o)) (d := deL (zo o)) (by omega) (by omega)
  have a := f.a; have b := f.b
  refine ⟨?_, by rw [← a, ← b]; rfl⟩
  rw [← a, ← b] at q
  simp only [bnd, bnds, rL, iv, SX.eval, and_true]
  exact q
theorem bH (o : Nat → Value) (h : H o) : bnd o rH ∧ valOf o rH = .agg [vi (qn (nuH (zo o)) (deH (zo o))), vi (qd (nuH (zo o)) (deH (zo o)))].toArray := by
  have f := hH o h
  have i := hf_in f
  have q := q_in (n := nuH (zo o)) (d := deH (zo o)) (by omega) (by omega)
  have a := f.c; have b := f.d
  refine ⟨?_, by rw [← a, ← b]; rfl⟩
  rw [← a, ← b] at q
  simp only [bnd, bnds, rH, iv, SX.eval, and_true]
  exact q
theorem c99L : Con P Fence.wide H (k99 nL dL rL) := con_valW rfl rfl rfl rfl fun o h => ⟨fun w => by rw [(bL hH o h).2]; exact red99 (hf_in (hH o h)).1.1 (hf_in (hH o h)).1.2 w, (bL hH o h).1⟩
theorem c99H : Con P Fence.wide H (k99 nH dG rH) := con_valW rfl rfl rfl rfl fun o h => ⟨fun w => by rw [(bH hH o h).2]; exact red99 (hf_in (hH o h)).2.1 (hf_in (hH o h)).2.2 w, (bH hH o h).1⟩
theorem c63L : Con P Fence.wide H (k63 nL dL rL) := con_valW rfl rfl rfl rfl fun o h => ⟨fun w => by rw [(bL hH o h).2]; exact red63 (hf_in (hH o h)).1.1 (hf_in (hH o h)).1.2 w, (bL hH o h).1⟩
theorem c63H : Con P Fence.wide H (k63 nH dG rH) := con_valW rfl rfl rfl rfl fun o h => ⟨fun w => by rw [(bH hH o h).2]; exact red63 (hf_in (hH o h)).2.1 (hf_in (hH o h)).2.2 w, (bH hH o h).1⟩
theorem tC_ok {r : Int} (hq : Con P (Fence.there P) H (k18 r)) : ∀ k ∈ tC r, k.free = true ∧ Con P Fence.wide H k :=
  List.forall_mem_cons.2 ⟨⟨by decide +kernel, c99L hH⟩, List.forall_mem_cons.2 ⟨⟨by decide +kernel, c99H hH⟩, List.forall_mem_cons.2 ⟨⟨by decide +kernel, c63L hH⟩, List.forall_mem_cons.2 ⟨⟨by decide +kernel, c63H hH⟩,
    List.forall_mem_cons.2 ⟨⟨rfl, con_wide hq⟩, List.forall_mem_cons.2 ⟨⟨by decide +kernel, con_wide (k21_con H)⟩, List.forall_mem_nil _⟩⟩⟩⟩⟩⟩
end
def HC (G : Ctx) (o : Nat → Value) : Prop := G.holds o ∧ HF (zo o)
theorem dC0 : isRes (kYes 3 a18).res (runK P L false (tC 1) [] (gC0 (HC GQ0)) (kYes 3 a18)) = true := by decide +kernel
theorem cC0 : Con P Fence.wide (gC0 (HC GQ0)).holds (kYes 3 a18) := con_of_run (H := HC GQ0) fbW rfl (tC_ok (fun o h => h.2) (cQ0.mono (fun o h => h.1))) no_p (fun o h => h.extra) dC0
theorem dC1 : isRes (kYes 3 a18).res (runK P L false (tC 2) [] (gC1 (HC GQ1)) (kYes 3 a18)) = true := by decide +kernel
theorem cC1 : Con P Fence.wide (gC1 (HC GQ1)).holds (kYes 3 a18) := con_of_run (H := HC GQ1) fbW rfl (tC_ok (fun o h => h.2) (cQ1.mono (fun o h => h.1))) no_p (fun o h => h.extra) dC1
theorem dC2 : isRes (kYes 3 a18).res (runK P L false (tC 3) [] (gC2 (HC GQ2)) (kYes 3 a18)) = true := by decide +kernel
theorem cC2 : Con P Fence.wide (gC2 (HC GQ2)).holds (kYes 3 a18) := con_of_run (H := HC GQ2) fbW rfl (tC_ok (fun o h => h.2) (cQ2.mono (fun o h => h.1))) no_p (fun o h => h.extra) dC2
theorem dC3 : isRes (kYes 3 a18).res (runK P L false (tC 4) [] (gC3 (HC GQ3)) (kYes 3 a18)) = true := by decide +kernel
theorem cC3 : Con P Fence.wide (gC3 (HC GQ3)).holds (kYes 3 a18) := con_of_run (H := HC GQ3) fbW rfl (tC_ok (fun o h => h.2) (cQ3.mono (fun o h => h.1))) no_p (fun o h => h.extra) dC3
theorem dC4 : isRes (kYes 3 a18).res (runK P L false (tC 5) [] (gC4 (HC GQ4)) (kYes 3 a18)) = true := by decide +kernel
theorem cC4 : Con P Fence.wide (gC4 (HC GQ4)).holds (kYes 3 a18) := con_of_run (H := HC GQ4) fbW rfl (tC_ok (fun o h => h.2) (cQ4.mono (fun o h => h.1))) no_p (fun o h => h.extra) dC4
theorem d3_1 : isRes (kYes 3 [rawC, rawS]).res (runK P L true [kNo 54 rawC, kNo 19 rawC, k21] [] (gNo cavP) (kYes 3 [rawC, rawS])) = true := by decide +kernel
theorem c3_1 : Con P (Fence.there P) (gNo cavP).holds (kYes 3 [rawC, rawS]) := con_no (H := fun o => ¬ cavP (zo o)) (two_ok (by decide +kernel) (by decide +kernel) no54 no19) (fun o h => h.extra) d3_1
theorem d3_2 : isRes (kYes 3 [cavA, rawS]).res (runK P L true [kNo 55 rawS, kNo 20 rawS, k21] [] (gValid cavL (fun o => ¬ stP (zo o))) (kYes 3 [cavA, rawS])) = true := by decide +kernel
theorem c3_2 : Con P (Fence.there P) (gValid cavL (fun o => ¬ stP (zo o))).holds (kYes 3 [cavA, rawS]) := con_no (H := fun o => ¬ stP (zo o)) (two_ok (by decide +kernel) (by decide +kernel) no55 no20) (fun o h => h.extra) d3_2
end Go.Ev.Gas
end

