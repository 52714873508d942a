import Derived.Test.YtdpegcimhhegmaaLoopN
set_option linter.unusedVariables false
set_option linter.unusedSimpArgs false
set_option linter.unusedSectionVars false
noncomputable section
set_option maxRecDepth 1000000
set_option maxHeartbeats 0
namespace Go.Ev.Gas
open Go.RowKit Go.Ev.Num Go.Proofs
noncomputable def opP0 : AV plain := .agg [one 1, .sx (.bin 2 (.v 200) (.v 30)) 0 101000000, .sx (.bin 2 (.v 200) (.v 31)) 0 101000000, iv 32 2000 5000, .sx (.bin 2 (.v 200) (.v 33)) 0 101000000000, Z, Z, Z, Z, Z]
noncomputable def kGoP : KC := { f := 68, args := [cavA, stA, opP0], res := .ret (.tuple [stN, z6, .bool true]) }
noncomputable def kNoP : KC := { f := 68, args := [cavA, stA, opP0], res := .ret (.tuple [z8, z6, .bool false]) }
noncomputable def kPure : KC := { f := 57, args := [cavA, stN, .int .i64 4], res := .ret (.int .i64 1) }
noncomputable def kFoul : KC := { f := 57, args := [cavA, stN, .int .i64 4], res := .ret (iv 219 4 5) }
def Xp (q : (Nat → Int) → Prop) (y : Nat → Int) : Prop := ∃ z : Nat → Int, ∃ k : Int, cavP z ∧ stP z ∧ poiP z ∧ 0 ≤ k ∧ k ≤ 100 ∧ q (zl z k) ∧ y = nm z (zl z k) k
def foul (y : Nat → Int) : Prop := can y ∧ pureN (zs y) ≠ 1
theorem Xp.mono {q q' : (Nat → Int) → Prop} {o : Nat → Value} (h : ∀ y, q y → q' y) : (∃ y, NumZ y o ∧ Xp q y) → ∃ y, NumZ y o ∧ Xp q' y :=
  fun ⟨y, h1, z, k, hc, hs, hl, h2, h3, hq, hy⟩ => ⟨y, h1, z, k, hc, hs, hl, h2, h3, h _ hq, hy⟩
theorem cGoP : Con P (Fence.there P) (fun o => ∃ y, NumZ y o ∧ Xp can y) kGoP := con_num rfl rfl (by decide +kernel) (by decide +kernel) (by decide +kernel) (by decide +kernel) fun y ⟨z, k, hc, hs, hl, h0, h1, hq, hy⟩ => by
  subst hy
  have ho := op_lots hl (k := k) (by omega) (by omega)
  obtain ⟨hop, hB⟩ := (do_big (z := zl z k) hc hs (.inl ho)).1 hq
  have e2 : gon (zl z k) = zeros := by unfold gon; exact if_neg (show ¬ ((1 : Int) = 2) by omega)
  have := hB.1
  rw [e2] at this
  exact ⟨this, bnd_go (bnd_st (z := z) (k := k) (st_behind (y := zl z k) hc hs hop hq))⟩
theorem cNoP : Con P (Fence.there P) (fun o => ∃ y, NumZ y o ∧ Xp notCan y) kNoP := con_num rfl rfl (by decide +kernel) (by decide +kernel) (by decide +kernel) (by decide +kernel) fun y ⟨z, k, hc, hs, hl, h0, h1, hq, hy⟩ => by
  subst hy
  exact ⟨(do_big (z := zl z k) hc hs (.inl (op_lots hl (by omega) (by omega)))).2 hq, bnd_no _⟩
theorem cPure : Con P (Fence.there P) (fun o => ∃ y, NumZ y o ∧ Xp okP y) kPure := con_num rfl rfl (by decide +kernel) (by decide +kernel) (by decide +kernel) (by decide +kernel) fun y ⟨z, k, hc, hs, hl, h0, h1, hq, hy⟩ => by
  subst hy
  have hop := ((do_big (z := zl z k) hc hs (.inl (op_lots hl (by omega) (by omega)))).1 hq.1).1
  have := rule_thin (z := zs (zl z k)) hc (st_behind (y := zl z k) hc hs hop hq.1)
  rw [hq.2] at this
  exact ⟨this, by simp only [bnd]⟩
theorem cFoul : Con P (Fence.there P) (fun o => ∃ y, NumZ y o ∧ Xp foul y) kFoul := con_num rfl rfl (by decide +kernel) (by decide +kernel) (by decide +kernel) (by decide +kernel) fun y ⟨z, k, hc, hs, hl, h0, h1, hq, hy⟩ => by
  subst hy
  have hop := ((do_big (z := zl z k) hc hs (.inl (op_lots hl (by omega) (by omega)))).1 hq.1).1
  have := rule_thin (z := zs (zl z k)) hc (st_behind (y := zl z k) hc hs hop hq.1)
  exact ⟨this, pureN_bad hq.2⟩
noncomputable def kp : AV plain := .sx (.v 200) 0 101
noncomputable def kpn : AV plain := .sx (.bin 0 (.v 200) (.c 1)) 1 102
noncomputable def Gp (q : (Nat → Int) → Prop) : Ctx := ⟨[], [(.v 200, .c 101, true)], [], fun o => ∃ y, NumZ y o ∧ Xp q y⟩
noncomputable def Gpend : Ctx := ⟨[], [(.v 200, .c 101, false)], [], fun _ => True⟩
noncomputable def A_pu : List (AV plain) := [cavA, stA, .agg [iv 30 0 1000000, iv 31 0 1000000, iv 32 2000 5000, iv 33 0 1000000000]] ++ List.replicate 35 undefA
noncomputable def pre_pu : Option (Res plain) := run2 P L true [] [] plain (sre2 c83) (run2 P L true [] [] plain (sre1 c83) (run1 P L true [] [] plain A_pu 38 [] (pre0 c83)))
end Go.Ev.Gas
end

noncomputable section
set_option maxRecDepth 1000000
set_option maxHeartbeats 0
namespace Go.Ev.Gas
open Go.RowKit Go.Ev.Num Go.Proofs
noncomputable def K_pu : List (Nat × AV plain) := [(3, .ptr 0 0), (4, .ptr 1 0), (5, .ptr 2 0), (8, .func (.func 97) [] [.ptr 3 0])]
noncomputable def S_pu : List (Option (AV plain)) := slotsFrom (K_pu ++ [(15, kp)]) 38 0
noncomputable def rows_pu : List (List (AV plain)) := [[iv 0 1 1000000, iv 1 1 1000000, iv 2 0 100000, iv 3 0 100000, iv 4 500 2000, iv 5 500 2000, iv 6 1 100, iv 7 1 100, iv 8 2000 5000, iv 9 0 1000, iv 10 0 1000], [iv 11 0 1000000, iv 12 0 1000000, iv 13 0 1000000, iv 14 0 1000000, iv 15 2000 5000, iv 16 2000 5000, iv 17 0 1000000000, iv 18 0 1000000000], [iv 30 0 1000000, iv 31 0 1000000, iv 32 2000 5000, iv 33 0 1000000000], [iv 30 0 1000000, iv 31 0 1000000, iv 32 2000 5000, iv 33 0 1000000000]]
noncomputable def F_pu : List (AV plain) := nextL (frameOf pre_pu) S_pu 100000
theorem dPre_pu : pieceOk 38 .normal (K_pu ++ [(15, .int .i64 0)]) S_pu F_pu 100000 (numbered rows_pu 0) pre_pu = true := by decide +kernel
noncomputable def go_pu (F : List (AV plain)) : Option (Res (Gp foul)) := run1 P L true [kGoP, kFoul] [] (Gp foul) F 38 rows_pu (sround c83)
noncomputable def E_pu : List (AV plain) := nextL (frameOf (go_pu F_pu)) S_pu 100000
theorem dGoF_pu : pieceOk 38 .normal (K_pu ++ [(15, kpn)]) S_pu E_pu 100000 (numbered rows_pu 0) (go_pu F_pu) = true := by decide +kernel
theorem dGoE_pu : pieceOk 38 .normal (K_pu ++ [(15, kpn)]) S_pu E_pu 100000 (numbered rows_pu 0) (go_pu E_pu) = true := by decide +kernel
noncomputable def yes_pu (F : List (AV plain)) : Option (Res (Gp okP)) := run1 P L true [kGoP, kPure] [] (Gp okP) F 38 rows_pu (sround c83)
noncomputable def ByesF_pu : List (AV plain) := nextL (frameOf (yes_pu F_pu)) (slotsFrom [] 38 0) 100000
theorem dyesF_pu : pieceOk 38 .ret [(6, .sx (.v 200) 0 101), (7, .bool true)] (slotsFrom [] 38 0) ByesF_pu 100000 [] (yes_pu F_pu) = true := by decide +kernel
noncomputable def ByesE_pu : List (AV plain) := nextL (frameOf (yes_pu E_pu)) (slotsFrom [] 38 0) 100000
theorem dyesE_pu : pieceOk 38 .ret [(6, .sx (.v 200) 0 101), (7, .bool true)] (slotsFrom [] 38 0) ByesE_pu 100000 [] (yes_pu E_pu) = true := by decide +kernel
noncomputable def no_pu (F : List (AV plain)) : Option (Res (Gp notCan)) := run1 P L true [kNoP] [] (Gp notCan) F 38 rows_pu (sround c83)
noncomputable def end_pu (F : List (AV plain)) : Option (Res Gpend) := run1 P L true [] [] Gpend F 38 rows_pu (sround c83)
noncomputable def XnoF_pu : List (AV plain) := nextL (frameOf (no_pu F_pu)) S_pu 100000
theorem dnoF_pu : pieceOk 38 (.exit 0) (K_pu ++ [(15, kp)]) S_pu XnoF_pu 100000 (numbered rows_pu 0) (no_pu F_pu) = true := by decide +kernel
noncomputable def restnoF_pu : Option (Res plain) := run1 P L true [] [] plain XnoF_pu 38 rows_pu (srest c83)
noncomputable def YnoF_pu : List (AV plain) := nextL (frameOf restnoF_pu) (slotsFrom [] 38 0) 100000
theorem dRestnoF_pu : pieceOk 38 .ret [(6, .int .i64 0), (7, .bool false)] (slotsFrom [] 38 0) YnoF_pu 100000 [] restnoF_pu = true := by decide +kernel
noncomputable def XnoE_pu : List (AV plain) := nextL (frameOf (no_pu E_pu)) S_pu 100000
theorem dnoE_pu : pieceOk 38 (.exit 0) (K_pu ++ [(15, kp)]) S_pu XnoE_pu 100000 (numbered rows_pu 0) (no_pu E_pu) = true := by decide +kernel
noncomputable def restnoE_pu : Option (Res plain) := run1 P L true [] [] plain XnoE_pu 38 rows_pu (srest c83)
noncomputable def YnoE_pu : List (AV plain) := nextL (frameOf restnoE_pu) (slotsFrom [] 38 0) 100000
theorem dRestnoE_pu : pieceOk 38 .ret [(6, .int .i64 0), (7, .bool false)] (slotsFrom [] 38 0) YnoE_pu 100000 [] restnoE_pu = true := by decide +kernel
noncomputable def XendE_pu : List (AV plain) := nextL (frameOf (end_pu E_pu)) S_pu 100000
theorem dendE_pu : pieceOk 38 (.exit 0) (K_pu ++ [(15, kp)]) S_pu XendE_pu 100000 (numbered rows_pu 0) (end_pu E_pu) = true := by decide +kernel
noncomputable def restendE_pu : Option (Res plain) := run1 P L true [] [] plain XendE_pu 38 rows_pu (srest c83)
noncomputable def YendE_pu : List (AV plain) := nextL (frameOf restendE_pu) (slotsFrom [] 38 0) 100000
theorem dRestendE_pu : pieceOk 38 .ret [(6, .int .i64 0), (7, .bool false)] (slotsFrom [] 38 0) YendE_pu 100000 [] restendE_pu = true := by decide +kernel
theorem lens_pu : A_pu.length = 38 ∧ F_pu.length = 38 ∧ E_pu.length = 38 ∧ XnoF_pu.length = 38 ∧ XnoE_pu.length = 38 ∧ XendE_pu.length = 38 := ⟨by decide +kernel, by decide +kernel, by decide +kernel, by decide +kernel, by decide +kernel, by decide +kernel⟩
theorem fit_pu : rowsFit rows_pu.length 200 rows_pu = true ∧ kfit rows_pu.length 200 K_pu = true := ⟨by decide +kernel, by decide +kernel⟩
end Go.Ev.Gas
end

