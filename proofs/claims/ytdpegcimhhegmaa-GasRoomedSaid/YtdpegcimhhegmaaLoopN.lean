import Derived.Test.YtdpegcimhhegmaaLoopM
set_option linter.unusedVariables false
set_option linter.unusedSimpArgs false
set_option linter.unusedSectionVars false
section
namespace Go.Ev.Gas
open Go.RowKit Go.Ev.Num Go.Proofs
set_option maxRecDepth 100000
theorem nm_low (z y y' : Nat → Int) (k k' : Int) {j : Nat} (h : j < 200) : nm z y k j = nm z y' k' j := by
  unfold nm
  split <;> first | omega | rfl
/-- The greatest number up to which all is well. -/
def IsMost (zlY : (Nat → Int) → Int → Nat → Int) (z : Nat → Int) (m : Nat) : Prop := m ≤ 100 ∧ (∀ j : Nat, 1 ≤ j → j ≤ m → okL (zlY z j)) ∧ (m < 100 → ¬ okL (zlY z ((m : Int) + 1)))
theorem VRs.frame {e : Env plain} {l : List (AV plain)} {vs : Array Value} (h : VRs e l vs.toList) (k : Nat) : VRs e (l ++ List.replicate k undefA) (vs ++ Array.replicate k undef).toList := by
  rw [Array.toList_append, Array.toList_replicate]
  refine h.append ?_
  induction k with
  | zero => simp only [List.replicate_zero, VRs]
  | succ k ih => simp only [List.replicate_succ, VRs]; exact ⟨undef, _, rfl, by simp only [undefA, VR, VRs]; exact ⟨#[], rfl, rfl⟩, ih⟩

theorem loop_mi {z : Nat → Int} (hc : cavP z) (hs : stP z) (hl : poiP z) (g : Nat) (w : World) (n : Nat) (hg : g < w.heap.size) (h0 : w.cell? ⟨g, 0, none⟩ = some (.int .i64 (z 30))) (h1 : w.cell? ⟨g, 1, none⟩ = some (.int .i64 (z 31))) (h2 : w.cell? ⟨g, 2, none⟩ = some (.int .i64 (z 32))) (h3 : w.cell? ⟨g, 3, none⟩ = some (.int .i64 (z 33))) :
    CallsIn (Fence.there P) n P 79 #[cavV z, stV z, .func (.func 97) #[] #[.pointer (some ⟨g, 0, none⟩)]] w fun e w' => ∃ m : Nat, IsMost zl z m ∧ e = .returned (.int .i64 m) ∧ Below w.heap.size w w' := by
  let zz : Nat → Nat → Int := fun k => nm z (zl z ((k : Int) + 1)) k
  refine fn_loop (n := n) Try.func79 b79 (by simp [Fence.there]; decide +kernel) rfl
    (fun a w' => ∃ k : Nat, k ≤ 100 ∧ (∀ j : Nat, 1 ≤ j → j ≤ k → okL (zl z j)) ∧ a.tmps[11]? = some (.int .i64 k) ∧ ((k = 0 ∧ Stand (zz k) F_mi rows_mi w a w') ∨ Stand (zz k) E_mi rows_mi w a w'))
    (fun a _ => 100 - (intOf (a.tmps.getD 11 undef)).toNat)
    (fun a w' => (∀ j : Nat, 1 ≤ j → j ≤ 100 → okL (zl z j)) ∧ ∃ y, Stand y X_mi rows_mi w a w')
    (fun a w' => a.defers = [] ∧ Below w.heap.size w w' ∧ ∃ m : Nat, IsMost zl z m ∧ a.tmps[6]? = some (.int .i64 m)) ?_ ?_ ?_ ?_
  · intro Q hQ Q0
    refine piece_ok2 (G := plain) fbT no_k no_p (fun _ _ => trivial) lens_mi.1 dPre_mi (mix (zz 0) []) (mix_one _ (by simp)) (plain_holds _) [⟨g, 0, 0⟩] _ w n Q Q0 ?_ ?_ rfl (fun a' w' hL => hQ a' w' ?_)
    · refine ⟨rfl, fun i c p hc hp => ?_⟩
      obtain rfl : i = 0 := by have := (List.getElem?_eq_some_iff.1 hc).1; simp only [rin_mi, List.length_cons, List.length_nil] at this; omega
      simp only [rin_mi, List.getElem?_cons_zero, Option.some.injEq] at hc hp
      subst hc hp
      refine ⟨hg, fun j a ha => ?_⟩
      simp only [poiP] at hl
      match j, ha with
      | 0, ha => simp at ha; subst ha; exact ⟨_, h0, by simp only [VR, SX.eval, envP, mix_lo _ _ (show 30 < 100000 by omega), valI]; exact ⟨rfl, hl.1⟩⟩
      | 1, ha => simp at ha; subst ha; exact ⟨_, h1, by simp only [VR, SX.eval, envP, mix_lo _ _ (show 31 < 100000 by omega), valI]; exact ⟨rfl, hl.2.1⟩⟩
      | 2, ha => simp at ha; subst ha; exact ⟨_, h2, by simp only [VR, SX.eval, envP, mix_lo _ _ (show 32 < 100000 by omega), valI]; exact ⟨rfl, hl.2.2.1⟩⟩
      | 3, ha => simp at ha; subst ha; exact ⟨_, h3, by simp only [VR, SX.eval, envP, mix_lo _ _ (show 33 < 100000 by omega), valI]; exact ⟨rfl, hl.2.2.2⟩⟩
      | j + 4, ha => simp at ha
    · refine VRs.frame ?_ _
      exact vrs_cons (VR.fits (m := 0) (n := 100) (fun _ h => absurd h (by omega)) (fun j hj => (mix_lo _ _ (by omega)).symm) _ _ (by decide +kernel) (vr_cav (z := zz 0) hc)) (vrs_cons (VR.fits (m := 0) (n := 100) (fun _ h => absurd h (by omega)) (fun j hj => (mix_lo _ _ (by omega)).symm) _ _ (by decide +kernel) (vr_st (z := zz 0) hs)) (vrs_cons (by simp only [VR, VRs, envP]; exact ⟨#[], #[_], rfl, rfl, _, [], rfl, ⟨g, 0, rfl, rfl⟩, rfl⟩) vrs_nil))
    · obtain ⟨h1, h2⟩ := hL.next (w0 := w) (n := 200) (c := 200) (z' := zz 0) (Below.refl _ _) (by omega) (fun _ _ => rfl) fit_mi.1 fit_mi.2 (by omega) (by omega) (fun e he v hv => by simp only [VR] at hv; exact hv) (show (0 : Int) ≤ 0 by omega) (show (0 : Int) ≤ 100 by omega)
      exact ⟨0, by omega, fun j h3 h4 => by omega, h2, .inl ⟨rfl, h1⟩⟩
  · intro a w' ⟨k, hk, hok, h11, hst⟩
    have hval : intOf (a.tmps.getD 11 undef) = k := by rw [Array.getD_eq_getD_getElem?, h11]; rfl
    by_cases hk1 : k = 100
    · have hE : Stand (zz k) E_mi rows_mi w a w' := hst.elim (fun h => absurd h.1 (by omega)) id
      obtain ⟨l, hl', ps, hv, hp, hd, hB⟩ := hE
      have hg : Gend.holds (mix (zz k) l) := holds_of trivial ⟨(show (100 : Int) ≤ valI (mix (zz k) l 200) by rw [mix_lo _ _ (by omega)]; show (100 : Int) ≤ (k : Int); omega), trivial⟩ trivial trivial
      refine piece_ok (G := Gend) fbT no_k no_p (H := fun _ => True) (fun _ _ => trivial) lens_mi.2.2.1 dEnd_mi (mix (zz k) l) (mix_one _ hl') hg ps a w' n _ hp hv hd (fun a2 w2 hL => .inr (.inl ⟨rfl, fun j h1 h2 => hok j h1 (by omega), zz k, ?_⟩))
      exact (hL.next (w0 := w) (n := 200) (c := 200) (z' := zz k) hB (by omega) (fun _ _ => rfl) fit_mi.1 fit_mi.2 (by omega) (by omega) (fun e he v hv => by simp only [kk, VR] at hv; rw [hv.1]; simp only [SX.eval, he 200 (by omega), valI]) (show (0 : Int) ≤ k by omega) (show (k : Int) ≤ 100 by omega)).1
    · have hlt : ∀ l : List Value, LtsP (mix (zz k) l) [(.v 200, .c 100, true)] := fun l => ⟨(show valI (mix (zz k) l 200) < (100 : Int) by rw [mix_lo _ _ (by omega)]; show (k : Int) < (100 : Int); omega), trivial⟩
      have hx : ∀ (q : (Nat → Int) → Prop) (l : List Value), q (zl z ((k : Int) + 1)) → (Ggo q).holds (mix (zz k) l) := fun q l hq => holds_of trivial (hlt l) trivial ⟨zz k, fun j hj => mix_lo _ _ hj, z, k, hc, hs, hl, by omega, by omega, hq, rfl⟩
      by_cases hcan : can (zl z ((k : Int) + 1))
      · by_cases hsure : sureN (zs (zl z ((k : Int) + 1))) = 1
        · obtain ⟨F, hF, dF, l, hl', ps, hv, hp, hd, hB⟩ : ∃ F : List (AV plain), F.length = 35 ∧ pieceOk 35 .normal (K_mi ++ [(11, kn)]) S_mi E_mi 100000 (numbered rows_mi 0) (go_mi F) = true ∧ Stand (zz k) F rows_mi w a w' :=
            hst.elim (fun h => ⟨F_mi, lens_mi.2.1, dGoF_mi, h.2⟩) (fun h => ⟨E_mi, lens_mi.2.2.1, dGoE_mi, h⟩)
          · refine piece_ok (G := Ggo okL) (H := fun o => ∃ y, NumZ y o ∧ Xr okL y) fbT (List.forall_mem_cons.2 ⟨⟨by decide +kernel, cGo.mono fun o => Xr.mono fun _ h => h.1⟩, List.forall_mem_cons.2 ⟨⟨by decide +kernel, cFine⟩, List.forall_mem_nil _⟩⟩) no_p (fun o ho => ho.extra) hF dF (mix (zz k) l) (mix_one _ hl') (hx okL l ⟨hcan, hsure⟩) ps a w' n _ hp hv hd (fun a2 w2 hL => .inl ⟨rfl, ?_⟩)
            obtain ⟨h1, h2⟩ := hL.next (w0 := w) (n := 200) (c := 200) (z' := zz (k + 1)) hB (by omega) (fun j hj => nm_low z _ _ _ _ hj) fit_mi.1 fit_mi.2 (by omega) (by omega) (fun e he v hv => by simp only [kn, VR] at hv; rw [hv.1]; simp only [SX.eval, he 200 (by omega), valI]; rfl) (show (0 : Int) ≤ ((k + 1 : Nat) : Int) by omega) (show ((k + 1 : Nat) : Int) ≤ 100 by omega)
            refine ⟨⟨k + 1, by omega, fun j h3 h4 => ?_, h2, .inr h1⟩, ?_⟩
            · by_cases hj : j = k + 1
              · subst hj; exact (by push_cast; exact ⟨hcan, hsure⟩)
              · exact hok j h3 (by omega)
            · show 100 - (intOf (a2.tmps.getD 11 undef)).toNat < 100 - (intOf (a.tmps.getD 11 undef)).toNat
              rw [hval, Array.getD_eq_getD_getElem?, h2]
              show 100 - (((k + 1 : Nat) : Int)).toNat < 100 - ((k : Int)).toNat
              omega
        · obtain ⟨F, B, hF, dF, l, hl', ps, hv, hp, hd, hB⟩ : ∃ F B : List (AV plain), F.length = 35 ∧ pieceOk 35 .ret [(6, .sx (.v 200) 0 100)] (slotsFrom [] 35 0) B 100000 [] (bad_mi F) = true ∧ Stand (zz k) F rows_mi w a w' :=
            hst.elim (fun h => ⟨F_mi, _, lens_mi.2.1, dbadF_mi, h.2⟩) (fun h => ⟨E_mi, _, lens_mi.2.2.1, dbadE_mi, h⟩)
          · refine piece_ok (G := Ggo badL) (H := fun o => ∃ y, NumZ y o ∧ Xr badL y) fbT (List.forall_mem_cons.2 ⟨⟨by decide +kernel, cGo.mono fun o => Xr.mono fun _ h => h.1⟩, List.forall_mem_cons.2 ⟨⟨by decide +kernel, cBad⟩, List.forall_mem_nil _⟩⟩) no_p (fun o ho => ho.extra) hF dF (mix (zz k) l) (mix_one _ hl') (hx badL l ⟨hcan, hsure⟩) ps a w' n _ hp hv hd (fun a2 w2 hL => .inr (.inr ⟨rfl, hL.defers, hB.trans (hL.below.mono hB.size), k, ⟨hk, hok, fun _ h => hsure h.2⟩, ?_⟩))
            exact hL.has (u := .int .i64 k) (List.mem_singleton.2 rfl) (by omega) (fun e he v hv => by simp only [VR] at hv; rw [hv.1]; simp only [SX.eval, he 200 (by omega), valI]; rfl)
      · obtain ⟨F, B, hF, dF, l, hl', ps, hv, hp, hd, hB⟩ : ∃ F B : List (AV plain), F.length = 35 ∧ pieceOk 35 .ret [(6, .sx (.v 200) 0 100)] (slotsFrom [] 35 0) B 100000 [] (no_mi F) = true ∧ Stand (zz k) F rows_mi w a w' :=
          hst.elim (fun h => ⟨F_mi, _, lens_mi.2.1, dnoF_mi, h.2⟩) (fun h => ⟨E_mi, _, lens_mi.2.2.1, dnoE_mi, h⟩)
        · refine piece_ok (G := Ggo notCan) (H := fun o => ∃ y, NumZ y o ∧ Xr notCan y) fbT (List.forall_mem_cons.2 ⟨⟨by decide +kernel, cNoDo⟩, List.forall_mem_nil _⟩) no_p (fun o ho => ho.extra) hF dF (mix (zz k) l) (mix_one _ hl') (hx notCan l hcan) ps a w' n _ hp hv hd (fun a2 w2 hL => .inr (.inr ⟨rfl, hL.defers, hB.trans (hL.below.mono hB.size), k, ⟨hk, hok, fun _ h => hcan h.1⟩, ?_⟩))
          exact hL.has (u := .int .i64 k) (List.mem_singleton.2 rfl) (by omega) (fun e he v hv => by simp only [VR] at hv; rw [hv.1]; simp only [SX.eval, he 200 (by omega), valI]; rfl)
  · intro a w' ⟨hok, y, l, hl', ps, hv, hp, hd, hB⟩
    refine piece_ok (G := plain) fbT no_k no_p (H := fun _ => True) (fun _ _ => trivial) lens_mi.2.2.2 dRest_mi (mix y l) (mix_one _ hl') (plain_holds _) ps a w' n _ hp hv hd (fun a2 w2 hL => ⟨rfl, hL.defers, hB.trans (hL.below.mono hB.size), 100, ⟨by omega, hok, fun h => by omega⟩, ?_⟩)
    exact hL.has (u := .int .i64 100) (List.mem_singleton.2 rfl) (by omega) (fun e he v hv => by simp only [VR] at hv; exact hv)
  · intro a w' ⟨hd, hB, m, hm, hri⟩
    exact ⟨hd, _, results_t rfl hri w', m, hm, rfl, hB⟩
end Go.Ev.Gas
end

