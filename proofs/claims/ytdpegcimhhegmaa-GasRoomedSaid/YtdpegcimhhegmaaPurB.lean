import Derived.Test.YtdpegcimhhegmaaPurA
set_option linter.unusedVariables false
set_option linter.unusedSimpArgs false
set_option linter.unusedSectionVars false
section
namespace Go.Ev.Gas
open Go.RowKit Go.Ev.Num Go.Proofs
set_option maxRecDepth 100000
/-- So many lots purge the state. -/
def PurgeN (z : Nat → Int) (m : Nat) : Prop := m ≤ 100 ∧ okP (zl z m) ∧ ∀ j : Nat, j < m → foul (zl z j)
/-- None do. -/
def PurgeNo (z : Nat → Int) : Prop := (∃ m : Nat, m ≤ 100 ∧ notCan (zl z m) ∧ ∀ j : Nat, j < m → foul (zl z j)) ∨ ∀ j : Nat, j ≤ 100 → foul (zl z j)
theorem three_vr {z : Nat → Int} {a b c : AV plain} {u v w : Value} {e : Env plain} (h1 : VR e a u) (h2 : VR e b v) (h3 : VR e c w) : VRs e [a, b, c] (#[u, v, w] : Array Value).toList :=
  vrs_cons h1 (vrs_cons h2 (vrs_cons h3 vrs_nil))
theorem to_mix {z : Nat → Int} {l : List Value} {hl} {ps : List Plc} {a : AV plain} {v : Value} (hf : fits 0 100 a = true) (h : VR (envZ z) a v) : VR (envP (mix z l) hl ps) a v :=
  VR.fits (m := 0) (n := 100) (fun _ h => absurd h (by omega)) (fun j hj => (mix_lo _ _ (by omega)).symm) _ _ hf h
theorem vr_po {z : Nat → Int} (hl : poiP z) : VR (envZ z) (.agg [iv 30 0 1000000, iv 31 0 1000000, iv 32 2000 5000, iv 33 0 1000000000]) (poV z) := by
  simp only [poiP] at hl
  exact vr_agg (vrs_cons (vr_iv z (by omega) (by omega)) (vrs_cons (vr_iv z (by omega) (by omega)) (vrs_cons (vr_iv z (by omega) (by omega)) (vrs_cons (vr_iv z (by omega) (by omega)) vrs_nil))))
theorem loop_pu {z : Nat → Int} (hc : cavP z) (hs : stP z) (hl : poiP z) (w : World) (n : Nat) :
    CallsIn (Fence.there P) n P 83 #[cavV z, stV z, poV z] w fun e w' => ((∃ m : Nat, PurgeN z m ∧ e = .returned (.tuple #[.int .i64 m, .bool true])) ∨ (PurgeNo z ∧ e = .returned (.tuple #[.int .i64 0, .bool false]))) ∧ Below w.heap.size w w' := by
  let zz : Nat → Nat → Int := fun k => nm z (zl z (k : Int)) k
  refine fn_loopS (n := n) Try.func83 b83 (by simp [Fence.there]; decide +kernel) rfl
    (fun a w' => ∃ k : Nat, k ≤ 101 ∧ (∀ j : Nat, j < k → foul (zl z j)) ∧ a.tmps[15]? = some (.int .i64 k) ∧ ((k = 0 ∧ Stand (zz k) F_pu rows_pu w a w') ∨ Stand (zz k) E_pu rows_pu w a w'))
    (fun a _ => 101 - (intOf (a.tmps.getD 15 undef)).toNat)
    (fun a w' => PurgeNo z ∧ ∃ y, Stand y XnoF_pu rows_pu w a w' ∨ Stand y XnoE_pu rows_pu w a w' ∨ Stand y XendE_pu rows_pu w a w')
    (fun a w' => a.defers = [] ∧ Below w.heap.size w w' ∧ ((∃ m : Nat, PurgeN z m ∧ a.tmps[6]? = some (.int .i64 m) ∧ a.tmps[7]? = some (.bool true)) ∨ (PurgeNo z ∧ a.tmps[6]? = some (.int .i64 0) ∧ a.tmps[7]? = some (.bool false)))) ?_ ?_ ?_ ?_
  · intro Q hQ Q0 Q01
    refine piece_ok3 (G := plain) (H := fun _ => True) fbT no_k no_p (fun _ _ => trivial) lens_pu.1 dPre_pu (mix (zz 0) []) (mix_one _ (by simp)) (plain_holds _) [] _ w n Q Q0 Q01 ?_ ?_ rfl (fun a' w' hL => hQ a' w' ?_)
    · exact ⟨rfl, fun i c p hc hp => by simp at hc⟩
    · refine VRs.frame ?_ _
      exact vrs_cons (to_mix (z := zz 0) (by decide +kernel) (vr_cav (z := zz 0) hc)) (vrs_cons (to_mix (z := zz 0) (by decide +kernel) (vr_st (z := zz 0) hs)) (vrs_cons (to_mix (z := zz 0) (by decide +kernel) (vr_po (z := zz 0) hl)) vrs_nil))
    · obtain ⟨h1, h2⟩ := hL.next (w0 := w) (n := 200) (c := 200) (z' := zz 0) (Below.refl _ _) (by omega) (fun _ _ => rfl) fit_pu.1 fit_pu.2 (by omega) (by omega) (fun e he v hv => by simp only [VR] at hv; exact hv) (show (0 : Int) ≤ 0 by omega) (show (0 : Int) ≤ 101 by omega)
      exact ⟨0, by omega, fun j h3 => by omega, h2, .inl ⟨rfl, h1⟩⟩
  · intro a w' ⟨k, hk, hok, h11, hst⟩
    have hval : intOf (a.tmps.getD 15 undef) = k := by rw [Array.getD_eq_getD_getElem?, h11]; rfl
    have kept : ∀ e : Env plain, (∀ j, j < 100000 → e.opq j = .int .i64 (zz k j)) → ∀ v, VR e kp v → v = .int .i64 (zz k 200) := fun e he v hv => by simp only [kp, VR] at hv; rw [hv.1]; simp only [SX.eval, he 200 (by omega), valI]
    by_cases hk1 : k = 101
    · have hE : Stand (zz k) E_pu rows_pu w a w' := hst.elim (fun h => absurd h.1 (by omega)) id
      obtain ⟨l, hl', ps, hv, hp, hd, hB⟩ := hE
      have hg : Gpend.holds (mix (zz k) l) := holds_of trivial ⟨(show (101 : Int) ≤ valI (mix (zz k) l 200) by rw [mix_lo _ _ (by omega)]; show (101 : Int) ≤ (k : Int); omega), trivial⟩ trivial trivial
      refine piece_ok (G := Gpend) fbT no_k no_p (H := fun _ => True) (fun _ _ => trivial) lens_pu.2.2.1 dendE_pu (mix (zz k) l) (mix_one _ hl') hg ps a w' n _ hp hv hd (fun a2 w2 hL => .inr (.inl ⟨rfl, .inr fun j h1 => hok j (by omega), zz k, .inr (.inr ?_)⟩))
      exact (hL.next (w0 := w) (n := 200) (c := 200) (z' := zz k) hB (by omega) (fun _ _ => rfl) fit_pu.1 fit_pu.2 (by omega) (by omega) kept (show (0 : Int) ≤ k by omega) (show (k : Int) ≤ 101 by omega)).1
    · have hlt : ∀ l : List Value, LtsP (mix (zz k) l) [(.v 200, .c 101, true)] := fun l => ⟨(show valI (mix (zz k) l 200) < (101 : Int) by rw [mix_lo _ _ (by omega)]; show (k : Int) < (101 : Int); omega), trivial⟩
      have hx : ∀ (q : (Nat → Int) → Prop) (l : List Value), q (zl z (k : Int)) → (Gp q).holds (mix (zz k) l) := fun q l hq => holds_of trivial (hlt l) trivial ⟨zz k, fun j hj => mix_lo _ _ hj, z, k, hc, hs, hl, by omega, by omega, hq, rfl⟩
      by_cases hcan : can (zl z (k : Int))
      · by_cases hsure : pureN (zs (zl z (k : Int))) = 1
        · obtain ⟨F, B, hF, dF, l, hl', ps, hv, hp, hd, hB⟩ : ∃ F B : List (AV plain), F.length = 38 ∧ pieceOk 38 .ret [(6, .sx (.v 200) 0 101), (7, .bool true)] (slotsFrom [] 38 0) B 100000 [] (yes_pu F) = true ∧ Stand (zz k) F rows_pu w a w' :=
            hst.elim (fun h => ⟨F_pu, _, lens_pu.2.1, dyesF_pu, h.2⟩) (fun h => ⟨E_pu, _, lens_pu.2.2.1, dyesE_pu, h⟩)
          refine piece_ok (G := Gp okP) (H := fun o => ∃ y, NumZ y o ∧ Xp okP y) fbT (List.forall_mem_cons.2 ⟨⟨by decide +kernel, cGoP.mono fun o => Xp.mono fun _ h => h.1⟩, List.forall_mem_cons.2 ⟨⟨by decide +kernel, cPure⟩, List.forall_mem_nil _⟩⟩) no_p (fun o ho => ho.extra) hF dF (mix (zz k) l) (mix_one _ hl') (hx okP l ⟨hcan, hsure⟩) ps a w' n _ hp hv hd (fun a2 w2 hL => .inr (.inr ⟨rfl, hL.defers, hB.trans (hL.below.mono hB.size), .inl ⟨k, ⟨by omega, ⟨hcan, hsure⟩, hok⟩, ?_, ?_⟩⟩))
          · exact hL.has (u := .int .i64 k) (List.mem_cons_self ..) (by omega) (fun e he v hv => by simp only [VR] at hv; rw [hv.1]; simp only [SX.eval, he 200 (by omega), valI]; rfl)
          · exact hL.has (u := .bool true) (List.mem_cons_of_mem _ (List.mem_singleton.2 rfl)) (by omega) (fun e he v hv => by simp only [VR] at hv; exact hv)
        · obtain ⟨F, hF, dF, l, hl', ps, hv, hp, hd, hB⟩ : ∃ F : List (AV plain), F.length = 38 ∧ pieceOk 38 .normal (K_pu ++ [(15, kpn)]) S_pu E_pu 100000 (numbered rows_pu 0) (go_pu F) = true ∧ Stand (zz k) F rows_pu w a w' :=
            hst.elim (fun h => ⟨F_pu, lens_pu.2.1, dGoF_pu, h.2⟩) (fun h => ⟨E_pu, lens_pu.2.2.1, dGoE_pu, h⟩)
          refine piece_ok (G := Gp foul) (H := fun o => ∃ y, NumZ y o ∧ Xp foul y) fbT (List.forall_mem_cons.2 ⟨⟨by decide +kernel, cGoP.mono fun o => Xp.mono fun _ h => h.1⟩, List.forall_mem_cons.2 ⟨⟨by decide +kernel, cFoul⟩, List.forall_mem_nil _⟩⟩) no_p (fun o ho => ho.extra) hF dF (mix (zz k) l) (mix_one _ hl') (hx foul l ⟨hcan, hsure⟩) ps a w' n _ hp hv hd (fun a2 w2 hL => .inl ⟨rfl, ?_⟩)
          obtain ⟨h1, h2⟩ := hL.next (w0 := w) (n := 200) (c := 200) (z' := zz (k + 1)) hB (by omega) (fun j hj => nm_low z _ _ _ _ hj) fit_pu.1 fit_pu.2 (by omega) (by omega) (fun e he v hv => by simp only [kpn, VR] at hv; rw [hv.1]; simp only [SX.eval, he 200 (by omega), valI]; rfl) (show (0 : Int) ≤ ((k + 1 : Nat) : Int) by omega) (show ((k + 1 : Nat) : Int) ≤ 101 by omega)
          refine ⟨⟨k + 1, by omega, fun j h3 => ?_, h2, .inr h1⟩, ?_⟩
          · by_cases hj : j = k
            · subst hj; exact ⟨hcan, hsure⟩
            · exact hok j (by omega)
          · show 101 - (intOf (a2.tmps.getD 15 undef)).toNat < 101 - (intOf (a.tmps.getD 15 undef)).toNat
            rw [hval, Array.getD_eq_getD_getElem?, h2]
            show 101 - (((k + 1 : Nat) : Int)).toNat < 101 - ((k : Int)).toNat
            omega
      · have hPN : PurgeNo z := .inl ⟨k, by omega, hcan, hok⟩
        rcases hst with ⟨_, l, hl', ps, hv, hp, hd, hB⟩ | ⟨l, hl', ps, hv, hp, hd, hB⟩
        · refine piece_ok (G := Gp notCan) (H := fun o => ∃ y, NumZ y o ∧ Xp notCan y) fbT (List.forall_mem_cons.2 ⟨⟨by decide +kernel, cNoP⟩, List.forall_mem_nil _⟩) no_p (fun o ho => ho.extra) lens_pu.2.1 dnoF_pu (mix (zz k) l) (mix_one _ hl') (hx notCan l hcan) ps a w' n _ hp hv hd (fun a2 w2 hL => .inr (.inl ⟨rfl, hPN, zz k, .inl ?_⟩))
          exact (hL.next (w0 := w) (n := 200) (c := 200) (z' := zz k) hB (by omega) (fun _ _ => rfl) fit_pu.1 fit_pu.2 (by omega) (by omega) kept (show (0 : Int) ≤ k by omega) (show (k : Int) ≤ 101 by omega)).1
        · refine piece_ok (G := Gp notCan) (H := fun o => ∃ y, NumZ y o ∧ Xp notCan y) fbT (List.forall_mem_cons.2 ⟨⟨by decide +kernel, cNoP⟩, List.forall_mem_nil _⟩) no_p (fun o ho => ho.extra) lens_pu.2.2.1 dnoE_pu (mix (zz k) l) (mix_one _ hl') (hx notCan l hcan) ps a w' n _ hp hv hd (fun a2 w2 hL => .inr (.inl ⟨rfl, hPN, zz k, .inr (.inl ?_)⟩))
          exact (hL.next (w0 := w) (n := 200) (c := 200) (z' := zz k) hB (by omega) (fun _ _ => rfl) fit_pu.1 fit_pu.2 (by omega) (by omega) kept (show (0 : Int) ≤ k by omega) (show (k : Int) ≤ 101 by omega)).1
  · intro a w' ⟨hPN, y, hst⟩
    obtain ⟨X, B, r, hX, dX, l, hl', ps, hv, hp, hd, hB⟩ : ∃ (X B : List (AV plain)) (r : Unit), X.length = 38 ∧ pieceOk 38 .ret [(6, .int .i64 0), (7, .bool false)] (slotsFrom [] 38 0) B 100000 [] (run1 P L true [] [] plain X 38 rows_pu (srest c83)) = true ∧ Stand y X rows_pu w a w' := by
      rcases hst with h | h | h
      · exact ⟨_, _, (), lens_pu.2.2.2.1, dRestnoF_pu, h⟩
      · exact ⟨_, _, (), lens_pu.2.2.2.2.1, dRestnoE_pu, h⟩
      · exact ⟨_, _, (), lens_pu.2.2.2.2.2, dRestendE_pu, h⟩
    refine piece_ok (G := plain) fbT no_k no_p (H := fun _ => True) (fun _ _ => trivial) hX dX (mix y l) (mix_one _ hl') (plain_holds _) ps a w' n _ hp hv hd (fun a2 w2 hL => ⟨rfl, hL.defers, hB.trans (hL.below.mono hB.size), .inr ⟨hPN, ?_, ?_⟩⟩)
    · exact hL.has (u := .int .i64 0) (List.mem_cons_self ..) (by omega) (fun e he v hv => by simp only [VR] at hv; exact hv)
    · exact hL.has (u := .bool false) (List.mem_cons_of_mem _ (List.mem_singleton.2 rfl)) (by omega) (fun e he v hv => by simp only [VR] at hv; exact hv)
  · intro a w' ⟨hd, hB, h⟩
    rcases h with ⟨m, hm, h6, h7⟩ | ⟨hn, h6, h7⟩
    · exact ⟨hd, _, results_t2 rfl h6 h7 w', .inl ⟨m, hm, rfl⟩, hB⟩
    · exact ⟨hd, _, results_t2 rfl h6 h7 w', .inr ⟨hn, rfl⟩, hB⟩
end Go.Ev.Gas
end

