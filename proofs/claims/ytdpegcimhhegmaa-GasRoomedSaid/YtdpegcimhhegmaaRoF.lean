import Derived.Test.YtdpegcimhhegmaaRoB
import Derived.Test.YtdpegcimhhegmaaRoC
set_option linter.unusedVariables false
set_option linter.unusedSimpArgs false
set_option linter.unusedSectionVars false
section
namespace Go.Ev.Gas
open Go.RowKit Go.Ev.Num Go.Proofs
set_option maxRecDepth 100000
theorem loop_mw {z : Nat → Int} (hc : cavP z) (hs : stP z) (ha : Arg false z) (g : Nat) (w : World) (n : Nat) (hg : g < w.heap.size) (h0 : w.cell? ⟨g, 0, none⟩ = some (.int .i64 (z 34))) :
    CallsIn (Fence.there P) n P 79 #[cavV z, stV z, .func (.func 98) #[] #[.pointer (some ⟨g, 0, none⟩)]] w fun e w' => ∃ m : Nat, IsMost (Yo false) z m ∧ e = .returned (.int .i64 m) ∧ Below w.heap.size w w' := by
  have jk : ∀ k : Nat, ∃ a : Nat → Int, (k : Int) + 1 ≤ 100 → junk (Yo false z ((k : Int) + 1)) a := fun k => by
    by_cases h : (k : Int) + 1 ≤ 100
    · obtain ⟨a, h2⟩ := junk_is (u := false) (k := (k : Int) + 1) hc hs ha (by omega) h
      exact ⟨a, fun _ => h2⟩
    · exact ⟨fun _ => 0, fun h' => absurd h' h⟩
  obtain ⟨aa, hj⟩ : ∃ aa : Nat → Nat → Int, ∀ k : Nat, (k : Int) + 1 ≤ 100 → junk (Yo false z ((k : Int) + 1)) (aa k) := ⟨fun k => Classical.choose (jk k), fun k => Classical.choose_spec (jk k)⟩
  let zz : Nat → Nat → Int := fun k => nw z (Yo false z ((k : Int) + 1)) (aa k) k
  refine fn_loop (n := n) Try.func79 b79 (by simp [Fence.there]; decide +kernel) rfl
    (fun a w' => ∃ k : Nat, 0 ≤ k ∧ k ≤ 100 ∧ (∀ j : Nat, 1 ≤ j → j + 1 ≤ k + 1 → okL (Yo false z j)) ∧ a.tmps[11]? = some (.int .i64 k) ∧ ((k = 0 ∧ Stand (zz k) F_mw rows_mw w a w') ∨ Stand (zz k) E_mw rows_mw w a w'))
    (fun a _ => 100 - (intOf (a.tmps.getD 11 undef)).toNat)
    (fun a w' => (∀ j : Nat, 1 ≤ j → j ≤ 100 → okL (Yo false z j)) ∧ ∃ y, Stand y X_mw rows_mw w a w')
    (fun a w' => a.defers = [] ∧ Below w.heap.size w w' ∧ ∃ m : Nat, IsMost (Yo false) z m ∧ a.tmps[6]? = some (.int .i64 m)) ?_ ?_ ?_ ?_
  · intro Q hQ Q0
    refine piece_ok2 (G := plain) (H := fun _ => True) fbT no_k no_p (fun _ _ => trivial) lens_mw.1 dPre_mw (mix (zz 0) []) (mix_one _ (by simp)) (plain_holds _) [⟨g, 0, 0⟩] _ w n Q Q0 ?_ ?_ rfl (fun a' w' hL => hQ a' w' ?_)
    · refine ⟨rfl, fun i c p hc hp => ?_⟩
      obtain rfl : i = 0 := by have := (List.getElem?_eq_some_iff.1 hc).1; simp only [rin_mw, List.length_cons, List.length_nil] at this; omega
      simp only [rin_mw, List.getElem?_cons_zero, Option.some.injEq] at hc hp
      subst hc hp
      refine ⟨hg, fun j a ha' => ?_⟩
      have hu : unP z := ha
      simp only [unP] at hu
      match j, ha' with
      | 0, ha' => simp at ha'; subst ha'; exact ⟨_, h0, by simp only [VR, SX.eval, envP, mix_lo _ _ (show 34 < 100000 by omega), valI]; exact ⟨rfl, hu⟩⟩
      | j + 1, ha' => simp at ha'
    · refine VRs.frame ?_ _
      exact vrs_cons (to_mix (z := zz 0) (by decide +kernel) (vr_cav (z := zz 0) hc)) (vrs_cons (to_mix (z := zz 0) (by decide +kernel) (vr_st (z := zz 0) hs)) (vrs_cons (by simp only [VR, VRs, envP]; exact ⟨#[], #[_], rfl, rfl, _, [], rfl, ⟨g, 0, rfl, rfl⟩, rfl⟩) vrs_nil))
    · obtain ⟨h1, h2⟩ := hL.next (w0 := w) (n := 200) (c := 200) (z' := zz 0) (Below.refl _ _) (by omega) (fun _ _ => rfl) fit_mw.1 fit_mw.2 (by omega) (by omega) (fun e he v hv => by simp only [VR] at hv; exact hv) (show (0 : Int) ≤ 0 by omega) (show (0 : Int) ≤ 100 by omega)
      exact ⟨0, by omega, by omega, fun j h3 h4 => by omega, h2, .inl ⟨rfl, h1⟩⟩
  · intro a w' ⟨k, hk0, hk, hok, h11, hst⟩
    have hval : intOf (a.tmps.getD 11 undef) = k := by rw [Array.getD_eq_getD_getElem?, h11]; rfl
    have kept : ∀ e : Env plain, (∀ j, j < 100000 → e.opq j = .int .i64 (zz k j)) → ∀ v, VR e kc_mw v → v = .int .i64 (zz k 200) := fun e he v hv => by simp only [kc_mw, VR] at hv; rw [hv.1]; simp only [SX.eval, he 200 (by omega), valI]
    have v200 : ∀ l : List Value, valI (mix (zz k) l 200) = k := fun l => by rw [mix_lo _ _ (by omega)]; rfl
    by_cases hk1 : k = 100
    · have hE : Stand (zz k) E_mw rows_mw w a w' := hst.elim (fun h => absurd h.1 (by omega)) id
      obtain ⟨l, hl', ps, hv, hp, hd, hB⟩ := hE
      have hg : Re_mw.holds (mix (zz k) l) := holds_of trivial ⟨(show (100 : Int) ≤ valI (mix (zz k) l 200) by rw [v200]; omega), trivial⟩ trivial trivial
      refine piece_ok (G := Re_mw) fbT no_k no_p (H := fun _ => True) (fun _ _ => trivial) lens_mw.2.2.1 dEnd_mw (mix (zz k) l) (mix_one _ hl') hg ps a w' n _ hp hv hd (fun a2 w2 hL => .inr (.inl ⟨rfl, fun j h1 h2 => hok j h1 (by omega), zz k, ?_⟩))
      exact (hL.next (w0 := w) (n := 200) (c := 200) (z' := zz k) hB (by omega) (fun _ _ => rfl) fit_mw.1 fit_mw.2 (by omega) (by omega) kept (show (0 : Int) ≤ k by omega) (show (k : Int) ≤ 100 by omega)).1
    · have hlt : ∀ l : List Value, LtsP (mix (zz k) l) [(.v 200, .c 100, true)] := fun l => ⟨(show valI (mix (zz k) l 200) < (100 : Int) by rw [v200]; omega), trivial⟩
      have hx : ∀ (q : (Nat → Int) → Prop) (l : List Value), q (Yo false z ((k : Int) + 1)) → (Rg_mw q).holds (mix (zz k) l) := fun q l hq => holds_of trivial (hlt l) trivial ⟨zz k, fun j hj => mix_lo _ _ hj, z, aa k, k, hc, hs, ha, by omega, by omega, hq, hj k (by omega), rfl⟩
      by_cases hcan : can (Yo false z ((k : Int) + 1))
      · by_cases hsure : sureN (zs (Yo false z ((k : Int) + 1))) = 1
        · obtain ⟨F, hF, dF, l, hl', ps, hv, hp, hd, hB⟩ : ∃ F : List (AV plain), F.length = 35 ∧ pieceOk 35 .normal (K_mw ++ [(11, kn_mw)]) S_mw E_mw 100000 (numbered rows_mw 0) (go_mw F) = true ∧ Stand (zz k) F rows_mw w a w' :=
            hst.elim (fun h => ⟨F_mw, lens_mw.2.1, dGoF_mw, h.2⟩) (fun h => ⟨E_mw, lens_mw.2.2.1, dGoE_mw, h⟩)
          refine piece_ok (G := Rg_mw okL) (H := fun o => ∃ y, NumZ y o ∧ Rd false 1 okL y) fbT (List.forall_mem_cons.2 ⟨⟨by decide +kernel, cGo_U1.mono fun o => Rd.mono fun _ h => h.1⟩, List.forall_mem_cons.2 ⟨⟨by decide +kernel, cFine_U1⟩, List.forall_mem_nil _⟩⟩) no_p (fun o ho => ho.extra) hF dF (mix (zz k) l) (mix_one _ hl') (hx okL l ⟨hcan, hsure⟩) ps a w' n _ hp hv hd (fun a2 w2 hL => .inl ⟨rfl, ?_⟩)
          obtain ⟨h1, h2⟩ := hL.next (w0 := w) (n := 200) (c := 200) (z' := zz (k + 1)) hB (by omega) (fun j hj => nw_low z _ _ _ _ _ _ hj) fit_mw.1 fit_mw.2 (by omega) (by omega) (fun e he v hv => by simp only [kn_mw, VR] at hv; rw [hv.1]; simp only [SX.eval, he 200 (by omega), valI]; rfl) (show (0 : Int) ≤ ((k + 1 : Nat) : Int) by omega) (show ((k + 1 : Nat) : Int) ≤ 100 by omega)
          refine ⟨⟨k + 1, by omega, by omega, fun j h3 h4 => ?_, h2, .inr h1⟩, ?_⟩
          · by_cases hj2 : j = k + 1
            · subst hj2; exact (by push_cast; exact ⟨hcan, hsure⟩)
            · exact hok j h3 (by omega)
          · show 100 - (intOf (a2.tmps.getD 11 undef)).toNat < 100 - (intOf (a.tmps.getD 11 undef)).toNat
            rw [hval, Array.getD_eq_getD_getElem?, h2]
            show 100 - (((k + 1 : Nat) : Int)).toNat < 100 - ((k : Int)).toNat
            omega
        · obtain ⟨F, B, hF, dF, l, hl', ps, hv, hp, hd, hB⟩ : ∃ F B : List (AV plain), F.length = 35 ∧ pieceOk 35 .ret [(6, .sx (.v 200) 0 100)] (slotsFrom [] 35 0) B 100000 [] (bad_mw F) = true ∧ Stand (zz k) F rows_mw w a w' :=
            hst.elim (fun h => ⟨F_mw, _, lens_mw.2.1, dbadF_mw, h.2⟩) (fun h => ⟨E_mw, _, lens_mw.2.2.1, dbadE_mw, h⟩)
          refine piece_ok (G := Rg_mw badL) (H := fun o => ∃ y, NumZ y o ∧ Rd false 1 badL y) fbT (List.forall_mem_cons.2 ⟨⟨by decide +kernel, cGo_U1.mono fun o => Rd.mono fun _ h => h.1⟩, List.forall_mem_cons.2 ⟨⟨by decide +kernel, cBad_U1⟩, List.forall_mem_nil _⟩⟩) no_p (fun o ho => ho.extra) hF dF (mix (zz k) l) (mix_one _ hl') (hx badL l ⟨hcan, hsure⟩) ps a w' n _ hp hv hd (fun a2 w2 hL => .inr (.inr ⟨rfl, hL.defers, hB.trans (hL.below.mono hB.size), k, ⟨by omega, fun j h1 h2 => hok j h1 (by omega), fun _ h => hsure (by have := h.2; exact this)⟩, ?_⟩))
          exact hL.has (u := .int .i64 (k : Nat)) (List.mem_singleton.2 rfl) (by omega) (fun e he v hv => by simp only [VR] at hv; rw [hv.1]; simp only [SX.eval, he 200 (by omega), valI]; rfl)
      · obtain ⟨F, B, hF, dF, l, hl', ps, hv, hp, hd, hB⟩ : ∃ F B : List (AV plain), F.length = 35 ∧ pieceOk 35 .ret [(6, .sx (.v 200) 0 100)] (slotsFrom [] 35 0) B 100000 [] (no_mw F) = true ∧ Stand (zz k) F rows_mw w a w' :=
          hst.elim (fun h => ⟨F_mw, _, lens_mw.2.1, dnoF_mw, h.2⟩) (fun h => ⟨E_mw, _, lens_mw.2.2.1, dnoE_mw, h⟩)
        refine piece_ok (G := Rg_mw notCan) (H := fun o => ∃ y, NumZ y o ∧ Rd false 1 notCan y) fbT (List.forall_mem_cons.2 ⟨⟨by decide +kernel, cNo_U1⟩, List.forall_mem_nil _⟩) no_p (fun o ho => ho.extra) hF dF (mix (zz k) l) (mix_one _ hl') (hx notCan l hcan) ps a w' n _ hp hv hd (fun a2 w2 hL => .inr (.inr ⟨rfl, hL.defers, hB.trans (hL.below.mono hB.size), k, ⟨by omega, fun j h1 h2 => hok j h1 (by omega), fun _ h => hcan (by have := h.1; exact this)⟩, ?_⟩))
        exact hL.has (u := .int .i64 (k : Nat)) (List.mem_singleton.2 rfl) (by omega) (fun e he v hv => by simp only [VR] at hv; rw [hv.1]; simp only [SX.eval, he 200 (by omega), valI]; rfl)
  · intro a w' ⟨hok, y, l, hl', ps, hv, hp, hd, hB⟩
    refine piece_ok (G := plain) fbT no_k no_p (H := fun _ => True) (fun _ _ => trivial) lens_mw.2.2.2 dRest_mw (mix y l) (mix_one _ hl') (plain_holds _) ps a w' n _ hp hv hd (fun a2 w2 hL => ⟨rfl, hL.defers, hB.trans (hL.below.mono hB.size), 100, ⟨by omega, hok, fun h => by omega⟩, ?_⟩)
    exact hL.has (u := .int .i64 100) (List.mem_singleton.2 rfl) (by omega) (fun e he v hv => by simp only [VR] at hv; exact hv)
  · intro a w' ⟨hd, hB, m, hm, hri⟩
    exact ⟨hd, _, results_t rfl hri w', m, hm, rfl, hB⟩
end Go.Ev.Gas
end

section
namespace Go.Ev.Gas
open Go.RowKit Go.Ev.Num Go.Proofs
set_option maxRecDepth 100000
theorem loop_rr {z : Nat → Int} (hc : cavP z) (hs : stP z) (ha : Arg true z)  (w : World) (n : Nat)  :
    CallsIn (Fence.there P) n P 46 #[cavV z, stV z, poV z] w fun e w' => ∃ m : Nat, IsMost (Yo true) z m ∧ e = .returned (.int .i64 m) ∧ Below w.heap.size w w' := by
  have jk : ∀ k : Nat, ∃ a : Nat → Int, (k : Int) + 0 ≤ 100 → junk (Yo true z ((k : Int) + 0)) a := fun k => by
    by_cases h : (k : Int) + 0 ≤ 100
    · obtain ⟨a, h2⟩ := junk_is (u := true) (k := (k : Int) + 0) hc hs ha (by omega) h
      exact ⟨a, fun _ => h2⟩
    · exact ⟨fun _ => 0, fun h' => absurd h' h⟩
  obtain ⟨aa, hj⟩ : ∃ aa : Nat → Nat → Int, ∀ k : Nat, (k : Int) + 0 ≤ 100 → junk (Yo true z ((k : Int) + 0)) (aa k) := ⟨fun k => Classical.choose (jk k), fun k => Classical.choose_spec (jk k)⟩
  let zz : Nat → Nat → Int := fun k => nw z (Yo true z ((k : Int) + 0)) (aa k) k
  refine fn_loop (n := n) Try.func46 b46 (by simp [Fence.there]; decide +kernel) rfl
    (fun a w' => ∃ k : Nat, 1 ≤ k ∧ k ≤ 101 ∧ (∀ j : Nat, 1 ≤ j → j + 1 ≤ k + 0 → okL (Yo true z j)) ∧ a.tmps[7]? = some (.int .i64 k) ∧ ((k = 1 ∧ Stand (zz k) F_rr rows_rr w a w') ∨ Stand (zz k) E_rr rows_rr w a w'))
    (fun a _ => 101 - (intOf (a.tmps.getD 7 undef)).toNat)
    (fun a w' => (∀ j : Nat, 1 ≤ j → j ≤ 100 → okL (Yo true z j)) ∧ ∃ y, Stand y X_rr rows_rr w a w')
    (fun a w' => a.defers = [] ∧ Below w.heap.size w w' ∧ ∃ m : Nat, IsMost (Yo true) z m ∧ a.tmps[6]? = some (.int .i64 m)) ?_ ?_ ?_ ?_
  · intro Q hQ Q0
    refine piece_ok2 (G := plain) (H := fun _ => True) fbT no_k no_p (fun _ _ => trivial) lens_rr.1 dPre_rr (mix (zz 1) []) (mix_one _ (by simp)) (plain_holds _) [] _ w n Q Q0 ?_ ?_ rfl (fun a' w' hL => hQ a' w' ?_)
    · exact ⟨rfl, fun i c p hc hp => by simp [rin_rr] at hc⟩
    · refine VRs.frame ?_ _
      exact vrs_cons (to_mix (z := zz 1) (by decide +kernel) (vr_cav (z := zz 1) hc)) (vrs_cons (to_mix (z := zz 1) (by decide +kernel) (vr_st (z := zz 1) hs)) (vrs_cons (to_mix (z := zz 1) (by decide +kernel) (vr_po (z := zz 1) ha)) vrs_nil))
    · obtain ⟨h1, h2⟩ := hL.next (w0 := w) (n := 200) (c := 200) (z' := zz 1) (Below.refl _ _) (by omega) (fun _ _ => rfl) fit_rr.1 fit_rr.2 (by omega) (by omega) (fun e he v hv => by simp only [VR] at hv; exact hv) (show (0 : Int) ≤ 1 by omega) (show (1 : Int) ≤ 101 by omega)
      exact ⟨1, by omega, by omega, fun j h3 h4 => by omega, h2, .inl ⟨rfl, h1⟩⟩
  · intro a w' ⟨k, hk0, hk, hok, h11, hst⟩
    have hval : intOf (a.tmps.getD 7 undef) = k := by rw [Array.getD_eq_getD_getElem?, h11]; rfl
    have kept : ∀ e : Env plain, (∀ j, j < 100000 → e.opq j = .int .i64 (zz k j)) → ∀ v, VR e kc_rr v → v = .int .i64 (zz k 200) := fun e he v hv => by simp only [kc_rr, VR] at hv; rw [hv.1]; simp only [SX.eval, he 200 (by omega), valI]
    have v200 : ∀ l : List Value, valI (mix (zz k) l 200) = k := fun l => by rw [mix_lo _ _ (by omega)]; rfl
    by_cases hk1 : k = 101
    · have hE : Stand (zz k) E_rr rows_rr w a w' := hst.elim (fun h => absurd h.1 (by omega)) id
      obtain ⟨l, hl', ps, hv, hp, hd, hB⟩ := hE
      have hg : Re_rr.holds (mix (zz k) l) := holds_of trivial ⟨(show (101 : Int) ≤ valI (mix (zz k) l 200) by rw [v200]; omega), (show (100 : Int) < valI (mix (zz k) l 200) by rw [v200]; omega), trivial⟩ trivial trivial
      refine piece_ok (G := Re_rr) fbT no_k no_p (H := fun _ => True) (fun _ _ => trivial) lens_rr.2.2.1 dEnd_rr (mix (zz k) l) (mix_one _ hl') hg ps a w' n _ hp hv hd (fun a2 w2 hL => .inr (.inl ⟨rfl, fun j h1 h2 => hok j h1 (by omega), zz k, ?_⟩))
      exact (hL.next (w0 := w) (n := 200) (c := 200) (z' := zz k) hB (by omega) (fun _ _ => rfl) fit_rr.1 fit_rr.2 (by omega) (by omega) kept (show (0 : Int) ≤ k by omega) (show (k : Int) ≤ 101 by omega)).1
    · have hlt : ∀ l : List Value, LtsP (mix (zz k) l) [(.v 200, .c 101, true), (.c 100, .v 200, false)] := fun l => ⟨(show valI (mix (zz k) l 200) < (101 : Int) by rw [v200]; omega), (show valI (mix (zz k) l 200) ≤ (100 : Int) by rw [v200]; omega), trivial⟩
      have hx : ∀ (q : (Nat → Int) → Prop) (l : List Value), q (Yo true z ((k : Int) + 0)) → (Rg_rr q).holds (mix (zz k) l) := fun q l hq => holds_of trivial (hlt l) trivial ⟨zz k, fun j hj => mix_lo _ _ hj, z, aa k, k, hc, hs, ha, by omega, by omega, hq, hj k (by omega), rfl⟩
      by_cases hcan : can (Yo true z ((k : Int) + 0))
      · by_cases hsure : sureN (zs (Yo true z ((k : Int) + 0))) = 1
        · obtain ⟨F, hF, dF, l, hl', ps, hv, hp, hd, hB⟩ : ∃ F : List (AV plain), F.length = 35 ∧ pieceOk 35 .normal (K_rr ++ [(7, kn_rr)]) S_rr E_rr 100000 (numbered rows_rr 0) (go_rr F) = true ∧ Stand (zz k) F rows_rr w a w' :=
            hst.elim (fun h => ⟨F_rr, lens_rr.2.1, dGoF_rr, h.2⟩) (fun h => ⟨E_rr, lens_rr.2.2.1, dGoE_rr, h⟩)
          refine piece_ok (G := Rg_rr okL) (H := fun o => ∃ y, NumZ y o ∧ Rd true 0 okL y) fbT (List.forall_mem_cons.2 ⟨⟨by decide +kernel, cGo_L0.mono fun o => Rd.mono fun _ h => h.1⟩, List.forall_mem_cons.2 ⟨⟨by decide +kernel, cFine_L0⟩, List.forall_mem_nil _⟩⟩) no_p (fun o ho => ho.extra) hF dF (mix (zz k) l) (mix_one _ hl') (hx okL l ⟨hcan, hsure⟩) ps a w' n _ hp hv hd (fun a2 w2 hL => .inl ⟨rfl, ?_⟩)
          obtain ⟨h1, h2⟩ := hL.next (w0 := w) (n := 200) (c := 200) (z' := zz (k + 1)) hB (by omega) (fun j hj => nw_low z _ _ _ _ _ _ hj) fit_rr.1 fit_rr.2 (by omega) (by omega) (fun e he v hv => by simp only [kn_rr, VR] at hv; rw [hv.1]; simp only [SX.eval, he 200 (by omega), valI]; rfl) (show (0 : Int) ≤ ((k + 1 : Nat) : Int) by omega) (show ((k + 1 : Nat) : Int) ≤ 101 by omega)
          refine ⟨⟨k + 1, by omega, by omega, fun j h3 h4 => ?_, h2, .inr h1⟩, ?_⟩
          · by_cases hj2 : j = k + 0
            · subst hj2; exact (by simp only [Int.add_zero, Nat.add_zero] at *; exact ⟨hcan, hsure⟩)
            · exact hok j h3 (by omega)
          · show 101 - (intOf (a2.tmps.getD 7 undef)).toNat < 101 - (intOf (a.tmps.getD 7 undef)).toNat
            rw [hval, Array.getD_eq_getD_getElem?, h2]
            show 101 - (((k + 1 : Nat) : Int)).toNat < 101 - ((k : Int)).toNat
            omega
        · obtain ⟨F, B, hF, dF, l, hl', ps, hv, hp, hd, hB⟩ : ∃ F B : List (AV plain), F.length = 35 ∧ pieceOk 35 .ret [(6, .sx (.bin 1 (.v 200) (.c 1)) (-1) 100)] (slotsFrom [] 35 0) B 100000 [] (bad_rr F) = true ∧ Stand (zz k) F rows_rr w a w' :=
            hst.elim (fun h => ⟨F_rr, _, lens_rr.2.1, dbadF_rr, h.2⟩) (fun h => ⟨E_rr, _, lens_rr.2.2.1, dbadE_rr, h⟩)
          refine piece_ok (G := Rg_rr badL) (H := fun o => ∃ y, NumZ y o ∧ Rd true 0 badL y) fbT (List.forall_mem_cons.2 ⟨⟨by decide +kernel, cGo_L0.mono fun o => Rd.mono fun _ h => h.1⟩, List.forall_mem_cons.2 ⟨⟨by decide +kernel, cBad_L0⟩, List.forall_mem_nil _⟩⟩) no_p (fun o ho => ho.extra) hF dF (mix (zz k) l) (mix_one _ hl') (hx badL l ⟨hcan, hsure⟩) ps a w' n _ hp hv hd (fun a2 w2 hL => .inr (.inr ⟨rfl, hL.defers, hB.trans (hL.below.mono hB.size), (k - 1), ⟨by omega, fun j h1 h2 => hok j h1 (by omega), fun _ h => hsure (by have := h.2; rw [show (((k - 1 : Nat) : Int) + 1) = (k : Int) + 0 by omega] at this; exact this)⟩, ?_⟩))
          exact hL.has (u := .int .i64 ((k - 1) : Nat)) (List.mem_singleton.2 rfl) (by omega) (fun e he v hv => by simp only [VR] at hv; rw [hv.1]; simp only [SX.eval, he 200 (by omega), valI]; show Value.int .i64 ((k : Int) - 1) = .int .i64 ((k - 1 : Nat) : Int); rw [show ((k - 1 : Nat) : Int) = (k : Int) - 1 by omega])
      · obtain ⟨F, B, hF, dF, l, hl', ps, hv, hp, hd, hB⟩ : ∃ F B : List (AV plain), F.length = 35 ∧ pieceOk 35 .ret [(6, .sx (.bin 1 (.v 200) (.c 1)) (-1) 100)] (slotsFrom [] 35 0) B 100000 [] (no_rr F) = true ∧ Stand (zz k) F rows_rr w a w' :=
          hst.elim (fun h => ⟨F_rr, _, lens_rr.2.1, dnoF_rr, h.2⟩) (fun h => ⟨E_rr, _, lens_rr.2.2.1, dnoE_rr, h⟩)
        refine piece_ok (G := Rg_rr notCan) (H := fun o => ∃ y, NumZ y o ∧ Rd true 0 notCan y) fbT (List.forall_mem_cons.2 ⟨⟨by decide +kernel, cNo_L0⟩, List.forall_mem_nil _⟩) no_p (fun o ho => ho.extra) hF dF (mix (zz k) l) (mix_one _ hl') (hx notCan l hcan) ps a w' n _ hp hv hd (fun a2 w2 hL => .inr (.inr ⟨rfl, hL.defers, hB.trans (hL.below.mono hB.size), (k - 1), ⟨by omega, fun j h1 h2 => hok j h1 (by omega), fun _ h => hcan (by have := h.1; rw [show (((k - 1 : Nat) : Int) + 1) = (k : Int) + 0 by omega] at this; exact this)⟩, ?_⟩))
        exact hL.has (u := .int .i64 ((k - 1) : Nat)) (List.mem_singleton.2 rfl) (by omega) (fun e he v hv => by simp only [VR] at hv; rw [hv.1]; simp only [SX.eval, he 200 (by omega), valI]; show Value.int .i64 ((k : Int) - 1) = .int .i64 ((k - 1 : Nat) : Int); rw [show ((k - 1 : Nat) : Int) = (k : Int) - 1 by omega])
  · intro a w' ⟨hok, y, l, hl', ps, hv, hp, hd, hB⟩
    refine piece_ok (G := plain) fbT no_k no_p (H := fun _ => True) (fun _ _ => trivial) lens_rr.2.2.2 dRest_rr (mix y l) (mix_one _ hl') (plain_holds _) ps a w' n _ hp hv hd (fun a2 w2 hL => ⟨rfl, hL.defers, hB.trans (hL.below.mono hB.size), 100, ⟨by omega, hok, fun h => by omega⟩, ?_⟩)
    exact hL.has (u := .int .i64 100) (List.mem_singleton.2 rfl) (by omega) (fun e he v hv => by simp only [VR] at hv; exact hv)
  · intro a w' ⟨hd, hB, m, hm, hri⟩
    exact ⟨hd, _, results_t rfl hri w', m, hm, rfl, hB⟩
end Go.Ev.Gas
end

