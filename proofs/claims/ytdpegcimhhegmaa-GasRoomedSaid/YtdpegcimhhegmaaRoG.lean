import Derived.Test.YtdpegcimhhegmaaRoD
import Derived.Test.YtdpegcimhhegmaaRoE
set_option linter.unusedVariables false
set_option linter.unusedSimpArgs false
set_option linter.unusedSectionVars false
section
namespace Go.Ev.Gas
open Go.RowKit Go.Ev.Num Go.Proofs
set_option maxRecDepth 100000
theorem loop_rw {z : Nat → Int} (hc : cavP z) (hs : stP z) (ha : Arg false z)  (w : World) (n : Nat)  :
    CallsIn (Fence.there P) n P 45 #[cavV z, stV z, .int .i64 (z 34)] w fun e w' => ∃ m : Nat, IsMost (Yo false) z m ∧ e = .returned (.int .i64 m) ∧ Below w.heap.size w w' := by
  have jk : ∀ k : Nat, ∃ a : Nat → Int, (k : Int) + 0 ≤ 100 → junk (Yo false z ((k : Int) + 0)) a := fun k => by
    by_cases h : (k : Int) + 0 ≤ 100
    · obtain ⟨a, h2⟩ := junk_is (u := false) (k := (k : Int) + 0) hc hs ha (by omega) h
      exact ⟨a, fun _ => h2⟩
    · exact ⟨fun _ => 0, fun h' => absurd h' h⟩
  obtain ⟨aa, hj⟩ : ∃ aa : Nat → Nat → Int, ∀ k : Nat, (k : Int) + 0 ≤ 100 → junk (Yo false z ((k : Int) + 0)) (aa k) := ⟨fun k => Classical.choose (jk k), fun k => Classical.choose_spec (jk k)⟩
  let zz : Nat → Nat → Int := fun k => nw z (Yo false z ((k : Int) + 0)) (aa k) k
  refine fn_loop (n := n) Try.func45 b45 (by simp [Fence.there]; decide +kernel) rfl
    (fun a w' => ∃ k : Nat, 1 ≤ k ∧ k ≤ 101 ∧ (∀ j : Nat, 1 ≤ j → j + 1 ≤ k + 0 → okL (Yo false z j)) ∧ a.tmps[7]? = some (.int .i64 k) ∧ ((k = 1 ∧ Stand (zz k) F_rw rows_rw w a w') ∨ Stand (zz k) E_rw rows_rw w a w'))
    (fun a _ => 101 - (intOf (a.tmps.getD 7 undef)).toNat)
    (fun a w' => (∀ j : Nat, 1 ≤ j → j ≤ 100 → okL (Yo false z j)) ∧ ∃ y, Stand y X_rw rows_rw w a w')
    (fun a w' => a.defers = [] ∧ Below w.heap.size w w' ∧ ∃ m : Nat, IsMost (Yo false) z m ∧ a.tmps[6]? = some (.int .i64 m)) ?_ ?_ ?_ ?_
  · intro Q hQ Q0
    refine piece_ok2 (G := plain) (H := fun _ => True) fbT no_k no_p (fun _ _ => trivial) lens_rw.1 dPre_rw (mix (zz 1) []) (mix_one _ (by simp)) (plain_holds _) [] _ w n Q Q0 ?_ ?_ rfl (fun a' w' hL => hQ a' w' ?_)
    · exact ⟨rfl, fun i c p hc hp => by simp [rin_rw] at hc⟩
    · refine VRs.frame ?_ _
      exact vrs_cons (to_mix (z := zz 1) (by decide +kernel) (vr_cav (z := zz 1) hc)) (vrs_cons (to_mix (z := zz 1) (by decide +kernel) (vr_st (z := zz 1) hs)) (vrs_cons (to_mix (z := zz 1) (by decide +kernel) (vr_iv (zz 1) (show 1 ≤ z 34 from ha.1) (show z 34 ≤ 1000000 from ha.2))) vrs_nil))
    · obtain ⟨h1, h2⟩ := hL.next (w0 := w) (n := 200) (c := 200) (z' := zz 1) (Below.refl _ _) (by omega) (fun _ _ => rfl) fit_rw.1 fit_rw.2 (by omega) (by omega) (fun e he v hv => by simp only [VR] at hv; exact hv) (show (0 : Int) ≤ 1 by omega) (show (1 : Int) ≤ 101 by omega)
      exact ⟨1, by omega, by omega, fun j h3 h4 => by omega, h2, .inl ⟨rfl, h1⟩⟩
  · intro a w' ⟨k, hk0, hk, hok, h11, hst⟩
    have hval : intOf (a.tmps.getD 7 undef) = k := by rw [Array.getD_eq_getD_getElem?, h11]; rfl
    have kept : ∀ e : Env plain, (∀ j, j < 100000 → e.opq j = .int .i64 (zz k j)) → ∀ v, VR e kc_rw v → v = .int .i64 (zz k 200) := fun e he v hv => by simp only [kc_rw, VR] at hv; rw [hv.1]; simp only [SX.eval, he 200 (by omega), valI]
    have v200 : ∀ l : List Value, valI (mix (zz k) l 200) = k := fun l => by rw [mix_lo _ _ (by omega)]; rfl
    by_cases hk1 : k = 101
    · have hE : Stand (zz k) E_rw rows_rw w a w' := hst.elim (fun h => absurd h.1 (by omega)) id
      obtain ⟨l, hl', ps, hv, hp, hd, hB⟩ := hE
      have hg : Re_rw.holds (mix (zz k) l) := holds_of trivial ⟨(show (101 : Int) ≤ valI (mix (zz k) l 200) by rw [v200]; omega), (show (100 : Int) < valI (mix (zz k) l 200) by rw [v200]; omega), trivial⟩ trivial trivial
      refine piece_ok (G := Re_rw) fbT no_k no_p (H := fun _ => True) (fun _ _ => trivial) lens_rw.2.2.1 dEnd_rw (mix (zz k) l) (mix_one _ hl') hg ps a w' n _ hp hv hd (fun a2 w2 hL => .inr (.inl ⟨rfl, fun j h1 h2 => hok j h1 (by omega), zz k, ?_⟩))
      exact (hL.next (w0 := w) (n := 200) (c := 200) (z' := zz k) hB (by omega) (fun _ _ => rfl) fit_rw.1 fit_rw.2 (by omega) (by omega) kept (show (0 : Int) ≤ k by omega) (show (k : Int) ≤ 101 by omega)).1
    · have hlt : ∀ l : List Value, LtsP (mix (zz k) l) [(.v 200, .c 101, true), (.c 100, .v 200, false)] := fun l => ⟨(show valI (mix (zz k) l 200) < (101 : Int) by rw [v200]; omega), (show valI (mix (zz k) l 200) ≤ (100 : Int) by rw [v200]; omega), trivial⟩
      have hx : ∀ (q : (Nat → Int) → Prop) (l : List Value), q (Yo false z ((k : Int) + 0)) → (Rg_rw q).holds (mix (zz k) l) := fun q l hq => holds_of trivial (hlt l) trivial ⟨zz k, fun j hj => mix_lo _ _ hj, z, aa k, k, hc, hs, ha, by omega, by omega, hq, hj k (by omega), rfl⟩
      by_cases hcan : can (Yo false z ((k : Int) + 0))
      · by_cases hsure : sureN (zs (Yo false z ((k : Int) + 0))) = 1
        · obtain ⟨F, hF, dF, l, hl', ps, hv, hp, hd, hB⟩ : ∃ F : List (AV plain), F.length = 36 ∧ pieceOk 36 .normal (K_rw ++ [(7, kn_rw)]) S_rw E_rw 100000 (numbered rows_rw 0) (go_rw F) = true ∧ Stand (zz k) F rows_rw w a w' :=
            hst.elim (fun h => ⟨F_rw, lens_rw.2.1, dGoF_rw, h.2⟩) (fun h => ⟨E_rw, lens_rw.2.2.1, dGoE_rw, h⟩)
          refine piece_ok (G := Rg_rw okL) (H := fun o => ∃ y, NumZ y o ∧ Rd false 0 okL y) fbT (List.forall_mem_cons.2 ⟨⟨by decide +kernel, cGo_U0.mono fun o => Rd.mono fun _ h => h.1⟩, List.forall_mem_cons.2 ⟨⟨by decide +kernel, cFine_U0⟩, List.forall_mem_nil _⟩⟩) no_p (fun o ho => ho.extra) hF dF (mix (zz k) l) (mix_one _ hl') (hx okL l ⟨hcan, hsure⟩) ps a w' n _ hp hv hd (fun a2 w2 hL => .inl ⟨rfl, ?_⟩)
          obtain ⟨h1, h2⟩ := hL.next (w0 := w) (n := 200) (c := 200) (z' := zz (k + 1)) hB (by omega) (fun j hj => nw_low z _ _ _ _ _ _ hj) fit_rw.1 fit_rw.2 (by omega) (by omega) (fun e he v hv => by simp only [kn_rw, VR] at hv; rw [hv.1]; simp only [SX.eval, he 200 (by omega), valI]; rfl) (show (0 : Int) ≤ ((k + 1 : Nat) : Int) by omega) (show ((k + 1 : Nat) : Int) ≤ 101 by omega)
          refine ⟨⟨k + 1, by omega, by omega, fun j h3 h4 => ?_, h2, .inr h1⟩, ?_⟩
          · by_cases hj2 : j = k + 0
            · subst hj2; exact (by simp only [Int.add_zero, Nat.add_zero] at *; exact ⟨hcan, hsure⟩)
            · exact hok j h3 (by omega)
          · show 101 - (intOf (a2.tmps.getD 7 undef)).toNat < 101 - (intOf (a.tmps.getD 7 undef)).toNat
            rw [hval, Array.getD_eq_getD_getElem?, h2]
            show 101 - (((k + 1 : Nat) : Int)).toNat < 101 - ((k : Int)).toNat
            omega
        · obtain ⟨F, B, hF, dF, l, hl', ps, hv, hp, hd, hB⟩ : ∃ F B : List (AV plain), F.length = 36 ∧ pieceOk 36 .ret [(6, .sx (.bin 1 (.v 200) (.c 1)) (-1) 100)] (slotsFrom [] 36 0) B 100000 [] (bad_rw F) = true ∧ Stand (zz k) F rows_rw w a w' :=
            hst.elim (fun h => ⟨F_rw, _, lens_rw.2.1, dbadF_rw, h.2⟩) (fun h => ⟨E_rw, _, lens_rw.2.2.1, dbadE_rw, h⟩)
          refine piece_ok (G := Rg_rw badL) (H := fun o => ∃ y, NumZ y o ∧ Rd false 0 badL y) fbT (List.forall_mem_cons.2 ⟨⟨by decide +kernel, cGo_U0.mono fun o => Rd.mono fun _ h => h.1⟩, List.forall_mem_cons.2 ⟨⟨by decide +kernel, cBad_U0⟩, List.forall_mem_nil _⟩⟩) no_p (fun o ho => ho.extra) hF dF (mix (zz k) l) (mix_one _ hl') (hx badL l ⟨hcan, hsure⟩) ps a w' n _ hp hv hd (fun a2 w2 hL => .inr (.inr ⟨rfl, hL.defers, hB.trans (hL.below.mono hB.size), (k - 1), ⟨by omega, fun j h1 h2 => hok j h1 (by omega), fun _ h => hsure (by have := h.2; rw [show (((k - 1 : Nat) : Int) + 1) = (k : Int) + 0 by omega] at this; exact this)⟩, ?_⟩))
          exact hL.has (u := .int .i64 ((k - 1) : Nat)) (List.mem_singleton.2 rfl) (by omega) (fun e he v hv => by simp only [VR] at hv; rw [hv.1]; simp only [SX.eval, he 200 (by omega), valI]; show Value.int .i64 ((k : Int) - 1) = .int .i64 ((k - 1 : Nat) : Int); rw [show ((k - 1 : Nat) : Int) = (k : Int) - 1 by omega])
      · obtain ⟨F, B, hF, dF, l, hl', ps, hv, hp, hd, hB⟩ : ∃ F B : List (AV plain), F.length = 36 ∧ pieceOk 36 .ret [(6, .sx (.bin 1 (.v 200) (.c 1)) (-1) 100)] (slotsFrom [] 36 0) B 100000 [] (no_rw F) = true ∧ Stand (zz k) F rows_rw w a w' :=
          hst.elim (fun h => ⟨F_rw, _, lens_rw.2.1, dnoF_rw, h.2⟩) (fun h => ⟨E_rw, _, lens_rw.2.2.1, dnoE_rw, h⟩)
        refine piece_ok (G := Rg_rw notCan) (H := fun o => ∃ y, NumZ y o ∧ Rd false 0 notCan y) fbT (List.forall_mem_cons.2 ⟨⟨by decide +kernel, cNo_U0⟩, List.forall_mem_nil _⟩) no_p (fun o ho => ho.extra) hF dF (mix (zz k) l) (mix_one _ hl') (hx notCan l hcan) ps a w' n _ hp hv hd (fun a2 w2 hL => .inr (.inr ⟨rfl, hL.defers, hB.trans (hL.below.mono hB.size), (k - 1), ⟨by omega, fun j h1 h2 => hok j h1 (by omega), fun _ h => hcan (by have := h.1; rw [show (((k - 1 : Nat) : Int) + 1) = (k : Int) + 0 by omega] at this; exact this)⟩, ?_⟩))
        exact hL.has (u := .int .i64 ((k - 1) : Nat)) (List.mem_singleton.2 rfl) (by omega) (fun e he v hv => by simp only [VR] at hv; rw [hv.1]; simp only [SX.eval, he 200 (by omega), valI]; show Value.int .i64 ((k : Int) - 1) = .int .i64 ((k - 1 : Nat) : Int); rw [show ((k - 1 : Nat) : Int) = (k : Int) - 1 by omega])
  · intro a w' ⟨hok, y, l, hl', ps, hv, hp, hd, hB⟩
    refine piece_ok (G := plain) fbT no_k no_p (H := fun _ => True) (fun _ _ => trivial) lens_rw.2.2.2 dRest_rw (mix y l) (mix_one _ hl') (plain_holds _) ps a w' n _ hp hv hd (fun a2 w2 hL => ⟨rfl, hL.defers, hB.trans (hL.below.mono hB.size), 100, ⟨by omega, hok, fun h => by omega⟩, ?_⟩)
    exact hL.has (u := .int .i64 100) (List.mem_singleton.2 rfl) (by omega) (fun e he v hv => by simp only [VR] at hv; exact hv)
  · intro a w' ⟨hd, hB, m, hm, hri⟩
    exact ⟨hd, _, results_t rfl hri w', m, hm, rfl, hB⟩
end Go.Ev.Gas
end

section
namespace Go.Ev.Gas
open Go.RowKit Go.Ev.Num Go.Proofs
set_option maxRecDepth 100000
def RefPurge (z : Nat → Int) (r : Int) : Prop := (∃ m : Nat, m ≤ 100 ∧ pureY (zl z m) ∧ (∀ j : Nat, j < m → ¬ pureY (zl z j)) ∧ r = m) ∨ ((∀ j : Nat, j ≤ 100 → ¬ pureY (zl z j)) ∧ r = -1)
theorem loop_rp {z : Nat → Int} (hc : cavP z) (hs : stP z) (ha : poiP z) (w : World) (n : Nat) :
    CallsIn (Fence.there P) n P 47 #[cavV z, stV z, poV z] w fun e w' => ∃ r : Int, RefPurge z r ∧ e = .returned (.int .i64 r) ∧ Below w.heap.size w w' := by
  have jk : ∀ k : Nat, ∃ a : Nat → Int, (k : Int) ≤ 100 → junk (zl z (k : Int)) a := fun k => by
    by_cases h : (k : Int) ≤ 100
    · obtain ⟨a, h2⟩ := junk_is (u := true) (k := (k : Int)) hc hs ha (by omega) h
      exact ⟨a, fun _ => h2⟩
    · exact ⟨fun _ => 0, fun h' => absurd h' h⟩
  obtain ⟨aa, hj⟩ : ∃ aa : Nat → Nat → Int, ∀ k : Nat, (k : Int) ≤ 100 → junk (zl z (k : Int)) (aa k) := ⟨fun k => Classical.choose (jk k), fun k => Classical.choose_spec (jk k)⟩
  let zz : Nat → Nat → Int := fun k => nw z (zl z (k : Int)) (aa k) k
  refine fn_loop (n := n) Try.func47 b47 (by simp [Fence.there]; decide +kernel) rfl
    (fun a w' => ∃ k : Nat, k ≤ 101 ∧ (∀ j : Nat, j < k → ¬ pureY (zl z j)) ∧ a.tmps[7]? = some (.int .i64 k) ∧ ∃ i, i < 4 ∧ Stand (zz k) (Fs_rp.getD i []) rows_rp w a w')
    (fun a _ => 101 - (intOf (a.tmps.getD 7 undef)).toNat)
    (fun a w' => (∀ j : Nat, j ≤ 100 → ¬ pureY (zl z j)) ∧ ∃ y i, i < 4 ∧ Stand y (X_rp (Fs_rp.getD i [])) rows_rp w a w')
    (fun a w' => a.defers = [] ∧ Below w.heap.size w w' ∧ ∃ r : Int, RefPurge z r ∧ a.tmps[6]? = some (.int .i64 r)) ?_ ?_ ?_ ?_
  · intro Q hQ Q0
    refine piece_ok2 (G := plain) (H := fun _ => True) fbT no_k no_p (fun _ _ => trivial) len_rp.1 dPre_rp (mix (zz 0) []) (mix_one _ (by simp)) (plain_holds _) [] _ w n Q Q0 ?_ ?_ rfl (fun a' w' hL => hQ a' w' ?_)
    · exact ⟨rfl, fun i c p hc hp => by simp at hc⟩
    · refine VRs.frame ?_ _
      exact vrs_cons (to_mix (z := zz 0) (by decide +kernel) (vr_cav (z := zz 0) hc)) (vrs_cons (to_mix (z := zz 0) (by decide +kernel) (vr_st (z := zz 0) hs)) (vrs_cons (to_mix (z := zz 0) (by decide +kernel) (vr_po (z := zz 0) ha)) vrs_nil))
    · obtain ⟨h1, h2⟩ := hL.next (w0 := w) (n := 200) (c := 200) (z' := zz 0) (Below.refl _ _) (by omega) (fun _ _ => rfl) fit_rp.1 fit_rp.2 (by omega) (by omega) (fun e he v hv => by simp only [VR] at hv; exact hv) (show (0 : Int) ≤ 0 by omega) (show (0 : Int) ≤ 101 by omega)
      exact ⟨0, by omega, fun j h3 => by omega, h2, 0, by omega, h1⟩
  · intro a w' ⟨k, hk, hok, h11, i, hi, l, hl', ps, hv, hp, hd, hB⟩
    have hval : intOf (a.tmps.getD 7 undef) = k := by rw [Array.getD_eq_getD_getElem?, h11]; rfl
    have kept : ∀ e : Env plain, (∀ j, j < 100000 → e.opq j = .int .i64 (zz k j)) → ∀ v, VR e kc_rp v → v = .int .i64 (zz k 200) := fun e he v hv => by simp only [kc_rp, VR] at hv; rw [hv.1]; simp only [SX.eval, he 200 (by omega), valI]
    have v200 : ∀ l : List Value, valI (mix (zz k) l 200) = k := fun l => by rw [mix_lo _ _ (by omega)]; rfl
    have lenF := (len_rp.2 i hi).1
    by_cases hk1 : k = 101
    · have hg : Re_rp.holds (mix (zz k) l) := holds_of trivial ⟨(show (101 : Int) ≤ valI (mix (zz k) l 200) by rw [v200]; omega), (show (100 : Int) < valI (mix (zz k) l 200) by rw [v200]; omega), trivial⟩ trivial trivial
      refine piece_ok (G := Re_rp) fbT no_k no_p (H := fun _ => True) (fun _ _ => trivial) lenF (alle_rp i hi) (mix (zz k) l) (mix_one _ hl') hg ps a w' n _ hp hv hd (fun a2 w2 hL => .inr (.inl ⟨rfl, fun j h1 => hok j (by omega), zz k, i, hi, ?_⟩))
      exact (hL.next (w0 := w) (n := 200) (c := 200) (z' := zz k) hB (by omega) (fun _ _ => rfl) fit_rp.1 fit_rp.2 (by omega) (by omega) kept (show (0 : Int) ≤ k by omega) (show (k : Int) ≤ 101 by omega)).1
    · have hlt : ∀ l : List Value, LtsP (mix (zz k) l) [(.v 200, .c 101, true), (.c 100, .v 200, false)] := fun l => ⟨(show valI (mix (zz k) l 200) < (101 : Int) by rw [v200]; omega), (show valI (mix (zz k) l 200) ≤ (100 : Int) by rw [v200]; omega), trivial⟩
      have hx : ∀ (q : (Nat → Int) → Prop) (l : List Value), q (zl z (k : Int)) → (Rg_rp q).holds (mix (zz k) l) := fun q l hq => holds_of trivial (hlt l) trivial ⟨zz k, fun j hj => mix_lo _ _ hj, z, aa k, k, hc, hs, ha, by omega, by omega, by simp only [Int.add_zero]; exact hq, by simp only [Int.add_zero]; exact hj k (by omega), by simp only [Int.add_zero]; rfl⟩
      -- a round that goes on
      have goes : ∀ (E : List (AV plain)) (e : Nat) (he : e < 4) (hE : E = Fs_rp.getD e []) (a2 : Act) (w2 : World), ¬ pureY (zl z (k : Int)) → Left (mix (zz k) l) w' w2 a2 39 (K_rp ++ [(7, kn_rp)]) S_rp E 100000 (numbered rows_rp 0) →
          (∃ k : Nat, k ≤ 101 ∧ (∀ j : Nat, j < k → ¬ pureY (zl z j)) ∧ a2.tmps[7]? = some (.int .i64 k) ∧ ∃ i, i < 4 ∧ Stand (zz k) (Fs_rp.getD i []) rows_rp w a2 w2) ∧ 101 - (intOf (a2.tmps.getD 7 undef)).toNat < 101 - (intOf (a.tmps.getD 7 undef)).toNat := fun E e he hE a2 w2 hn hL => by
        subst hE
        obtain ⟨h1, h2⟩ := hL.next (w0 := w) (n := 200) (c := 200) (z' := zz (k + 1)) hB (by omega) (fun j hj => nw_low z _ _ _ _ _ _ hj) fit_rp.1 fit_rp.2 (by omega) (by omega) (fun e he v hv => by simp only [kn_rp, VR] at hv; rw [hv.1]; simp only [SX.eval, he 200 (by omega), valI]; rfl) (show (0 : Int) ≤ ((k + 1 : Nat) : Int) by omega) (show ((k + 1 : Nat) : Int) ≤ 101 by omega)
        refine ⟨⟨k + 1, by omega, fun j h3 => ?_, h2, e, he, h1⟩, ?_⟩
        · by_cases hj2 : j = k
          · subst hj2; exact hn
          · exact hok j (by omega)
        · rw [hval, Array.getD_eq_getD_getElem?, h2]
          show 101 - (((k + 1 : Nat) : Int)).toNat < 101 - ((k : Int)).toNat
          omega
      by_cases hcan : can (zl z (k : Int))
      · by_cases ht : thinP (zs (zl z (k : Int)))
        · exact piece_ok (G := Rg_rp thinY) (H := fun o => ∃ y, NumZ y o ∧ Rd true 0 thinY y) fbT (List.forall_mem_cons.2 ⟨⟨by decide +kernel, cGo_L0.mono fun o => Rd.mono fun _ h => h.1⟩, List.forall_mem_cons.2 ⟨⟨by decide +kernel, cThin_t⟩, List.forall_mem_nil _⟩⟩) no_p (fun o ho => ho.extra) lenF (allt_rp i hi) (mix (zz k) l) (mix_one _ hl') (hx thinY l ⟨hcan, ht⟩) ps a w' n _ hp hv hd
            (fun a2 w2 hL => .inl ⟨rfl, goes _ 2 (by omega) rfl a2 w2 (fun h => h.2.1 ht) hL⟩)
        · by_cases hr : richP (zs (zl z (k : Int)))
          · exact piece_ok (G := Rg_rp richY) (H := fun o => ∃ y, NumZ y o ∧ Rd true 0 richY y) fbT (List.forall_mem_cons.2 ⟨⟨by decide +kernel, cGo_L0.mono fun o => Rd.mono fun _ h => h.1⟩, List.forall_mem_cons.2 ⟨⟨by decide +kernel, cThin_f.mono fun o => Rd.mono fun _ h => ⟨h.1, h.2.1⟩⟩, List.forall_mem_cons.2 ⟨⟨by decide +kernel, cRich_t⟩, List.forall_mem_nil _⟩⟩⟩) no_p (fun o ho => ho.extra) lenF (allr_rp i hi) (mix (zz k) l) (mix_one _ hl') (hx richY l ⟨hcan, ht, hr⟩) ps a w' n _ hp hv hd
              (fun a2 w2 hL => .inl ⟨rfl, goes _ 3 (by omega) rfl a2 w2 (fun h => h.2.2 hr) hL⟩)
          · refine piece_ok (G := Rg_rp pureY) (H := fun o => ∃ y, NumZ y o ∧ Rd true 0 pureY y) fbT (List.forall_mem_cons.2 ⟨⟨by decide +kernel, cGo_L0.mono fun o => Rd.mono fun _ h => h.1⟩, List.forall_mem_cons.2 ⟨⟨by decide +kernel, cThin_f.mono fun o => Rd.mono fun _ h => ⟨h.1, h.2.1⟩⟩, List.forall_mem_cons.2 ⟨⟨by decide +kernel, cRich_f⟩, List.forall_mem_nil _⟩⟩⟩) no_p (fun o ho => ho.extra) lenF (allp_rp i hi) (mix (zz k) l) (mix_one _ hl') (hx pureY l ⟨hcan, ht, hr⟩) ps a w' n _ hp hv hd
              (fun a2 w2 hL => .inr (.inr ⟨rfl, hL.defers, hB.trans (hL.below.mono hB.size), k, .inl ⟨k, by omega, ⟨hcan, ht, hr⟩, hok, rfl⟩, ?_⟩))
            exact hL.has (u := .int .i64 k) (List.mem_singleton.2 rfl) (by omega) (fun e he v hv => by simp only [VR] at hv; rw [hv.1]; simp only [SX.eval, he 200 (by omega), valI]; rfl)
      · exact piece_ok (G := Rg_rp notCan) (H := fun o => ∃ y, NumZ y o ∧ Rd true 0 notCan y) fbT (List.forall_mem_cons.2 ⟨⟨by decide +kernel, cNo_L0⟩, List.forall_mem_nil _⟩) no_p (fun o ho => ho.extra) lenF (alln_rp i hi) (mix (zz k) l) (mix_one _ hl') (hx notCan l hcan) ps a w' n _ hp hv hd
          (fun a2 w2 hL => .inl ⟨rfl, goes _ 1 (by omega) rfl a2 w2 (fun h => hcan h.1) hL⟩)
  · intro a w' ⟨hok, y, i, hi, l, hl', ps, hv, hp, hd, hB⟩
    refine piece_ok (G := plain) fbT no_k no_p (H := fun _ => True) (fun _ _ => trivial) (len_rp.2 i hi).2 (alls_rp i hi) (mix y l) (mix_one _ hl') (plain_holds _) ps a w' n _ hp hv hd (fun a2 w2 hL => ⟨rfl, hL.defers, hB.trans (hL.below.mono hB.size), -1, .inr ⟨hok, rfl⟩, ?_⟩)
    exact hL.has (u := .int .i64 (-1)) (List.mem_singleton.2 rfl) (by omega) (fun e he v hv => by simp only [VR] at hv; exact hv)
  · intro a w' ⟨hd, hB, m, hm, hri⟩
    exact ⟨hd, _, results_t rfl hri w', m, hm, rfl, hB⟩
end Go.Ev.Gas
end

