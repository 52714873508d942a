import Derived.Test.YtdpegcimhhegmaaStB
import Derived.Test.YtdpegcimhhegmaaMoreN
set_option linter.unusedVariables false
set_option linter.unusedSimpArgs false
set_option linter.unusedSectionVars false
noncomputable section
set_option maxRecDepth 100000
namespace Go.Ev.Gas
open Go.RowKit Go.Ev.Num
theorem rowsX_get : ∀ (n j : Nat) (a : AV plain), (rowsX n)[j]? = some a → j < n * 10 ∧ a = rv (100 + j)
  | 0, j, a, h => by simp [rowsX] at h
  | n + 1, j, a, h => by
    have e : rowsX (n + 1) = rowsX n ++ tN (100 + 10 * n) 10 := by unfold rowsX; rw [List.range_succ, List.flatMap_append]; simp
    have hl : ∀ m, (rowsX m).length = m * 10 := fun m => by
      induction m with
      | zero => rfl
      | succ m ih =>
        have e : rowsX (m + 1) = rowsX m ++ tN (100 + 10 * m) 10 := by unfold rowsX; rw [List.range_succ, List.flatMap_append]; simp
        rw [e, List.length_append, ih]
        show m * 10 + 10 = _
        omega
    rw [e] at h
    by_cases hj : j < n * 10
    · rw [List.getElem?_append_left (by rw [hl]; exact hj)] at h
      have := rowsX_get n j a h
      exact ⟨by omega, this.2⟩
    · rw [List.getElem?_append_right (by rw [hl]; omega), hl] at h
      have hq : j - n * 10 < 10 := by
        have := (List.getElem?_eq_some_iff.1 h).1
        simpa [tN] using this
      have h2 : (tN (100 + 10 * n) 10)[j - n * 10]? = some (rv (100 + 10 * n + (j - n * 10))) := by
        unfold tN
        simp [hq]
      rw [h2] at h
      have e2 : 100 + 10 * n + (j - n * 10) = 100 + j := by omega
      rw [e2] at h
      exact ⟨by omega, (Option.some.inj h).symm⟩
theorem steps_run {n k : Nat} (hr : okX n k = true) {z : Nat → Int} (hG : GoodX n k z) (hi : ∀ j, j < n * 10 → -9223372036854775808 ≤ z (100 + j) ∧ z (100 + j) ≤ 9223372036854775807) (b off cap : Nat) (w : World) (hb : b < w.heap.size) (hcap : n ≤ cap) (hcells : SLAt 10 w b off n (oz z)) :
    Calls P 7 #[cavV z, stV z, .slice (some ⟨b, off, none⟩) n cap] w fun e w' => e = .returned (.bool true) ∧ Below w.heap.size w w' := by
  let p : Plc := ⟨b, off, cap * 10⟩
  have hs : stP z := hG.hs
  have hH : (gX0 (HX n k)).holds (ov z) := holds_of (G := gX0 (HX n k)) trivial (lts_cs hG.hc hs) trivial hG
  have := con7 hr (ov z) (ov_one z) hH (envS z p) [p] #[cavV z, stV z, .slice (some ⟨b, off, none⟩) n cap] w 0 rfl ⟨rfl, fun i => rfl, fun i => rfl, fun cc q hcc hq => ?_⟩ ?_
  · refine (this.calls (room_there P)).mono fun e w' ⟨h1, h2⟩ => ⟨?_, h2⟩
    obtain ⟨v', rfl, e2, _, h3⟩ := h1
    simp only [VR] at h3
    rw [h3]
  · have e1 : rowsX n = cc := Option.some.inj hcc
    have e2 : p = q := (List.cons.inj hq).1
    subst e1; subst e2
    refine ⟨hb, fun j a ha => ?_⟩
    obtain ⟨h1, rfl⟩ := rowsX_get n j a ha
    refine ⟨vi (z (100 + j)), ?_, vr_to rfl rfl (vr_iv z (hi j h1).1 (hi j h1).2)⟩
    have := hcells (j / 10) (j % 10) (by omega) (Nat.mod_lt _ (by omega))
    have e3 : j / 10 * 10 + j % 10 = j := by omega
    rw [e3] at this
    rw [this]
    show some (vi (z (100 + 10 * (j / 10) + j % 10))) = _
    rw [show 100 + 10 * (j / 10) + j % 10 = 100 + j by omega]
  · refine vrs_cons (vr_to rfl rfl (vr_cav hG.hc)) (vrs_cons (vr_to rfl rfl (vr_st hs)) (vrs_cons ?_ vrs_nil))
    simp only [VR]
    exact ⟨b, off, cap, rfl, rfl, hcap, fun h => (by cases h), fun _ _ => (by show cap * 10 ≤ cap * 10; omega)⟩
/-- The numbers of a list of operations. -/
def zX (c s : Nat → Int) (O : Nat → Nat → Int) (a : Nat → Int) (m : Nat) : Int :=
  if m < 11 then c m else if m < 19 then s (m - 11) else if m < 100 then 0 else if m < 300 then O ((m - 100) / 10) ((m - 100) % 10) else if m < 500 then sts c s O ((m - 300) / 8 + 1) ((m - 300) % 8)
  else if m < 600 then gonO c (sts c s O ((m - 500) / 6)) (O ((m - 500) / 6)) ((m - 500) % 6) else a (m - 600)
theorem zz_eq {c c' s s' o o' : Nat → Int} (h1 : ∀ m, m < 11 → c m = c' m) (h2 : ∀ q, q < 8 → s q = s' q) (h3 : ∀ q, q < 10 → o q = o' q) : zz c s o = zz c' s' o' := by
  funext m
  unfold zz
  split
  · exact h1 m (by omega)
  split
  · exact h2 _ (by omega)
  split
  · exact h3 _ (by omega)
  split
  · exact h3 0 (by omega)
  · rfl
theorem cav_eq {c c' : Nat → Int} (h1 : ∀ m, m < 11 → c m = c' m) : cavV c = cavV c' := by
  simp only [cavV, h1 0 (by omega), h1 1 (by omega), h1 2 (by omega), h1 3 (by omega), h1 4 (by omega), h1 5 (by omega), h1 6 (by omega), h1 7 (by omega), h1 8 (by omega), h1 9 (by omega), h1 10 (by omega)]
theorem o_eq {o o' : Nat → Int} (h : ∀ q, q < 10 → o q = o' q) : oV o = oV o' := by
  simp only [oV, h 0 (by omega), h 1 (by omega), h 2 (by omega), h 3 (by omega), h 4 (by omega), h 5 (by omega), h 6 (by omega), h 7 (by omega), h 8 (by omega), h 9 (by omega)]
section
variable {c s : Nat → Int} {O : Nat → Nat → Int} {a : Nat → Int}
theorem zX_c (m : Nat) (h : m < 11) : zX c s O a m = c m := by unfold zX; rw [if_pos h]
theorem zX_o (i q : Nat) (hi : i < 20) (hq : q < 10) : oz (zX c s O a) i q = O i q := by
  unfold oz zX
  rw [if_neg (by omega), if_neg (by omega), if_neg (by omega), if_pos (by omega), show (100 + 10 * i + q - 100) / 10 = i by omega, show (100 + 10 * i + q - 100) % 10 = q by omega]
theorem zX_s : ∀ (i q : Nat), i ≤ 20 → q < 8 → sz (zX c s O a) i q = sts c s O i q
  | 0, q, _, hq => by
    show zX c s O a (11 + q) = s q
    unfold zX
    rw [if_neg (by omega), if_pos (by omega)]; congr 1; omega
  | i + 1, q, hi, hq => by
    show zX c s O a (300 + 8 * i + q) = _
    unfold zX
    rw [if_neg (by omega), if_neg (by omega), if_neg (by omega), if_neg (by omega), if_pos (by omega), show (300 + 8 * i + q - 300) / 8 = i by omega, show (300 + 8 * i + q - 300) % 8 = q by omega]
theorem zX_g (i q : Nat) (hi : i < 16) (hq : q < 6) : zX c s O a (500 + 6 * i + q) = gonO c (sts c s O i) (O i) q := by
  unfold zX
  rw [if_neg (by omega), if_neg (by omega), if_neg (by omega), if_neg (by omega), if_neg (by omega), if_pos (by omega), show (500 + 6 * i + q - 500) / 6 = i by omega, show (500 + 6 * i + q - 500) % 6 = q by omega]
theorem zX_a (q : Nat) : zX c s O a (600 + q) = a q := by
  unfold zX
  rw [if_neg (by omega), if_neg (by omega), if_neg (by omega), if_neg (by omega), if_neg (by omega), if_neg (by omega)]; congr 1; omega
theorem zX_zz (i : Nat) (hi : i < 20) : zz (zX c s O a) (sz (zX c s O a) i) (oz (zX c s O a) i) = zz c (sts c s O i) (O i) :=
  zz_eq (fun m hm => zX_c m hm) (fun q hq => zX_s i q (by omega) hq) (fun q hq => zX_o i q hi hq)
theorem good_zX {n k : Nat} (hc : cavP c) (hs : StI s) (hO : ∀ i, i < n → opOk (O i)) (hn : n ≤ 12) (hk : Stop c s O n k) (ha : k < n → Gives (Fence.there P) 31 #[cavV c, sV (sts c s O k), oV (O k)] (ansV a zeros (.bool false)) ∧ ∀ q, 0 ≤ a q ∧ a q ≤ 200000000000) : GoodX n k (zX c s O a) := by
  obtain ⟨h1, h2, h3⟩ := hk
  refine ⟨h1, hc, hs.congr fun q hq => zX_s 0 q (by omega) hq, fun i hi => ?_, fun i hi => ?_, fun i hi q hq => ?_, fun i hi q hq => ?_, fun hk => ?_, fun hk => ?_⟩
  · have : zz zeros zeros (oz (zX c s O a) i) = zz zeros zeros (O i) := zz_eq (fun _ _ => rfl) (fun _ _ => rfl) (fun q hq => zX_o i q (by omega) hq)
    unfold opOk; rw [this]; exact hO i hi
  · unfold canO; rw [zX_zz i (by omega)]; exact h2 i hi
  · have := zX_s (c := c) (s := s) (O := O) (a := a) (i + 1) q (by omega) hq
    rw [show zX c s O a (300 + 8 * i + q) = sz (zX c s O a) (i + 1) q from rfl, this]
    unfold aftO; rw [zX_zz i (by omega)]; rfl
  · rw [zX_g i q (by omega) hq]
    unfold gonO; rw [zX_zz i (by omega)]
  · unfold canO; rw [zX_zz k (by omega)]; exact h3 hk
  · obtain ⟨g, bd⟩ := ha hk
    refine ⟨?_, fun q _ => by rw [zX_a]; exact bd q⟩
    rw [cav_eq (c' := c) (fun m hm => zX_c m hm), sV_congr (b := sts c s O k) (fun q hq => zX_s k q (by omega) hq), o_eq (o' := O k) (fun q hq => zX_o k q (by omega) hq)]
    rw [show (fun q => zX c s O a (600 + q)) = a from funext fun q => zX_a q]
    exact g
end
end Go.Ev.Gas
end

