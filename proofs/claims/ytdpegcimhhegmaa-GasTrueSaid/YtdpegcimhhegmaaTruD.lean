import Derived.Test.YtdpegcimhhegmaaTruB
import Derived.Test.YtdpegcimhhegmaaTruC
set_option linter.unusedVariables false
set_option linter.unusedSimpArgs false
set_option linter.unusedSectionVars false
section
set_option maxRecDepth 100000
namespace Go.Ev.Gas
open Go.RowKit Go.Ev.Num Go.Proofs
/-- The contents behind the first operations. -/
def cts (c s : Nat → Int) (O : Nat → Nat → Int) (p : Nat → Int) (sh wt : Nat → Int) : Nat → Nat → Int
  | 0 => p
  | i + 1 => plq (yy c (sts c s O i) (O i) (cts c s O p sh wt i) (sh i) (wt i))
def outs8 (c s : Nat → Int) (O : Nat → Nat → Int) (p : Nat → Int) (sh wt : Nat → Int) (i : Nat) : Nat → Int := plu (yy c (sts c s O i) (O i) (cts c s O p sh wt i) (sh i) (wt i))
/-- The numbers of a run. -/
def zT (c s : Nat → Int) (O : Nat → Nat → Int) (a p sh wt : Nat → Int) (m : Nat) : Int :=
  if m < 700 then zX c s O a m else if m < 760 then cts c s O p sh wt ((m - 700) / 4) ((m - 700) % 4) else if m < 820 then outs8 c s O p sh wt ((m - 760) / 4) ((m - 760) % 4)
  else if m < 840 then sh (m - 820) else wt (m - 840)
section
variable {c s : Nat → Int} {O : Nat → Nat → Int} {a p sh wt : Nat → Int}
theorem zT_lo {m : Nat} (h : m < 700) : zT c s O a p sh wt m = zX c s O a m := by unfold zT; rw [if_pos h]
theorem zT_sz : ∀ i q, i ≤ 12 → q < 8 → sz (zT c s O a p sh wt) i q = sts c s O i q
  | 0, q, hi, hq => by
    have := zX_s (c := c) (s := s) (O := O) (a := a) 0 q (by omega) hq
    rw [← this]
    show zT c s O a p sh wt (11 + q) = zX c s O a (11 + q)
    exact zT_lo (by omega)
  | i + 1, q, hi, hq => by
    have := zX_s (c := c) (s := s) (O := O) (a := a) (i + 1) q (by omega) hq
    rw [← this]
    show zT c s O a p sh wt (300 + 8 * i + q) = zX c s O a (300 + 8 * i + q)
    exact zT_lo (by omega)
theorem zT_oz (i q : Nat) (hi : i < 12) (hq : q < 10) : oz (zT c s O a p sh wt) i q = O i q := by
  have := zX_o (c := c) (s := s) (O := O) (a := a) i q (by omega) hq
  rw [← this]
  exact zT_lo (by omega)
theorem zT_pz (i q : Nat) (hi : i ≤ 12) (hq : q < 4) : pzt (zT c s O a p sh wt) i q = cts c s O p sh wt i q := by
  unfold pzt zT
  rw [if_neg (by omega), if_pos (by omega), show (700 + 4 * i + q - 700) / 4 = i by omega, show (700 + 4 * i + q - 700) % 4 = q by omega]
theorem zT_u (i q : Nat) (hi : i < 12) (hq : q < 4) : zT c s O a p sh wt (760 + 4 * i + q) = outs8 c s O p sh wt i q := by
  unfold zT
  rw [if_neg (by omega), if_neg (by omega), if_pos (by omega), show (760 + 4 * i + q - 760) / 4 = i by omega, show (760 + 4 * i + q - 760) % 4 = q by omega]
theorem zT_sh (i : Nat) (hi : i < 12) : zT c s O a p sh wt (820 + i) = sh i := by
  unfold zT
  rw [if_neg (by omega), if_neg (by omega), if_neg (by omega), if_pos (by omega)]; congr 1; omega
theorem zT_wt (i : Nat) (hi : i < 12) : zT c s O a p sh wt (840 + i) = wt i := by
  unfold zT
  rw [if_neg (by omega), if_neg (by omega), if_neg (by omega), if_neg (by omega)]; congr 1; omega
theorem yy_eq {c c' s s' o o' p p' : Nat → Int} {x x' y y' : Int} (h1 : ∀ m, m < 11 → c m = c' m) (h2 : ∀ q, q < 8 → s q = s' q) (h3 : ∀ q, q < 10 → o q = o' q) (h4 : ∀ q, q < 4 → p q = p' q) (h5 : x = x') (h6 : y = y') : yy c s o p x y = yy c' s' o' p' x' y' := by
  subst h5 h6
  funext m
  unfold yy
  rw [zz_eq h1 h2 h3]
  split
  · rfl
  split
  · rfl
  split
  · rfl
  split
  · rfl
  split
  · exact h4 _ (by omega)
  · rfl
theorem zT_yy (i : Nat) (hi : i < 12) : yy (zT c s O a p sh wt) (sz (zT c s O a p sh wt) i) (oz (zT c s O a p sh wt) i) (pzt (zT c s O a p sh wt) i) (shz (zT c s O a p sh wt) i) (wtz (zT c s O a p sh wt) i) = yy c (sts c s O i) (O i) (cts c s O p sh wt i) (sh i) (wt i) :=
  yy_eq (fun m hm => (zT_lo (by omega)).trans (zX_c m hm)) (fun q hq => zT_sz i q (by omega) hq) (fun q hq => zT_oz i q hi hq) (fun q hq => zT_pz i q (by omega) hq) (zT_sh i hi) (zT_wt i hi)
theorem good_mono {n k : Nat} {z z' : Nat → Int} (h : GoodX n k z) (e : ∀ m, m < 700 → z' m = z m) (hn : n ≤ 12) : GoodX n k z' := by
  have kn := h.kn
  have es : ∀ i, i ≤ 12 → ∀ q, q < 8 → sz z' i q = sz z i q := fun i hi q hq => by
    cases i with
    | zero => exact e _ (by omega)
    | succ i => exact e _ (by omega)
  have eo : ∀ i, i < 12 → ∀ q, q < 10 → oz z' i q = oz z i q := fun i hi q hq => e _ (by omega)
  have ez : ∀ i, i < 12 → zz z' (sz z' i) (oz z' i) = zz z (sz z i) (oz z i) := fun i hi => zz_eq (fun m hm => e m (by omega)) (fun q hq => es i (by omega) q hq) (fun q hq => eo i hi q hq)
  refine ⟨kn, ?_, h.hs.congr fun q hq => es 0 (by omega) q hq, fun i hi => ?_, fun i hi => ?_, fun i hi q hq => ?_, fun i hi q hq => ?_, fun hk => ?_, fun hk => ?_⟩
  · have := h.hc
    unfold cavP at *
    rw [e 0 (by omega), e 1 (by omega), e 2 (by omega), e 3 (by omega), e 4 (by omega), e 5 (by omega), e 6 (by omega), e 7 (by omega), e 8 (by omega), e 9 (by omega), e 10 (by omega)]
    exact this
  · have := h.ho i hi
    unfold opOk at *
    rw [zz_eq (c := zeros) (c' := zeros) (s := zeros) (s' := zeros) (fun _ _ => rfl) (fun _ _ => rfl) (fun q hq => eo i (by omega) q hq)]
    exact this
  · have := h.can i hi
    unfold canO at *
    rw [ez i (by omega)]; exact this
  · have := h.st i hi q hq
    unfold aftO at *
    rw [ez i (by omega), e _ (by omega)]; exact this
  · have := h.go i hi q hq
    unfold gonO at *
    rw [ez i (by omega), e _ (by omega)]; exact this
  · have := h.no hk
    unfold canO at *
    rw [ez k (by omega)]; exact this
  · obtain ⟨g, bd⟩ := h.na hk
    refine ⟨?_, fun q hq => by rw [e _ (by omega)]; exact bd q hq⟩
    rw [cav_eq (c' := z) (fun m hm => e m (by omega)), sV_congr (b := sz z k) (fun q hq => es k (by omega) q hq), o_eq (o' := oz z k) (fun q hq => eo k (by omega) q hq)]
    have ea : ansV (fun q => z' (600 + q)) zeros (.bool false) = ansV (fun q => z (600 + q)) zeros (.bool false) := by
      unfold ansV
      rw [sV_congr (a := fun q => z' (600 + q)) (b := fun q => z (600 + q)) fun q hq => e _ (by omega)]
    rw [ea]
    exact g
theorem good_zT {n k : Nat} (hc : cavP c) (hs : StI s) (hO : ∀ i, i < n → opOk (O i)) (hn : n ≤ 12) (hk : Stop c s O n k) (ha : k < n → Gives (Fence.there P) 31 #[cavV c, sV (sts c s O k), oV (O k)] (ansV a zeros (.bool false)) ∧ ∀ q, 0 ≤ a q ∧ a q ≤ 200000000000) (hh : HasP s p) (ht : ∀ i, i < n → TruP (O i) (sh i) (wt i)) : GoodT n k (zT c s O a p sh wt) := by
  have gx := good_mono (z' := zT c s O a p sh wt) (good_zX hc hs hO hn hk ha) (fun m hm => zT_lo hm) hn
  have kn := gx.kn
  refine ⟨gx, hh.congr (fun q hq => zT_sz 0 q (by omega) hq) (fun q hq => zT_pz 0 q (by omega) hq), fun i hi => ?_, fun i hi q hq => ?_, fun i hi q hq _ => ?_⟩
  · have := ht i hi
    unfold TruP at *
    rw [zT_oz i 6 (by omega) (by omega), zT_oz i 7 (by omega) (by omega), zT_oz i 8 (by omega) (by omega), zT_oz i 9 (by omega) (by omega), show shz (zT c s O a p sh wt) i = sh i from zT_sh i (by omega), show wtz (zT c s O a p sh wt) i = wt i from zT_wt i (by omega)]
    exact this
  · rw [zT_yy i (by omega)]
    exact zT_pz (i + 1) q (by omega) hq
  · rw [zT_yy i (by omega)]
    exact zT_u i q (by omega) hq
/-- What goes out lies within what is told. -/
theorem facts_T {n k : Nat} {z : Nat → Int} (h : GoodT n k z) : LtsP (ov z) (ltsT k) := by
  have kn := h.gx.kn
  have one : ∀ i, i < k → LtsP (ov z) [(.v (760 + 4 * i), .v (500 + 6 * i), false), (.v (500 + 6 * i + 1), .v (760 + 4 * i), false), (.v (760 + 4 * i + 1), .v (500 + 6 * i + 2), false), (.v (500 + 6 * i + 3), .v (760 + 4 * i + 1), false), (.v (760 + 4 * i + 3), .v (500 + 6 * i + 4), false), (.v (500 + 6 * i + 5), .v (760 + 4 * i + 3), false)] := fun i hi => by
    have o := (play_yy h.gx.hc (h.gx.sti i (by omega)) (h.gx.ho i (by omega)) (h.has_all i (by omega)) (h.tru i (by omega)) (h.gx.can i hi)).2.2
    unfold OutN at o
    rw [(yy_aft z _ _ _ _ _).2.1] at o
    have u0 := h.ul i hi 0 (by omega) (by omega); have u1 := h.ul i hi 1 (by omega) (by omega); have u3 := h.ul i hi 3 (by omega) (by omega)
    have g0 := h.gx.go i hi 0 (by omega); have g1 := h.gx.go i hi 1 (by omega); have g2 := h.gx.go i hi 2 (by omega); have g3 := h.gx.go i hi 3 (by omega); have g4 := h.gx.go i hi 4 (by omega); have g5 := h.gx.go i hi 5 (by omega)
    rw [← g0, ← g1, ← g2, ← g3, ← g4, ← g5, ← u0, ← u1, ← u3] at o
    exact ⟨o.1.1, o.1.2, o.2.1.1, o.2.1.2, o.2.2.1.1, o.2.2.1.2, trivial⟩
  have all : ∀ l : List Nat, (∀ i ∈ l, i < k) → LtsP (ov z) (l.flatMap fun i => [(.v (760 + 4 * i), .v (500 + 6 * i), false), (.v (500 + 6 * i + 1), .v (760 + 4 * i), false), (.v (760 + 4 * i + 1), .v (500 + 6 * i + 2), false), (.v (500 + 6 * i + 3), .v (760 + 4 * i + 1), false), (.v (760 + 4 * i + 3), .v (500 + 6 * i + 4), false), (.v (500 + 6 * i + 5), .v (760 + 4 * i + 3), false)]) := fun l => by
    induction l with
    | nil => intro _; trivial
    | cons i r ih => intro hl; exact lts_ap (one i (hl i (List.mem_cons_self ..))) (ih fun x hx => hl x (List.mem_cons_of_mem _ hx))
  exact all _ fun i hi => List.mem_range.1 hi
end
end Go.Ev.Gas
end

section
set_option maxRecDepth 100000
namespace Go.Ev.Gas
open Go.RowKit Go.Ev.Num Go.Proofs
theorem first_not {Q : Nat → Prop} : ∀ n, (¬ ∀ i, i < n → Q i) → ∃ j, j < n ∧ (∀ i, i < j → Q i) ∧ ¬ Q j
  | 0, h => absurd (fun i hi => absurd hi (by omega)) h
  | n + 1, h => by
    by_cases hn : ∀ i, i < n → Q i
    · refine ⟨n, by omega, hn, fun hq => h fun i hi => ?_⟩
      by_cases e : i = n
      · subst e; exact hq
      · exact hn i (by omega)
    · obtain ⟨j, h1, h2, h3⟩ := first_not n hn
      exact ⟨j, by omega, h2, h3⟩
theorem truth_no {w : World} {b off cap n : Nat} {v2 v3 : Value} {O : Nat → Nat → Int} {Sh Wt : Nat → Nat → Int} (h0 : 1 ≤ n) (hn : n ≤ 12) (hb : b < w.heap.size) (hcap : n ≤ cap) (hS : SLAt 10 w b off n O) (h2 : SL 1 w v2 n Sh) (h3 : SL 1 w v3 n Wt) (iO : ∀ i, ints (O i)) (i2 : ∀ i, inB (Sh i 0)) (i3 : ∀ i, inB (Wt i 0)) (hno : ¬ ∀ i, i < n → TruP (O i) (Sh i 0) (Wt i 0)) :
    Calls P 39 #[.slice (some ⟨b, off, none⟩) n cap, v2, v3] w fun e w' => e = .returned (.bool false) ∧ Below w.heap.size w w' := by
  obtain ⟨j, hj, hyes, hbad⟩ := first_not n hno
  let z := zT zeros zeros O zeros zeros (fun i => Sh i 0) (fun i => Wt i 0)
  have eo : ∀ i q, i < 12 → q < 10 → oz z i q = O i q := fun i q hi hq => zT_oz i q hi hq
  have es : ∀ i, i < 12 → shz z i = Sh i 0 := fun i hi => zT_sh i hi
  have ew : ∀ i, i < 12 → wtz z i = Wt i 0 := fun i hi => zT_wt i hi
  have kSh : ∀ i, i < 12 → (okSh z i ↔ (O i 6 ≤ Sh i 0 ∧ Sh i 0 ≤ O i 7)) := fun i hi => by unfold okSh; rw [eo i 6 hi (by omega), eo i 7 hi (by omega), es i hi]
  have kWt : ∀ i, i < 12 → (okWt z i ↔ (O i 8 ≤ Wt i 0 ∧ Wt i 0 ≤ O i 9)) := fun i hi => by unfold okWt; rw [eo i 8 hi (by omega), eo i 9 hi (by omega), ew i hi]
  have bb : ∀ i, i < n → (∀ q, q < 10 → inB (oz z i q)) ∧ inB (shz z i) ∧ inB (wtz z i) := fun i hi => ⟨fun q hq => by rw [eo i q (by omega) hq]; exact iO i q, by rw [es i (by omega)]; exact i2 i, by rw [ew i (by omega)]; exact i3 i⟩
  have yes : ∀ i, i < j → okSh z i ∧ okWt z i := fun i hi => ⟨(kSh i (by omega)).2 (hyes i hi).1, (kWt i (by omega)).2 (hyes i hi).2⟩
  have eb : Nat.beq j n = false := by
    cases h : Nat.beq j n with
    | false => rfl
    | true => have := Nat.eq_of_beq_eq_true h; omega
  have go : ∀ kd, kd < 2 → G39 n j kd z → Calls P 39 #[.slice (some ⟨b, off, none⟩) n cap, v2, v3] w fun e w' => e = .returned (.bool false) ∧ Below w.heap.size w w' := fun kd hkd hg => by
    have c := con39 (k39_no n j kd h0 hn hj hkd)
    rw [eb] at c
    have r1 : RowAt (ov z) w (.slice (some ⟨b, off, none⟩) n cap) (10, n, rowsX n) := rows_of (fun i hi => (bb i hi).1) (fun i q hi hq => by rw [eo i q (by omega) hq]; exact hS i q hi hq) hb hcap
    have r2 : RowAt (ov z) w v2 (1, n, tN 820 n) := sl_row (by omega) h0 (by omega) h2 fun i j hi hj => by
      have : j = 0 := by omega
      subst this
      exact ⟨by rw [show 820 + (i * 1 + 0) = 820 + i by omega]; exact es i (by omega), i2 i⟩
    have r3 : RowAt (ov z) w v3 (1, n, tN 840 n) := sl_row (by omega) h0 (by omega) h3 fun i j hi hj => by
      have : j = 0 := by omega
      subst this
      exact ⟨by rw [show 840 + (i * 1 + 0) = 840 + i by omega]; exact ew i (by omega), i3 i⟩
    have := c (ov z) (ov_one z) hg [] [.slice (some ⟨b, off, none⟩) n cap, v2, v3] w 0 ⟨envZ z, rfl, by simp only [w39b, VRs]⟩ ⟨r1, r2, r3, trivial⟩
    refine (this.calls (room_there P)).mono fun e w' ⟨⟨v1, h1, e2, _, h4⟩, h5⟩ => ⟨?_, h5⟩
    simp only [w39b, VR] at h4
    rw [h1, h4]
  by_cases hsh : okSh z j
  · refine go 1 (by omega) ⟨yes, fun _ => ⟨fun h => absurd h (by omega), fun _ => ⟨hsh, fun hw => hbad ⟨(kSh j (by omega)).1 hsh, (kWt j (by omega)).1 hw⟩⟩⟩, by omega, bb⟩
  · exact go 0 (by omega) ⟨yes, fun _ => ⟨fun _ => hsh, fun h => absurd h (by omega)⟩, by omega, bb⟩
theorem law8_g {c s p : Nat → Int} {O Sh Wt : Nat → Nat → Int} (ip : ints p) (i2 : ∀ i, inB (Sh i 0)) (i3 : ∀ i, inB (Wt i 0)) (hc : cavP c) (hs : StI s) {n : Nat} (h1 : 1 ≤ n) (hn : n ≤ 12) (hO : ∀ i, i < n → opOk (O i)) (hh : HasP s p) (ht : ∀ i, i < n → TruP (O i) (Sh i 0) (Wt i 0)) (b off cap : Nat) (w : World) (hb : b < w.heap.size) (hcap : n ≤ cap) (hcells : SLAt 10 w b off n O) {v2 v3 : Value} (hs2 : SL 1 w v2 n Sh) (hs3 : SL 1 w v3 n Wt) :
    Calls P 8 #[cavV c, sV s, .slice (some ⟨b, off, none⟩) n cap, pV p, v2, v3] w fun e w' => e = .returned (.bool true) ∧ Below w.heap.size w w' := by
  obtain ⟨k, hk⟩ := stop_is c s O n
  have ha : ∃ a : Nat → Int, k < n → Gives (Fence.there P) 31 #[cavV c, sV (sts c s O k), oV (O k)] (ansV a zeros (.bool false)) ∧ ∀ q, 0 ≤ a q ∧ a q ≤ 200000000000 := by
    by_cases h : k < n
    · obtain ⟨a, ha, hg⟩ := ref_not ((zz_cavP c (sts c s O k) (O k)).2 hc) ((zz_stP c (sts c s O k) (O k)).2 (sts_in hc hs k fun i hi => ⟨hO i (by omega), hk.2.1 i hi⟩)) ((zz_opP c (sts c s O k) (O k)).2 (hO k h)) (hk.2.2 h)
      exact ⟨a, fun _ => ⟨hg, ha⟩⟩
    · exact ⟨zeros, fun h' => absurd h' h⟩
  obtain ⟨a, ha⟩ := ha
  have hG := good_zT (a := a) (p := p) (sh := fun i => Sh i 0) (wt := fun i => Wt i 0) hc hs hO hn hk ha hh ht
  have hf := facts_T hG
  generalize hz : zT c s O a p (fun i => Sh i 0) (fun i => Wt i 0) = z at hG hf
  have ec : cavV z = cavV c := by rw [← hz]; exact cav_eq fun m hm => (zT_lo (by omega)).trans (zX_c m hm)
  have es : stV z = sV s := by
    show sV (sz z 0) = sV s
    rw [← hz]
    exact sV_congr (a := sz (zT c s O a p (fun i => Sh i 0) (fun i => Wt i 0)) 0) (b := s) fun q hq => zT_sz 0 q (by omega) hq
  have ep : pV (pzt z 0) = pV p := by
    have e : ∀ q, q < 4 → pzt z 0 q = p q := fun q hq => by rw [← hz]; exact zT_pz 0 q (by omega) hq
    simp only [pV, e 0 (by omega), e 1 (by omega), e 2 (by omega), e 3 (by omega)]
  have e2 : ∀ i, i < 12 → z (820 + i) = Sh i 0 := fun i hi => by rw [← hz]; exact zT_sh i hi
  have e3 : ∀ i, i < 12 → z (840 + i) = Wt i 0 := fun i hi => by rw [← hz]; exact zT_wt i hi
  have eq : ∀ q, q < 4 → z (700 + q) = p q := fun q hq => by rw [← hz]; exact zT_pz 0 q (by omega) hq
  have sl1 : ∀ {v : Value} {F : Nat → Nat → Int} {G : Nat → Nat → Int}, SL 1 w v n F → (∀ i, i < 12 → F i 0 = G i 0) → SL 1 w v n G := fun h e => by
    rcases h with h | ⟨b1, o1, c1, t1, t2, t3, t4, t5⟩
    · exact .inl h
    · exact .inr ⟨b1, o1, c1, t1, t2, t3, t4, fun i j hi hj => by
        have : j = 0 := by omega
        subst this
        rw [← e i (by omega)]; exact t5 i 0 hi hj⟩
  have := true_run h1 (okT_all n k h1 hn hk.1) (k39_yes n h1 hn) hG (fun i hi => ⟨by rw [e2 i (by omega)]; exact i2 i, by rw [e3 i (by omega)]; exact i3 i⟩) (fun q hq => by rw [eq q hq]; exact ip q) hf b off cap w hb hcap (fun i q hi hq => by rw [← hz, zT_oz i q (by omega) hq]; exact hcells i q hi hq)
    (sl1 hs2 (G := fun i _ => z (820 + i)) fun i hi => (e2 i hi).symm) (sl1 hs3 (G := fun i _ => z (840 + i)) fun i hi => (e3 i hi).symm)
  rw [ec, es, ep] at this
  exact this
theorem true_fin {z : Nat → Int} (hz : ints z) {v v2 v3 : Value} {n n2 n3 : Nat} {O Sh Wt : Nat → Nat → Int} {w : World} (h : SL 10 w v n O ∧ ∀ i, ints (O i)) (h2 : SL 1 w v2 n2 Sh ∧ ∀ i, inB (Sh i 0)) (h3 : SL 1 w v3 n3 Wt ∧ ∀ i, inB (Wt i 0)) :
    Calls P 8 #[cavV z, stV z, v, pV (fun q => z (19 + q)), v2, v3] w fun e w' => e = .returned (.bool true) ∧ Below w.heap.size w w' := by
  obtain ⟨h, iO⟩ := h
  obtain ⟨h2, i2⟩ := h2
  obtain ⟨h3, i3⟩ := h3
  show Calls P 8 #[cavV z, sV (fun q => z (11 + q)), v, pV (fun q => z (19 + q)), v2, v3] w _
  have is : ints (fun q => z (11 + q)) := fun q => hz _
  have ip : ints (fun q => z (19 + q)) := fun q => hz _
  generalize (fun q => z (11 + q)) = s at is ⊢
  generalize (fun q => z (19 + q)) = p at ip ⊢
  have i0 : ints zeros := fun i => by show _ ≤ (0 : Int) ∧ (0 : Int) ≤ _; omega
  have c2 := says19 hz
  have s2 := says20 (z := zz zeros s zeros) (zz_ints i0 is i0)
  rw [zz_stP] at s2
  rw [zz_st] at s2
  have hm : ∀ {sz m : Nat} {v : Value} {F : Nat → Nat → Int}, SL sz w v m F → m ≤ 9223372036854775807 := fun h => by
    rcases h with ⟨_, _, _, h0⟩ | ⟨_, _, _, _, _, _, h4, _⟩ <;> omega
  have hm1 := hm h; have hm2 := hm h2; have hm3 := hm h3
  have h' := h; have h2' := h2; have h3' := h3
  obtain ⟨a, cap, rfl⟩ := h.len
  obtain ⟨a2, cap2, rfl⟩ := h2.len
  obtain ⟨a3, cap3, rfl⟩ := h3.len
  by_cases hn : n ≤ 12
  · by_cases hn2 : n2 ≤ 20
    · by_cases hn3 : n3 ≤ 20
      · by_cases hc : cavP z
        · by_cases hs : StI s
          · obtain ⟨kb, hk⟩ := bad_is O n
            by_cases hkn : kb < n
            · exact law8_o z s p w a a2 a3 n n2 n3 cap cap2 cap3 hn hn2 hn3 (c2.1 hc) (s2.1 hs) (fun w' hB => ops36_any (h'.below hB) iO hk false (by rw [decide_eq_false (by omega)]))
            · have e : kb = n := by have := hk.1; omega
              subst e
              have hO := hk.2.1
              have o36 : ∀ w', Below w.heap.size w w' → Calls Try.prog 36 #[.slice a kb cap] w' fun e w'' => e = .returned (.bool true) ∧ Below w'.heap.size w' w'' := fun w' hB => ops36_any (h'.below hB) iO hk true (by simp)
              by_cases hh : HasP s p
              · have r26 := ret_of (gives26x hs hh)
                by_cases hl2 : n2 = kb
                · by_cases hl3 : n3 = kb
                  · subst hl2
                    subst hl3
                    by_cases n0 : n3 = 0
                    · subst n0
                      exact law8_z z s p w a a2 a3 cap cap2 cap3 hc hs r26
                    · rcases h with ⟨_, _, _, h0⟩ | ⟨b, off, cap', e, t2, t3, _, t5⟩
                      · omega
                      cases e
                      by_cases ht : ∀ i, i < n3 → TruP (O i) (Sh i 0) (Wt i 0)
                      · exact law8_g ip i2 i3 hc hs (by omega) hn hO hh ht b off cap w t2 t3 t5 h2' h3'
                      · refine law8_t z s p w (some ⟨b, off, none⟩) a2 a3 n3 n3 n3 cap cap2 cap3 hn hn2 hn3 (c2.1 hc) (s2.1 hs) o36 r26 (fun w' hB => truth_no (by omega) hn (by have := hB.size; omega) t3 (fun i j hi hj => by rw [hB.cell (p := ⟨b, off + (i * 10 + j), none⟩) t2]; exact t5 i j hi hj) (h2'.below hB) (h3'.below hB) iO i2 i3 ht)
                  · exact law8_t z s p w a a2 a3 kb n2 n3 cap cap2 cap3 hn hn2 hn3 (c2.1 hc) (s2.1 hs) o36 r26 (fun w' hB => by
                      subst hl2
                      exact truth_len2 a a2 a3 n2 n3 cap cap2 cap3 hl3 w')
                · exact law8_t z s p w a a2 a3 kb n2 n3 cap cap2 cap3 hn hn2 hn3 (c2.1 hc) (s2.1 hs) o36 r26 (fun w' hB => truth_len1 a a2 a3 kb n2 n3 cap cap2 cap3 hl2 w')
              · exact law8_h z s p w a a2 a3 kb n2 n3 cap cap2 cap3 hn hn2 hn3 (c2.1 hc) (s2.1 hs) o36 (says26 is ip hh)
          · exact law8_s z s p w a a2 a3 n n2 n3 cap cap2 cap3 hn hn2 hn3 (c2.1 hc) (s2.2 hs)
        · exact law8_c z s p w a a2 a3 n n2 n3 cap cap2 cap3 hn hn2 hn3 (c2.2 hc)
      · exact law8_w z s p w a a2 a3 n n2 n3 cap cap2 cap3 hn hn2 (by omega)
    · exact law8_b z s p w a a2 a3 n n2 n3 cap cap2 cap3 hn (by omega)
  · exact law8_a z s p w a a2 a3 n n2 n3 cap cap2 cap3 (by omega)
end Go.Ev.Gas
end

