/-
  For every cavern, every state and every list of operations the law GasSteps returns true, and its arguments read behind the call as they read before. No condition.
-/
import Derived.Test.YtdpegcimhhegmaaStD
import Derived.Test.YtdpegcimhhegmaaStE
import Derived.Test.YtdpegcimhhegmaaRunA
import Derived.Test.YtdpegcimhhegmaaRunB
import Derived.Test.YtdpegcimhhegmaaRunC
import Derived.Test.YtdpegcimhhegmaaRunD
import Derived.Test.YtdpegcimhhegmaaOpen
import Derived.Test.YtdpegcimhhegmaaStO
import Derived.Test.YtdpegcimhhegmaaFactsSt
set_option linter.unusedVariables false
set_option linter.unusedSimpArgs false
set_option linter.unusedSectionVars false
section
set_option maxRecDepth 100000
namespace Go.Ev.Gas
open Go.RowKit Go.Ev.Num Go.Proofs
theorem okn_1 : ∀ k, k ≤ 1 → okX 1 k = true
  | 0, _ => okX_1_0
  | 1, _ => okX_1_1
  | k + 2, h => absurd h (by omega)
theorem okn_2 : ∀ k, k ≤ 2 → okX 2 k = true
  | 0, _ => okX_2_0
  | 1, _ => okX_2_1
  | 2, _ => okX_2_2
  | k + 3, h => absurd h (by omega)
theorem okn_3 : ∀ k, k ≤ 3 → okX 3 k = true
  | 0, _ => okX_3_0
  | 1, _ => okX_3_1
  | 2, _ => okX_3_2
  | 3, _ => okX_3_3
  | k + 4, h => absurd h (by omega)
theorem okn_4 : ∀ k, k ≤ 4 → okX 4 k = true
  | 0, _ => okX_4_0
  | 1, _ => okX_4_1
  | 2, _ => okX_4_2
  | 3, _ => okX_4_3
  | 4, _ => okX_4_4
  | k + 5, h => absurd h (by omega)
theorem okn_5 : ∀ k, k ≤ 5 → okX 5 k = true
  | 0, _ => okX_5_0
  | 1, _ => okX_5_1
  | 2, _ => okX_5_2
  | 3, _ => okX_5_3
  | 4, _ => okX_5_4
  | 5, _ => okX_5_5
  | k + 6, h => absurd h (by omega)
theorem okn_6 : ∀ k, k ≤ 6 → okX 6 k = true
  | 0, _ => okX_6_0
  | 1, _ => okX_6_1
  | 2, _ => okX_6_2
  | 3, _ => okX_6_3
  | 4, _ => okX_6_4
  | 5, _ => okX_6_5
  | 6, _ => okX_6_6
  | k + 7, h => absurd h (by omega)
theorem okn_7 : ∀ k, k ≤ 7 → okX 7 k = true
  | 0, _ => okX_7_0
  | 1, _ => okX_7_1
  | 2, _ => okX_7_2
  | 3, _ => okX_7_3
  | 4, _ => okX_7_4
  | 5, _ => okX_7_5
  | 6, _ => okX_7_6
  | 7, _ => okX_7_7
  | k + 8, h => absurd h (by omega)
theorem okn_8 : ∀ k, k ≤ 8 → okX 8 k = true
  | 0, _ => okX_8_0
  | 1, _ => okX_8_1
  | 2, _ => okX_8_2
  | 3, _ => okX_8_3
  | 4, _ => okX_8_4
  | 5, _ => okX_8_5
  | 6, _ => okX_8_6
  | 7, _ => okX_8_7
  | 8, _ => okX_8_8
  | k + 9, h => absurd h (by omega)
theorem okn_9 : ∀ k, k ≤ 9 → okX 9 k = true
  | 0, _ => okX_9_0
  | 1, _ => okX_9_1
  | 2, _ => okX_9_2
  | 3, _ => okX_9_3
  | 4, _ => okX_9_4
  | 5, _ => okX_9_5
  | 6, _ => okX_9_6
  | 7, _ => okX_9_7
  | 8, _ => okX_9_8
  | 9, _ => okX_9_9
  | k + 10, h => absurd h (by omega)
theorem okn_10 : ∀ k, k ≤ 10 → okX 10 k = true
  | 0, _ => okX_10_0
  | 1, _ => okX_10_1
  | 2, _ => okX_10_2
  | 3, _ => okX_10_3
  | 4, _ => okX_10_4
  | 5, _ => okX_10_5
  | 6, _ => okX_10_6
  | 7, _ => okX_10_7
  | 8, _ => okX_10_8
  | 9, _ => okX_10_9
  | 10, _ => okX_10_10
  | k + 11, h => absurd h (by omega)
theorem okn_11 : ∀ k, k ≤ 11 → okX 11 k = true
  | 0, _ => okX_11_0
  | 1, _ => okX_11_1
  | 2, _ => okX_11_2
  | 3, _ => okX_11_3
  | 4, _ => okX_11_4
  | 5, _ => okX_11_5
  | 6, _ => okX_11_6
  | 7, _ => okX_11_7
  | 8, _ => okX_11_8
  | 9, _ => okX_11_9
  | 10, _ => okX_11_10
  | 11, _ => okX_11_11
  | k + 12, h => absurd h (by omega)
theorem okn_12 : ∀ k, k ≤ 12 → okX 12 k = true
  | 0, _ => okX_12_0
  | 1, _ => okX_12_1
  | 2, _ => okX_12_2
  | 3, _ => okX_12_3
  | 4, _ => okX_12_4
  | 5, _ => okX_12_5
  | 6, _ => okX_12_6
  | 7, _ => okX_12_7
  | 8, _ => okX_12_8
  | 9, _ => okX_12_9
  | 10, _ => okX_12_10
  | 11, _ => okX_12_11
  | 12, _ => okX_12_12
  | k + 13, h => absurd h (by omega)
theorem ok_all : ∀ n k, 1 ≤ n → n ≤ 12 → k ≤ n → okX n k = true
  | 0, k, h, _, _ => absurd h (by omega)
  | 1, k, _, _, h => okn_1 k h
  | 2, k, _, _, h => okn_2 k h
  | 3, k, _, _, h => okn_3 k h
  | 4, k, _, _, h => okn_4 k h
  | 5, k, _, _, h => okn_5 k h
  | 6, k, _, _, h => okn_6 k h
  | 7, k, _, _, h => okn_7 k h
  | 8, k, _, _, h => okn_8 k h
  | 9, k, _, _, h => okn_9 k h
  | 10, k, _, _, h => okn_10 k h
  | 11, k, _, _, h => okn_11 k h
  | 12, k, _, _, h => okn_12 k h
  | n + 13, k, _, h, _ => absurd h (by omega)
theorem law7_g {c s : Nat → Int} {O : Nat → Nat → Int} (iO : ∀ i, ints (O i)) (hc : cavP c) (hs : StI s) {n : Nat} (h1 : 1 ≤ n) (hn : n ≤ 12) (hO : ∀ i, i < n → opOk (O i)) (b off cap : Nat) (w : World) (hb : b < w.heap.size) (hcap : n ≤ cap) (hcells : SLAt 10 w b off n O) :
    Calls P 7 #[cavV c, sV s, .slice (some ⟨b, off, none⟩) n cap] w fun e w' => e = .returned (.bool true) ∧ Below w.heap.size w w' := by
  obtain ⟨k, hk⟩ := stop_is c s O n
  have ha : ∃ a : Nat → Int, k < n → Gives (Fence.there P) 31 #[cavV c, sV (sts c s O k), oV (O k)] (ansV a zeros (.bool false)) ∧ ∀ q, 0 ≤ a q ∧ a q ≤ 200000000000 := by
    by_cases h : k < n
    · obtain ⟨a, ha, hg⟩ := ref_not ((zz_cavP c (sts c s O k) (O k)).2 hc) ((zz_stP c (sts c s O k) (O k)).2 (sts_in hc hs k fun i hi => ⟨hO i (by omega), hk.2.1 i hi⟩)) ((zz_opP c (sts c s O k) (O k)).2 (hO k h)) (hk.2.2 h)
      exact ⟨a, fun _ => ⟨hg, ha⟩⟩
    · exact ⟨zeros, fun h' => absurd h' h⟩
  obtain ⟨a, ha⟩ := ha
  have hG := good_zX (a := a) hc hs hO hn hk ha
  have ec : cavV (zX c s O a) = cavV c := cav_eq fun m hm => zX_c m hm
  have es : stV (zX c s O a) = sV s := (rfl : stV (zX c s O a) = sV (sz (zX c s O a) 0)).trans (sV_congr (a := sz (zX c s O a) 0) (b := s) fun q hq => zX_s (c := c) (s := s) (O := O) (a := a) 0 q (by omega) hq)
  have := steps_run (ok_all n k h1 hn hk.1) hG (fun j hj => ?_) b off cap w hb hcap (fun i q hi hq => ?_)
  · rw [ec, es] at this
    exact this
  · have := zX_o (c := c) (s := s) (O := O) (a := a) (j / 10) (j % 10) (by omega) (Nat.mod_lt _ (by omega))
    have e : oz (zX c s O a) (j / 10) (j % 10) = zX c s O a (100 + j) := by unfold oz; rw [show 100 + 10 * (j / 10) + j % 10 = 100 + j by omega]
    rw [← e, this]
    exact iO _ _
  · rw [zX_o i q (by omega) hq]
    exact hcells i q hi hq
theorem steps_fin {z : Nat → Int} (hz : ints z) {v : Value} {n : Nat} {O : Nat → Nat → Int} {w : World} (h : SL 10 w v n O ∧ ∀ i, ints (O i)) :
    Calls P 7 #[cavV z, stV z, v] w fun e w' => e = .returned (.bool true) ∧ Below w.heap.size w w' := by
  obtain ⟨h, iO⟩ := h
  show Calls P 7 #[cavV z, sV (fun q => z (11 + q)), v] w _
  have is : ints (fun q => z (11 + q)) := fun q => hz _
  generalize hS : (fun q => z (11 + q)) = s at is ⊢
  have i0 : ints zeros := fun i => by show _ ≤ (0 : Int) ∧ (0 : Int) ≤ _; omega
  have c1 := says54 hz
  have c2 := says19 hz
  have s1 := says55 (z := zz zeros s zeros) (zz_ints i0 is i0)
  have s2 := says20 (z := zz zeros s zeros) (zz_ints i0 is i0)
  rw [zz_stP] at s1 s2
  rw [zz_st] at s1 s2
  have hm : n ≤ 9223372036854775807 := by
    rcases h with ⟨_, _, _, h0⟩ | ⟨_, _, _, _, _, _, h4, _⟩ <;> omega
  by_cases hn : n ≤ 12
  · by_cases hc : cavP z
    · by_cases hs : StI s
      · obtain ⟨k, hk⟩ := bad_is O n
        by_cases hkn : k < n
        · have h' := h
          obtain ⟨a, cap, rfl⟩ := h.len
          exact law7_o z s w a n cap hn iO hk hkn (c1.1 hc) (c2.1 hc) (s1.1 hs) (s2.1 hs) h'
        · have e : k = n := by have := hk.1; omega
          subst e
          have hO := hk.2.1
          by_cases h0 : 1 ≤ k
          · rcases h with ⟨_, _, _, h0⟩ | ⟨b, off, cap, rfl, h2, h3, _, h5⟩
            · omega
            · exact law7_g iO hc hs h0 hn hO b off cap w h2 h3 h5
          · have : k = 0 := by omega
            subst this
            obtain ⟨a, cap, rfl⟩ := h.len
            exact law7_z z s a cap hz is hc hs (c2.1 hc) (s2.1 hs) w
      · obtain ⟨a, cap, rfl⟩ := h.len
        exact law7_s z s a n cap hn (c1.1 hc) (c2.1 hc) (s1.2 hs) (s2.2 hs) w
    · obtain ⟨a, cap, rfl⟩ := h.len
      exact law7_c z s a n cap hn (c1.2 hc) (c2.2 hc) w
  · obtain ⟨a, cap, rfl⟩ := h.len
    by_cases h2 : n ≤ 20
    · exact law7_a z s a n cap (by omega) h2 hm w
    · by_cases h3 : n ≤ 30
      · exact law7_l z s a n cap (by omega) h3 w
      · exact law7_b z s a n cap (by omega) hm w
end Go.Ev.Gas
end

section
set_option maxRecDepth 100000
namespace Go.Proofs.Ytdpegcimhhegmaa.steps
open Go.ChangeShapes Go.WideShapes Go.ChangeAt Go.RowKit Go.Joins Go.Ev.Gas
theorem lifted (os : Os) (started : os.Started) (H : Type) (enc : TypeId × Value → H) :
    ReturnsInHanded {} Try.checked os 7 .any (Rows.gasStepsSpec.pre6 enc Try.prog Try.f7 Rows.gasStepsRow.domain false) (Rows.gasStepsSpec.post enc Try.prog Try.f7 false true false false) := by
  refine returnsInHanded_of_change (C := Try.checked) own started (by kernel_rfl) Try.func7
    (ChangeSpec.witness6 (enc := enc) (C := Try.checked) false ⟨#[], #[.agg #[.int .i64 0, .int .i64 0, .int .i64 0, .int .i64 0, .int .i64 0, .int .i64 0, .int .i64 0, .int .i64 0, .int .i64 0, .int .i64 0, .int .i64 0], .agg #[.int .i64 0, .int .i64 0, .int .i64 0, .int .i64 0, .int .i64 0, .int .i64 0, .int .i64 0, .int .i64 0], .slice none 0 0], []⟩ 8 (by kernel_rfl) (by kernel_rfl) (by kernel_rfl) (by kernel_rfl)) ?_
  intro W base args ds gs before hval0 hW _ _
  have hval : ∀ (j : Nat) t v, Try.f7.params[j]? = some t → args[j]? = some v → Value.okWide Try.prog W .any base t v := hval0
  have hW' := hW
  obtain ⟨p, q, hA0, hV, rfl, hfz, hnd⟩ := hW
  have hA : DataW.TrodAll enc Try.prog W 0 (fun _ => true) true Try.f7.params.toList args.toList ds p := hA0
  rw [Try.params7] at hA hval
  obtain ⟨v0, v1, v2, d0, d1, d2, p0, p1, p2, rfl, rfl, rfl, h0, h1, h2⟩ := trodAll_three hA
  obtain ⟨rfl, rfl⟩ := trodVars_none hV
  clear hA0 hval0
  simp only [List.append_nil] at hW'
  have hlt0 : ∀ x ∈ p0, x.block < W.heap.size := fun x hx => hW'.lt x (by simp [hx])
  have g0 := h0
  have hlt1 : ∀ x ∈ p1, x.block < W.heap.size := fun x hx => hW'.lt x (by simp [hx])
  have g1 := h1
  have hlt2 : ∀ x ∈ p2, x.block < W.heap.size := fun x hx => hW'.lt x (by simp [hx])
  have g2 := h2
  obtain ⟨z0, i0, rfl⟩ := flat_open flat26 Try.underlying26 11 cells26 (hval 0 26 v0 rfl rfl) h0
  obtain ⟨z1, i1, rfl⟩ := flat_open flat28 Try.underlying28 8 cells28 (hval 1 28 v1 rfl rfl) h1
  obtain ⟨n2, l2, li2⟩ := ops_open hlt2 (hval 2 67 v2 rfl rfl) h2
  let z : Nat → Int := fun i => match i with | 0 => z0 0 | 1 => z0 1 | 2 => z0 2 | 3 => z0 3 | 4 => z0 4 | 5 => z0 5 | 6 => z0 6 | 7 => z0 7 | 8 => z0 8 | 9 => z0 9 | 10 => z0 10 | 11 => z1 0 | 12 => z1 1 | 13 => z1 2 | 14 => z1 3 | 15 => z1 4 | 16 => z1 5 | 17 => z1 6 | 18 => z1 7 | _ => 0
  have hz : ints z := fun i => by
    show _ ∧ _
    simp only [z]
    split
    · exact i0 0
    · exact i0 1
    · exact i0 2
    · exact i0 3
    · exact i0 4
    · exact i0 5
    · exact i0 6
    · exact i0 7
    · exact i0 8
    · exact i0 9
    · exact i0 10
    · exact i1 0
    · exact i1 1
    · exact i1 2
    · exact i1 3
    · exact i1 4
    · exact i1 5
    · exact i1 6
    · exact i1 7
    · omega
  refine (steps_fin hz li2).mono fun e W' ⟨he, hB⟩ => ?_
  subst he
  refine ⟨_, rfl, _, _, _, [], p0 ++ (p1 ++ (p2)), [], hW', ?_, ?_, ?_, hB.frame _, fun h => by cases h⟩
  · exact trodAll_mk1 (shut_bool Try.underlying4 true)
  · exact trodAll_mk3 (Below.trod laidOut (by kernel_rfl) (of_decide_eq_true (by kernel_rfl)) g0 hB hlt0) (Below.trod laidOut (by kernel_rfl) (of_decide_eq_true (by kernel_rfl)) g1 hB hlt1) (Below.trod laidOut (by kernel_rfl) (of_decide_eq_true (by kernel_rfl)) g2 hB hlt2)
  · rfl
theorem named : Try.prog.funcNamed Rows.gasStepsRow.func = some 7 := by kernel_rfl
theorem proved : Rows.GasStepsSaid :=
  OpenClaim.holds_of_wide 7 Try.f7 rfl rfl rfl rfl rfl rfl rfl ⟨rfl, rfl, rfl, rfl, rfl⟩ rfl rfl rfl rfl rfl named Try.func7 facts
    (of_decide_eq_true (by kernel_rfl)) (by unfold Func.isWrapper; first | (rw [if_pos (by decide +kernel)]; kernel_rfl) | (rw [if_neg (by decide +kernel)]; exact ⟨rfl, rfl⟩))
    (fun os started H enc _ => lifted os started H enc)
end Go.Proofs.Ytdpegcimhhegmaa.steps
end

