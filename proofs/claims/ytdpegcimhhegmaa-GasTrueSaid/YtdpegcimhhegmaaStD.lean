import Derived.Test.YtdpegcimhhegmaaStC
set_option linter.unusedVariables false
set_option linter.unusedSimpArgs false
set_option linter.unusedSectionVars false
section
set_option maxRecDepth 100000
namespace Go.Ev.Gas
open Go.RowKit Go.Ev.Num Go.Proofs
/-! ### GasSteps, but for the runs -/
set_option maxHeartbeats 4000000 in
theorem law7_a (c s : Nat → Int) (a : Option Addr) (n cap : Nat) (h1 : 12 < n) (h2 : n ≤ 20) (hm : n ≤ 9223372036854775807) (w : World) : Calls Try.prog 7 #[cavV c, sV s, .slice a n cap] w fun e w' => e = .returned (.bool true) ∧ Below w.heap.size w w' := by
  have g1 : (12 : Int) < (n : Int) := by omega
  have g2 : (n : Int) ≤ 20 := by omega
  have HB := Lib.hid (fun O O' => ((Below.refl w.heap.size w).alloc (Nat.le_refl _) O).alloc (by simp) O')
  have HK := Lib.hid known_says
  simp only [cavV, sV]
  go_enter Try.func7, Try.ntmps7
  go_wp2_with fail
  refine (HK.out _).mono ?_
  rintro e x1 ⟨rfl, hb1⟩
  obtain ⟨hc1, hf1⟩ := bcell hb1
  have hz1 := hb1.size
  simp at hz1
  have n1 : w.heap.size < x1.heap.size := by omega
  have o1 : w.heap.size + 1 < x1.heap.size := by omega
  have B1 := (HB.out _ _).trans (hb1.mono (by simp; omega))
  go_wp2
  go_ret
  exact ⟨rfl, B1⟩
set_option maxHeartbeats 4000000 in
theorem law7_b (c s : Nat → Int) (a : Option Addr) (n cap : Nat) (h1 : 30 < n) (hm : n ≤ 9223372036854775807) (w : World) : Calls Try.prog 7 #[cavV c, sV s, .slice a n cap] w fun e w' => e = .returned (.bool true) ∧ Below w.heap.size w w' := by
  have g1 : (12 : Int) < (n : Int) := by omega
  have g2 : ¬ (n : Int) ≤ 20 := by omega
  have g3 : (30 : Int) < (n : Int) := by omega
  have HB := Lib.hid (fun O O' => ((Below.refl w.heap.size w).alloc (Nat.le_refl _) O).alloc (by simp) O')
  have HK := Lib.hid known_says
  simp only [cavV, sV]
  go_enter Try.func7, Try.ntmps7
  go_wp2_with fail
  refine (HK.out _).mono ?_
  rintro e x1 ⟨rfl, hb1⟩
  obtain ⟨hc1, hf1⟩ := bcell hb1
  have hz1 := hb1.size
  simp at hz1
  have n1 : w.heap.size < x1.heap.size := by omega
  have o1 : w.heap.size + 1 < x1.heap.size := by omega
  have B1 := (HB.out _ _).trans (hb1.mono (by simp; omega))
  go_wp2
  go_ret
  exact ⟨rfl, B1⟩
set_option maxHeartbeats 4000000 in
theorem law7_l (c s : Nat → Int) (a : Option Addr) (n cap : Nat) (h1 : 20 < n) (h2 : n ≤ 30) (w : World) : Calls Try.prog 7 #[cavV c, sV s, .slice a n cap] w fun e w' => e = .returned (.bool true) ∧ Below w.heap.size w w' := by
  have g1 : (12 : Int) < (n : Int) := by omega
  have g2 : ¬ (n : Int) ≤ 20 := by omega
  have g3 : ¬ (30 : Int) < (n : Int) := by omega
  have g4 : (20 : Int) < (n : Int) := by omega
  have H1 := Lib.hid (fun w => steps35_long c s a n cap h1 (by omega) w)
  have HB := Lib.hid (fun O O' => ((Below.refl w.heap.size w).alloc (Nat.le_refl _) O).alloc (by simp) O')
  have HK := Lib.hid known_says
  simp only [cavV, sV] at H1 ⊢
  go_enter Try.func7, Try.ntmps7
  go_wp2_with fail
  refine (H1.out _).mono ?_
  rintro e x1 ⟨rfl, hb1⟩
  obtain ⟨hc1, hf1⟩ := bcell hb1
  have hz1 := hb1.size
  simp at hz1
  have n1 : w.heap.size < x1.heap.size := by omega
  have o1 : w.heap.size + 1 < x1.heap.size := by omega
  have B1 := (HB.out _ _).trans (hb1.mono (by simp; omega))
  go_wp2_with fail
  refine (HK.out _).mono ?_
  rintro e x2 ⟨rfl, hb2⟩
  obtain ⟨hc2, hf2⟩ := bcell hb2
  have hz2 := hb2.size
  have n2 : w.heap.size < x2.heap.size := by omega
  have o2 : w.heap.size + 1 < x2.heap.size := by omega
  have B2 := B1.trans (hb2.mono (by omega))
  go_wp2
  go_ret
  exact ⟨rfl, B2⟩
set_option maxHeartbeats 4000000 in
theorem law7_c (c s : Nat → Int) (a : Option Addr) (n cap : Nat) (hn : n ≤ 12) (h1 : Says 54 (cavV c) false) (h2 : Says 19 (cavV c) false) (w : World) : Calls Try.prog 7 #[cavV c, sV s, .slice a n cap] w fun e w' => e = .returned (.bool true) ∧ Below w.heap.size w w' := by
  have g1 : ¬ (12 : Int) < (n : Int) := by omega
  have g2 : ¬ (20 : Int) < (n : Int) := by omega
  have g3 : ¬ (30 : Int) < (n : Int) := by omega
  have H1 := Lib.hid (fun w => steps35_c c s a n cap (by omega) h1 w)
  have H2 := Lib.hid h2
  have HB := Lib.hid (fun O O' => ((Below.refl w.heap.size w).alloc (Nat.le_refl _) O).alloc (by simp) O')
  have HK := Lib.hid known_says
  clear h1 h2
  simp only [Says, cavV, sV] at H1 H2 ⊢
  go_enter Try.func7, Try.ntmps7
  go_wp2_with fail
  refine (H1.out _).mono ?_
  rintro e x1 ⟨rfl, hb1⟩
  obtain ⟨hc1, hf1⟩ := bcell hb1
  have hz1 := hb1.size
  simp at hz1
  have n1 : w.heap.size < x1.heap.size := by omega
  have o1 : w.heap.size + 1 < x1.heap.size := by omega
  have B1 := (HB.out _ _).trans (hb1.mono (by simp; omega))
  go_wp2_with fail
  refine (H2.out _).mono ?_
  rintro e x2 ⟨rfl, hb2⟩
  obtain ⟨hc2, hf2⟩ := bcell hb2
  have hz2 := hb2.size
  have n2 : w.heap.size < x2.heap.size := by omega
  have o2 : w.heap.size + 1 < x2.heap.size := by omega
  have B2 := B1.trans (hb2.mono (by omega))
  go_wp2_with fail
  refine (HK.out _).mono ?_
  rintro e x3 ⟨rfl, hb3⟩
  obtain ⟨hc3, hf3⟩ := bcell hb3
  have hz3 := hb3.size
  have n3 : w.heap.size < x3.heap.size := by omega
  have o3 : w.heap.size + 1 < x3.heap.size := by omega
  have B3 := B2.trans (hb3.mono (by omega))
  go_wp2
  go_ret
  exact ⟨rfl, B3⟩
set_option maxHeartbeats 4000000 in
theorem law7_s (c s : Nat → Int) (a : Option Addr) (n cap : Nat) (hn : n ≤ 12) (h1 : Says 54 (cavV c) true) (h2 : Says 19 (cavV c) true) (h3 : Says 55 (sV s) false) (h4 : Says 20 (sV s) false) (w : World) : Calls Try.prog 7 #[cavV c, sV s, .slice a n cap] w fun e w' => e = .returned (.bool true) ∧ Below w.heap.size w w' := by
  have g1 : ¬ (12 : Int) < (n : Int) := by omega
  have g2 : ¬ (20 : Int) < (n : Int) := by omega
  have g3 : ¬ (30 : Int) < (n : Int) := by omega
  have H1 := Lib.hid (fun w => steps35_s c s a n cap (by omega) h1 h3 w)
  have H2 := Lib.hid h2
  have H3 := Lib.hid h4
  have HB := Lib.hid (fun O O' => ((Below.refl w.heap.size w).alloc (Nat.le_refl _) O).alloc (by simp) O')
  have HK := Lib.hid known_says
  clear h1 h2 h3 h4
  simp only [Says, cavV, sV] at H1 H2 H3 ⊢
  go_enter Try.func7, Try.ntmps7
  go_wp2_with fail
  refine (H1.out _).mono ?_
  rintro e x1 ⟨rfl, hb1⟩
  obtain ⟨hc1, hf1⟩ := bcell hb1
  have hz1 := hb1.size
  simp at hz1
  have n1 : w.heap.size < x1.heap.size := by omega
  have o1 : w.heap.size + 1 < x1.heap.size := by omega
  have B1 := (HB.out _ _).trans (hb1.mono (by simp; omega))
  go_wp2_with fail
  refine (H2.out _).mono ?_
  rintro e x2 ⟨rfl, hb2⟩
  obtain ⟨hc2, hf2⟩ := bcell hb2
  have hz2 := hb2.size
  have n2 : w.heap.size < x2.heap.size := by omega
  have o2 : w.heap.size + 1 < x2.heap.size := by omega
  have B2 := B1.trans (hb2.mono (by omega))
  go_wp2_with fail
  refine (H3.out _).mono ?_
  rintro e x3 ⟨rfl, hb3⟩
  obtain ⟨hc3, hf3⟩ := bcell hb3
  have hz3 := hb3.size
  have n3 : w.heap.size < x3.heap.size := by omega
  have o3 : w.heap.size + 1 < x3.heap.size := by omega
  have B3 := B2.trans (hb3.mono (by omega))
  go_wp2_with fail
  refine (HK.out _).mono ?_
  rintro e x4 ⟨rfl, hb4⟩
  obtain ⟨hc4, hf4⟩ := bcell hb4
  have hz4 := hb4.size
  have n4 : w.heap.size < x4.heap.size := by omega
  have o4 : w.heap.size + 1 < x4.heap.size := by omega
  have B4 := B3.trans (hb4.mono (by omega))
  go_wp2
  go_ret
  exact ⟨rfl, B4⟩
set_option maxHeartbeats 4000000 in
theorem law7_o (c s : Nat → Int) (w : World) (a : Option Addr) (n cap : Nat) {O : Nat → Nat → Int} {k : Nat} (hn : n ≤ 12) (iO : ∀ i, ints (O i)) (hk : FirstBad O n k) (hkn : k < n) (h1 : Says 54 (cavV c) true) (h2 : Says 19 (cavV c) true) (h3 : Says 55 (sV s) true) (h4 : Says 20 (sV s) true) (h5 : SL 10 w (.slice a n cap) n O) : Calls Try.prog 7 #[cavV c, sV s, .slice a n cap] w fun e w' => e = .returned (.bool true) ∧ Below w.heap.size w w' := by
  have g1 : ¬ (12 : Int) < (n : Int) := by omega
  have g2 : ¬ (20 : Int) < (n : Int) := by omega
  have g3 : ¬ (30 : Int) < (n : Int) := by omega
  have H1 := Lib.hid (fun (w' : World) (h' : SL 10 w' (.slice a n cap) n O) => steps35_o c s iO (by omega) h1 h3 hk hkn w' h')
  have H4 := Lib.hid (fun (w' : World) (h' : SL 10 w' (.slice a n cap) n O) => ops36_any h' iO hk false (by rw [decide_eq_false (by omega)]))
  have H2 := Lib.hid h2
  have H3 := Lib.hid h4
  have HS := Lib.hid h5
  have HB := Lib.hid (fun O O' => ((Below.refl w.heap.size w).alloc (Nat.le_refl _) O).alloc (by simp) O')
  have HK := Lib.hid known_says
  clear h1 h2 h3 h4 h5 hk iO
  simp only [Says, cavV, sV] at H1 H2 H3 ⊢
  go_enter Try.func7, Try.ntmps7
  go_wp2_with fail
  refine (H1.out _ ((HS.out.alloc _).alloc _)).mono ?_
  rintro e x1 ⟨rfl, hb1⟩
  obtain ⟨hc1, hf1⟩ := bcell hb1
  have hz1 := hb1.size
  simp at hz1
  have n1 : w.heap.size < x1.heap.size := by omega
  have o1 : w.heap.size + 1 < x1.heap.size := by omega
  have B1 := (HB.out _ _).trans (hb1.mono (by simp; omega))
  go_wp2_with fail
  refine (H2.out _).mono ?_
  rintro e x2 ⟨rfl, hb2⟩
  obtain ⟨hc2, hf2⟩ := bcell hb2
  have hz2 := hb2.size
  have n2 : w.heap.size < x2.heap.size := by omega
  have o2 : w.heap.size + 1 < x2.heap.size := by omega
  have B2 := B1.trans (hb2.mono (by omega))
  go_wp2_with fail
  refine (H3.out _).mono ?_
  rintro e x3 ⟨rfl, hb3⟩
  obtain ⟨hc3, hf3⟩ := bcell hb3
  have hz3 := hb3.size
  have n3 : w.heap.size < x3.heap.size := by omega
  have o3 : w.heap.size + 1 < x3.heap.size := by omega
  have B3 := B2.trans (hb3.mono (by omega))
  go_wp2_with fail
  refine (H4.out _ (HS.out.below B3)).mono ?_
  rintro e x4 ⟨rfl, hb4⟩
  obtain ⟨hc4, hf4⟩ := bcell hb4
  have hz4 := hb4.size
  have n4 : w.heap.size < x4.heap.size := by omega
  have o4 : w.heap.size + 1 < x4.heap.size := by omega
  have B4 := B3.trans (hb4.mono (by omega))
  go_wp2_with fail
  refine (HK.out _).mono ?_
  rintro e x5 ⟨rfl, hb5⟩
  obtain ⟨hc5, hf5⟩ := bcell hb5
  have hz5 := hb5.size
  have n5 : w.heap.size < x5.heap.size := by omega
  have o5 : w.heap.size + 1 < x5.heap.size := by omega
  have B5 := B4.trans (hb5.mono (by omega))
  go_wp2
  go_ret
  exact ⟨rfl, B5⟩
theorem steps35_zero (c s : Nat → Int) (a : Option Addr) (cap : Nat) (hc : cavP c) (hs : StI s) (w : World) :
    Calls Try.prog 35 #[cavV c, sV s, .slice a 0 cap] w fun e w' => ∃ v', e = .returned (.tuple #[v', .int .i64 (-1), .int .i64 0]) ∧ SL 8 w' v' 0 (stF c s fun _ => zeros) ∧ Below w.heap.size w w' := by
  have i0 : ∀ i : Nat, ints ((fun _ => zeros : Nat → Nat → Int) i) := fun _ i => by show _ ≤ (0 : Int) ∧ (0 : Int) ≤ _; omega
  have st : Stop c s (fun _ => zeros) 0 0 := ⟨Nat.le_refl _, fun i hi => absurd hi (by omega), fun h => absurd h (by omega)⟩
  have sl : SL 10 w (.slice a 0 cap) 0 (fun _ => zeros) := .inl ⟨a, cap, rfl, rfl⟩
  exact (steps35g c s i0 sl (by omega) hc hs (fun i hi => absurd hi (by omega)) st (-1) rfl).mono fun e w' ⟨v', h1, h2, _, _, h3⟩ => ⟨v', h1, h2, h3⟩
set_option maxHeartbeats 1000000 in
theorem steps37_zero (c s : Nat → Int) (a : Option Addr) (cap : Nat) (w : World) :
    Calls Try.prog 37 #[cavV c, sV s, .slice a 0 cap] w fun e w' => e = .returned (.tuple #[.slice none 0 0, .int .i64 (-1)]) ∧ Below w.heap.size w w' := by
  simp only [cavV, sV]
  go_enter Try.func37, Try.ntmps37
  go_wp2
  refine wp_loop_rounds 1 ?_
  rw [rounds_succ]
  go_wp2
  go_ret2
  exact ⟨rfl, ((Below.refl w.heap.size w).alloc (Nat.le_refl _) _).alloc (by simp) _⟩
set_option maxHeartbeats 4000000 in
theorem law7_z (c s : Nat → Int) (a : Option Addr) (cap : Nat) (ic : ints c) (is : ints s) (hc : cavP c) (hs : StI s) (h2 : Says 19 (cavV c) true) (h4 : Says 20 (sV s) true) (w : World) : Calls Try.prog 7 #[cavV c, sV s, .slice a 0 cap] w fun e w' => e = .returned (.bool true) ∧ Below w.heap.size w w' := by
  have H1 := Lib.hid (fun (w' : World) => steps35_zero c s a cap hc hs w')
  have H5 := Lib.hid (fun (w' : World) => steps37_zero c s a cap w')
  have H2 := Lib.hid h2
  have H3 := Lib.hid h4
  have H4 := Lib.hid (fun (w' : World) => ops36_zero a cap w')
  have HB := Lib.hid (fun O O' => ((Below.refl w.heap.size w).alloc (Nat.le_refl _) O).alloc (by simp) O')
  have HK := Lib.hid known_says
  clear h2 h4 hc hs ic is
  simp only [Says, cavV, sV] at H1 H2 H3 H5 ⊢
  go_enter Try.func7, Try.ntmps7
  go_wp2_with fail
  refine (H1.out _).mono ?_
  rintro e x1 ⟨v1, rfl, hs1, hb1⟩
  obtain ⟨a1, cap1, rfl⟩ := hs1.len
  obtain ⟨hc1, hf1⟩ := bcell hb1
  have hz1 := hb1.size
  simp at hz1
  have n1 : w.heap.size < x1.heap.size := by omega
  have o1 : w.heap.size + 1 < x1.heap.size := by omega
  have B1 := (HB.out _ _).trans (hb1.mono (by simp; omega))
  go_wp2_with fail
  refine (H2.out _).mono ?_
  rintro e x2 ⟨rfl, hb2⟩
  obtain ⟨hc2, hf2⟩ := bcell hb2
  have hz2 := hb2.size
  have n2 : w.heap.size < x2.heap.size := by omega
  have o2 : w.heap.size + 1 < x2.heap.size := by omega
  have B2 := B1.trans (hb2.mono (by omega))
  go_wp2_with fail
  refine (H3.out _).mono ?_
  rintro e x3 ⟨rfl, hb3⟩
  obtain ⟨hc3, hf3⟩ := bcell hb3
  have hz3 := hb3.size
  have n3 : w.heap.size < x3.heap.size := by omega
  have o3 : w.heap.size + 1 < x3.heap.size := by omega
  have B3 := B2.trans (hb3.mono (by omega))
  go_wp2_with fail
  refine (H4.out _).mono ?_
  rintro e x4 ⟨rfl, hb4⟩
  obtain ⟨hc4, hf4⟩ := bcell hb4
  have hz4 := hb4.size
  have n4 : w.heap.size < x4.heap.size := by omega
  have o4 : w.heap.size + 1 < x4.heap.size := by omega
  have B4 := B3.trans (hb4.mono (by omega))
  go_wp2_with fail
  refine (H5.out _).mono ?_
  rintro e x5 ⟨rfl, hb5⟩
  obtain ⟨hc5, hf5⟩ := bcell hb5
  have hz5 := hb5.size
  have n5 : w.heap.size < x5.heap.size := by omega
  have o5 : w.heap.size + 1 < x5.heap.size := by omega
  have B5 := B4.trans (hb5.mono (by omega))
  have H6 := Lib.hid (fun (w' : World) => same38_zero a1 none cap1 0 w')
  go_wp2_with fail
  refine (H6.out _).mono ?_
  rintro e x6 ⟨rfl, hb6⟩
  obtain ⟨hc6, hf6⟩ := bcell hb6
  have hz6 := hb6.size
  have n6 : w.heap.size < x6.heap.size := by omega
  have o6 : w.heap.size + 1 < x6.heap.size := by omega
  have B6 := B5.trans (hb6.mono (by omega))
  go_wp2_with fail
  refine (HK.out _).mono ?_
  rintro e x7 ⟨rfl, hb7⟩
  obtain ⟨hc7, hf7⟩ := bcell hb7
  have hz7 := hb7.size
  have n7 : w.heap.size < x7.heap.size := by omega
  have o7 : w.heap.size + 1 < x7.heap.size := by omega
  have B7 := B6.trans (hb7.mono (by omega))
  go_wp2
  go_ret
  exact ⟨rfl, B7⟩
end Go.Ev.Gas
end

