import Derived.Test.YtdpegcimhhegmaaChD
set_option linter.unusedVariables false
set_option linter.unusedSimpArgs false
set_option linter.unusedSectionVars false
section
set_option maxRecDepth 100000
namespace Go.Ev.Gas
open Go.RowKit Go.Ev.Num Go.Proofs
set_option maxHeartbeats 1600000 in
theorem law15_5 (c s : Nat → Int) (w : World) {O : Nat → Nat → Int} (iO : ∀ i, ints (O i)) (hc : cavP c) (hs : StI s) (b off n cap m : Nat) (hn : n ≤ 12) (hcap : n ≤ cap) (hm : cap ≤ 9223372036854775807) (hf : 0 ≤ n) (hkf : ¬ m < n) (hO : ∀ i, i < n → opOk (O i)) (hk : Stop c s O n (m)) (hb : b < w.heap.size) (hS : SLAt 10 w b off n O) :
    Calls Try.prog 15 #[cavV c, sV s, .slice (some ⟨b, off, none⟩) n cap, .int .i64 (0)] w fun e w' => e = .returned (.bool true) ∧ Below w.heap.size w w' := by
  have g1 : ¬ (12 : Int) < (n : Int) := by omega
  have g2 : ¬ (0 : Int) < 0 := by omega
  have g3 : ¬ (n : Int) < (0 : Int) := by omega
  have g4 : (0 : Int) ≤ (0 : Int) := by omega
  have g5 : (0 : Int) ≤ (cap : Int) := by omega
  have hkn := hk.1
  have sb := fun i j (hi : i < m) (hj : j < 8) => sti_b (sts_in hc hs (i + 1) fun q hq => ⟨hO q (by have := hk.1; omega), hk.2.1 q (by omega)⟩) j hj
  have H2 := Lib.hid (ret_of (gives19 hc))
  have H3 := Lib.hid (ret_of (gives20 (z := zz zeros s zeros) hs))
  have H4 := Lib.hid (fun (w' : World) (h' : SLAt 10 w' b off n O) (hb' : b < w'.heap.size) => ops36_any (w := w') (.inr ⟨b, off, cap, rfl, hb', hcap, by omega, h'⟩) iO (k := n) ⟨Nat.le_refl _, hO, fun h => absurd h (by omega)⟩ true (by simp))
  have H5 := Lib.hid (fun (w' : World) (h' : SLAt 10 w' b off n O) (hb' : b < w'.heap.size) => steps35g (w := w') c s iO (.inr ⟨b, off, cap, rfl, hb', hcap, by omega, h'⟩) (by omega) hc hs hO hk (-1) (by rw [if_pos (by have := hk.1; omega)]))
  have H6 := Lib.hid (fun (w' : World) (h' : SLAt 10 w' b off n O) (hb' : b < w'.heap.size) => steps35g (w := w') c s iO (sl_head (f := 0) hb' hcap hn (by omega) h') (by omega) hc hs (fun i hi => hO i (by omega)) (k := 0) ⟨Nat.le_refl _, fun i hi => absurd hi (by omega), fun h => absurd h (by omega)⟩ (-1) (by rw [if_pos rfl]))
  have H8 := Lib.hid (fun (w' : World) (v' : Value) (h' : SL 10 w' v' n O) => steps35g (w := w') c s iO h' (by omega) hc hs hO hk (-1) (by rw [if_pos (by have := hk.1; omega)]))
  have H7 := Lib.hid (fun (w' : World) (v v' : Value) (h1 : SL 8 w' v m (stF c s O)) (h2 : SL 8 w' v' m (stF c s O)) => same38_any (by omega) h1 h2 sb)
  have g6 : (0 : Int) ≤ (m : Int) := by omega
  have g7 : (m : Int) ≤ 12 := by omega
  have g10 : (n : Int) ≤ (cap : Int) := by omega
  have g11 : (0 : Int) ≤ (n : Int) := by omega
  have HS := Lib.hid hS
  have HB := Lib.hid (fun O O' => ((Below.refl w.heap.size w).alloc (Nat.le_refl _) O).alloc (by simp) O')
  have HK := Lib.hid known_says
  clear iO hO hk hS hs hc sb
  simp only [Ret, cavV, stV, sV, zz] at H2 H3
  simp only [cavV, sV] at H5 H6 H8 ⊢
  go_enter Try.func15, Try.ntmps15
  go_wp2_with fail
  refine (H2.out _).mono ?_
  rintro e x1 ⟨rfl, hb1⟩
  obtain ⟨hc1, hf1⟩ := bcell hb1
  have hz1 := hb1.size
  simp at hz1
  have n1 : w.heap.size < x1.heap.size := by omega
  have o1 : w.heap.size + 1 < x1.heap.size := by omega
  have B1 := (HB.out _ _).trans (hb1.mono (by simp; omega))
  go_wp2_with fail
  refine (H3.out _).mono ?_
  rintro e x2 ⟨rfl, hb2⟩
  obtain ⟨hc2, hf2⟩ := bcell hb2
  have hz2 := hb2.size
  have n2 : w.heap.size < x2.heap.size := by omega
  have o2 : w.heap.size + 1 < x2.heap.size := by omega
  have B2 := B1.trans (hb2.mono (by omega))
  go_wp2_with fail
  refine (H4.out _ (HS.out.below hb B2) (by omega)).mono ?_
  rintro e x3 ⟨rfl, hb3⟩
  obtain ⟨hc3, hf3⟩ := bcell hb3
  have hz3 := hb3.size
  have n3 : w.heap.size < x3.heap.size := by omega
  have o3 : w.heap.size + 1 < x3.heap.size := by omega
  have B3 := B2.trans (hb3.mono (by omega))
  go_wp2_with fail
  refine (H5.out _ (HS.out.below hb B3) (by omega)).mono ?_
  rintro e x4 ⟨v4, rfl, hs4, hn4, hr4, hb4⟩
  obtain ⟨hc4, hf4⟩ := bcell hb4
  have hz4 := hb4.size
  have n4 : w.heap.size < x4.heap.size := by omega
  have o4 : w.heap.size + 1 < x4.heap.size := by omega
  have B4 := B3.trans (hb4.mono (by omega))
  have A4 : Below (w.heap.size + 2) ((w.alloc (.cells #[vi (c 0), vi (c 1), vi (c 2), vi (c 3), vi (c 4), vi (c 5), vi (c 6), vi (c 7), vi (c 8), vi (c 9), vi (c 10)] 26)).alloc (.cells #[vi (s 0), vi (s 1), vi (s 2), vi (s 3), vi (s 4), vi (s 5), vi (s 6), vi (s 7)] 28)) x4 := (((Below.refl _ _).trans (hb1.mono (by simp))).trans (hb2.mono (by omega))).trans (hb3.mono (by omega)) |>.trans (hb4.mono (by omega))
  have kc0 : x4.cell? ⟨w.heap.size, 0, none⟩ = some (.int .i64 (c 0)) := (A4.cell (p := ⟨w.heap.size, 0, none⟩) (by simp)).trans ((wa_cell w c s).1 0 (by omega))
  have kc1 : x4.cell? ⟨w.heap.size, 1, none⟩ = some (.int .i64 (c 1)) := (A4.cell (p := ⟨w.heap.size, 1, none⟩) (by simp)).trans ((wa_cell w c s).1 1 (by omega))
  have kc2 : x4.cell? ⟨w.heap.size, 2, none⟩ = some (.int .i64 (c 2)) := (A4.cell (p := ⟨w.heap.size, 2, none⟩) (by simp)).trans ((wa_cell w c s).1 2 (by omega))
  have kc3 : x4.cell? ⟨w.heap.size, 3, none⟩ = some (.int .i64 (c 3)) := (A4.cell (p := ⟨w.heap.size, 3, none⟩) (by simp)).trans ((wa_cell w c s).1 3 (by omega))
  have kc4 : x4.cell? ⟨w.heap.size, 4, none⟩ = some (.int .i64 (c 4)) := (A4.cell (p := ⟨w.heap.size, 4, none⟩) (by simp)).trans ((wa_cell w c s).1 4 (by omega))
  have kc5 : x4.cell? ⟨w.heap.size, 5, none⟩ = some (.int .i64 (c 5)) := (A4.cell (p := ⟨w.heap.size, 5, none⟩) (by simp)).trans ((wa_cell w c s).1 5 (by omega))
  have kc6 : x4.cell? ⟨w.heap.size, 6, none⟩ = some (.int .i64 (c 6)) := (A4.cell (p := ⟨w.heap.size, 6, none⟩) (by simp)).trans ((wa_cell w c s).1 6 (by omega))
  have kc7 : x4.cell? ⟨w.heap.size, 7, none⟩ = some (.int .i64 (c 7)) := (A4.cell (p := ⟨w.heap.size, 7, none⟩) (by simp)).trans ((wa_cell w c s).1 7 (by omega))
  have kc8 : x4.cell? ⟨w.heap.size, 8, none⟩ = some (.int .i64 (c 8)) := (A4.cell (p := ⟨w.heap.size, 8, none⟩) (by simp)).trans ((wa_cell w c s).1 8 (by omega))
  have kc9 : x4.cell? ⟨w.heap.size, 9, none⟩ = some (.int .i64 (c 9)) := (A4.cell (p := ⟨w.heap.size, 9, none⟩) (by simp)).trans ((wa_cell w c s).1 9 (by omega))
  have kc10 : x4.cell? ⟨w.heap.size, 10, none⟩ = some (.int .i64 (c 10)) := (A4.cell (p := ⟨w.heap.size, 10, none⟩) (by simp)).trans ((wa_cell w c s).1 10 (by omega))
  have ks0 : x4.cell? ⟨w.heap.size + 1, 0, none⟩ = some (.int .i64 (s 0)) := (A4.cell (p := ⟨w.heap.size + 1, 0, none⟩) (by simp)).trans ((wa_cell w c s).2 0 (by omega))
  have ks1 : x4.cell? ⟨w.heap.size + 1, 1, none⟩ = some (.int .i64 (s 1)) := (A4.cell (p := ⟨w.heap.size + 1, 1, none⟩) (by simp)).trans ((wa_cell w c s).2 1 (by omega))
  have ks2 : x4.cell? ⟨w.heap.size + 1, 2, none⟩ = some (.int .i64 (s 2)) := (A4.cell (p := ⟨w.heap.size + 1, 2, none⟩) (by simp)).trans ((wa_cell w c s).2 2 (by omega))
  have ks3 : x4.cell? ⟨w.heap.size + 1, 3, none⟩ = some (.int .i64 (s 3)) := (A4.cell (p := ⟨w.heap.size + 1, 3, none⟩) (by simp)).trans ((wa_cell w c s).2 3 (by omega))
  have ks4 : x4.cell? ⟨w.heap.size + 1, 4, none⟩ = some (.int .i64 (s 4)) := (A4.cell (p := ⟨w.heap.size + 1, 4, none⟩) (by simp)).trans ((wa_cell w c s).2 4 (by omega))
  have ks5 : x4.cell? ⟨w.heap.size + 1, 5, none⟩ = some (.int .i64 (s 5)) := (A4.cell (p := ⟨w.heap.size + 1, 5, none⟩) (by simp)).trans ((wa_cell w c s).2 5 (by omega))
  have ks6 : x4.cell? ⟨w.heap.size + 1, 6, none⟩ = some (.int .i64 (s 6)) := (A4.cell (p := ⟨w.heap.size + 1, 6, none⟩) (by simp)).trans ((wa_cell w c s).2 6 (by omega))
  have ks7 : x4.cell? ⟨w.heap.size + 1, 7, none⟩ = some (.int .i64 (s 7)) := (A4.cell (p := ⟨w.heap.size + 1, 7, none⟩) (by simp)).trans ((wa_cell w c s).2 7 (by omega))
  clear hc1 hc2 hc3 hc4 hf1 hf2 hf3 hf4
  go_wp2
  go_region_held3 (fun w' => w'.cell? ⟨w.heap.size, 0, none⟩ = some (.int .i64 (c 0)) ∧ w'.cell? ⟨w.heap.size, 1, none⟩ = some (.int .i64 (c 1)) ∧ w'.cell? ⟨w.heap.size, 2, none⟩ = some (.int .i64 (c 2)) ∧ w'.cell? ⟨w.heap.size, 3, none⟩ = some (.int .i64 (c 3)) ∧ w'.cell? ⟨w.heap.size, 4, none⟩ = some (.int .i64 (c 4)) ∧ w'.cell? ⟨w.heap.size, 5, none⟩ = some (.int .i64 (c 5)) ∧ w'.cell? ⟨w.heap.size, 6, none⟩ = some (.int .i64 (c 6)) ∧ w'.cell? ⟨w.heap.size, 7, none⟩ = some (.int .i64 (c 7)) ∧ w'.cell? ⟨w.heap.size, 8, none⟩ = some (.int .i64 (c 8)) ∧ w'.cell? ⟨w.heap.size, 9, none⟩ = some (.int .i64 (c 9)) ∧ w'.cell? ⟨w.heap.size, 10, none⟩ = some (.int .i64 (c 10)) ∧ w'.cell? ⟨w.heap.size + 1, 0, none⟩ = some (.int .i64 (s 0)) ∧ w'.cell? ⟨w.heap.size + 1, 1, none⟩ = some (.int .i64 (s 1)) ∧ w'.cell? ⟨w.heap.size + 1, 2, none⟩ = some (.int .i64 (s 2)) ∧ w'.cell? ⟨w.heap.size + 1, 3, none⟩ = some (.int .i64 (s 3)) ∧ w'.cell? ⟨w.heap.size + 1, 4, none⟩ = some (.int .i64 (s 4)) ∧ w'.cell? ⟨w.heap.size + 1, 5, none⟩ = some (.int .i64 (s 5)) ∧ w'.cell? ⟨w.heap.size + 1, 6, none⟩ = some (.int .i64 (s 6)) ∧ w'.cell? ⟨w.heap.size + 1, 7, none⟩ = some (.int .i64 (s 7))) (first | go_keep | exact keepS (x := x4.drew) ⟨kc0, kc1, kc2, kc3, kc4, kc5, kc6, kc7, kc8, kc9, kc10, ks0, ks1, ks2, ks3, ks4, ks5, ks6, ks7⟩ hb5 (by show _ < x4.heap.size; omega)) (first | (go_at_call 35; refine (H6.out _ (HS.out.below hb B4.drew) (by show b < x4.heap.size; omega)).mono ?_; rintro e x5 ⟨v5, rfl, hs5, hn5, hr5, hb5⟩))
  have b45 : Below x4.heap.size x4 x5 := ((Below.refl _ x4).drew).trans hb5
  have hz5 := b45.size
  have B5 := B4.trans (b45.mono (by omega))
  have e5 := hn5 trivial
  subst e5
  have A5 := A4.trans (b45.mono (by omega))
  have qc0 : x5.cell? ⟨w.heap.size, 0, none⟩ = some (.int .i64 (c 0)) := (A5.cell (p := ⟨w.heap.size, 0, none⟩) (by simp)).trans ((wa_cell w c s).1 0 (by omega))
  have qc1 : x5.cell? ⟨w.heap.size, 1, none⟩ = some (.int .i64 (c 1)) := (A5.cell (p := ⟨w.heap.size, 1, none⟩) (by simp)).trans ((wa_cell w c s).1 1 (by omega))
  have qc2 : x5.cell? ⟨w.heap.size, 2, none⟩ = some (.int .i64 (c 2)) := (A5.cell (p := ⟨w.heap.size, 2, none⟩) (by simp)).trans ((wa_cell w c s).1 2 (by omega))
  have qc3 : x5.cell? ⟨w.heap.size, 3, none⟩ = some (.int .i64 (c 3)) := (A5.cell (p := ⟨w.heap.size, 3, none⟩) (by simp)).trans ((wa_cell w c s).1 3 (by omega))
  have qc4 : x5.cell? ⟨w.heap.size, 4, none⟩ = some (.int .i64 (c 4)) := (A5.cell (p := ⟨w.heap.size, 4, none⟩) (by simp)).trans ((wa_cell w c s).1 4 (by omega))
  have qc5 : x5.cell? ⟨w.heap.size, 5, none⟩ = some (.int .i64 (c 5)) := (A5.cell (p := ⟨w.heap.size, 5, none⟩) (by simp)).trans ((wa_cell w c s).1 5 (by omega))
  have qc6 : x5.cell? ⟨w.heap.size, 6, none⟩ = some (.int .i64 (c 6)) := (A5.cell (p := ⟨w.heap.size, 6, none⟩) (by simp)).trans ((wa_cell w c s).1 6 (by omega))
  have qc7 : x5.cell? ⟨w.heap.size, 7, none⟩ = some (.int .i64 (c 7)) := (A5.cell (p := ⟨w.heap.size, 7, none⟩) (by simp)).trans ((wa_cell w c s).1 7 (by omega))
  have qc8 : x5.cell? ⟨w.heap.size, 8, none⟩ = some (.int .i64 (c 8)) := (A5.cell (p := ⟨w.heap.size, 8, none⟩) (by simp)).trans ((wa_cell w c s).1 8 (by omega))
  have qc9 : x5.cell? ⟨w.heap.size, 9, none⟩ = some (.int .i64 (c 9)) := (A5.cell (p := ⟨w.heap.size, 9, none⟩) (by simp)).trans ((wa_cell w c s).1 9 (by omega))
  have qc10 : x5.cell? ⟨w.heap.size, 10, none⟩ = some (.int .i64 (c 10)) := (A5.cell (p := ⟨w.heap.size, 10, none⟩) (by simp)).trans ((wa_cell w c s).1 10 (by omega))
  have qs0 : x5.cell? ⟨w.heap.size + 1, 0, none⟩ = some (.int .i64 (s 0)) := (A5.cell (p := ⟨w.heap.size + 1, 0, none⟩) (by simp)).trans ((wa_cell w c s).2 0 (by omega))
  have qs1 : x5.cell? ⟨w.heap.size + 1, 1, none⟩ = some (.int .i64 (s 1)) := (A5.cell (p := ⟨w.heap.size + 1, 1, none⟩) (by simp)).trans ((wa_cell w c s).2 1 (by omega))
  have qs2 : x5.cell? ⟨w.heap.size + 1, 2, none⟩ = some (.int .i64 (s 2)) := (A5.cell (p := ⟨w.heap.size + 1, 2, none⟩) (by simp)).trans ((wa_cell w c s).2 2 (by omega))
  have qs3 : x5.cell? ⟨w.heap.size + 1, 3, none⟩ = some (.int .i64 (s 3)) := (A5.cell (p := ⟨w.heap.size + 1, 3, none⟩) (by simp)).trans ((wa_cell w c s).2 3 (by omega))
  have qs4 : x5.cell? ⟨w.heap.size + 1, 4, none⟩ = some (.int .i64 (s 4)) := (A5.cell (p := ⟨w.heap.size + 1, 4, none⟩) (by simp)).trans ((wa_cell w c s).2 4 (by omega))
  have qs5 : x5.cell? ⟨w.heap.size + 1, 5, none⟩ = some (.int .i64 (s 5)) := (A5.cell (p := ⟨w.heap.size + 1, 5, none⟩) (by simp)).trans ((wa_cell w c s).2 5 (by omega))
  have qs6 : x5.cell? ⟨w.heap.size + 1, 6, none⟩ = some (.int .i64 (s 6)) := (A5.cell (p := ⟨w.heap.size + 1, 6, none⟩) (by simp)).trans ((wa_cell w c s).2 6 (by omega))
  have qs7 : x5.cell? ⟨w.heap.size + 1, 7, none⟩ = some (.int .i64 (s 7)) := (A5.cell (p := ⟨w.heap.size + 1, 7, none⟩) (by simp)).trans ((wa_cell w c s).2 7 (by omega))
  have hs45 := hs4.below b45
  clear hb5 hs4 kc0 kc1 kc2 kc3 kc4 kc5 kc6 kc7 kc8 kc9 kc10 ks0 ks1 ks2 ks3 ks4 ks5 ks6 ks7
  go_wp2
  go_region_held3 (fun w' => w'.cell? ⟨w.heap.size, 0, none⟩ = some (.int .i64 (c 0)) ∧ w'.cell? ⟨w.heap.size, 1, none⟩ = some (.int .i64 (c 1)) ∧ w'.cell? ⟨w.heap.size, 2, none⟩ = some (.int .i64 (c 2)) ∧ w'.cell? ⟨w.heap.size, 3, none⟩ = some (.int .i64 (c 3)) ∧ w'.cell? ⟨w.heap.size, 4, none⟩ = some (.int .i64 (c 4)) ∧ w'.cell? ⟨w.heap.size, 5, none⟩ = some (.int .i64 (c 5)) ∧ w'.cell? ⟨w.heap.size, 6, none⟩ = some (.int .i64 (c 6)) ∧ w'.cell? ⟨w.heap.size, 7, none⟩ = some (.int .i64 (c 7)) ∧ w'.cell? ⟨w.heap.size, 8, none⟩ = some (.int .i64 (c 8)) ∧ w'.cell? ⟨w.heap.size, 9, none⟩ = some (.int .i64 (c 9)) ∧ w'.cell? ⟨w.heap.size, 10, none⟩ = some (.int .i64 (c 10)) ∧ w'.cell? ⟨w.heap.size + 1, 0, none⟩ = some (.int .i64 (s 0)) ∧ w'.cell? ⟨w.heap.size + 1, 1, none⟩ = some (.int .i64 (s 1)) ∧ w'.cell? ⟨w.heap.size + 1, 2, none⟩ = some (.int .i64 (s 2)) ∧ w'.cell? ⟨w.heap.size + 1, 3, none⟩ = some (.int .i64 (s 3)) ∧ w'.cell? ⟨w.heap.size + 1, 4, none⟩ = some (.int .i64 (s 4)) ∧ w'.cell? ⟨w.heap.size + 1, 5, none⟩ = some (.int .i64 (s 5)) ∧ w'.cell? ⟨w.heap.size + 1, 6, none⟩ = some (.int .i64 (s 6)) ∧ w'.cell? ⟨w.heap.size + 1, 7, none⟩ = some (.int .i64 (s 7))) (first | go_keep | exact keepS (x := x5.drew) ⟨qc0, qc1, qc2, qc3, qc4, qc5, qc6, qc7, qc8, qc9, qc10, qs0, qs1, qs2, qs3, qs4, qs5, qs6, qs7⟩ hb7 (by show _ < x5.heap.size; omega)) (first | (go_at_call 35; refine (H8.out _ _ (sl_full (by show b < x5.heap.size; omega) hcap hn (HS.out.below hb B5.drew))).mono ?_; rintro e x7 ⟨v7, rfl, hs7, hn7, hr7, hb7⟩))
  have b57 : Below x5.heap.size x5 x7 := ((Below.refl _ x5).drew).trans hb7
  have z7 := b57.size
  have hs47 := hs45.below b57
  clear hb7 H8 hs45
  obtain ⟨i0, hi, hz0, hz1, hz2⟩ := info_parts info28
  rcases hs7 with ⟨_, _, _, h0⟩ | ⟨b7, off7, cap7, e7, hl7, hq7, _, hS7⟩
  · have e7 := hn7 h0
    subst e7
    subst h0
    go_wp2_with fail
    refine (same38_zero none none 0 0 _).mono ?_
    rintro e x9 ⟨rfl, hb9⟩
    have z9 := hb9.size
    go_wp2_with fail
    refine (HK.out _).mono ?_
    rintro e y1 ⟨rfl, hc1⟩
    go_wp2
    go_ret
    exact ⟨rfl, (((B5.trans (b57.mono (by omega))).trans (hb9.mono (by omega))).trans (hc1.mono (by omega)))⟩
  · subst e7
    go_wp2_with (first | (at_builtin; refine wpList_append_own_none rfl (.const (.slice none 0 0)) (.tmp 127) 69 rfl x7.heap.size 28 i0 8 Try.underlying69 hi (.slice none 0 0) 0 [] rfl (World.ownsRow_nil _ _ _ _) rfl ?_) | (at_builtin; refine wpList_append_own _ rfl (.tmp 128) (.tmp 129) 69 rfl x7.heap.size 28 i0 (.agg #[vi 0, vi 0, vi 0, vi 0, vi 0, vi 0, vi 0, vi 0]) 8 64 Try.underlying69 hi hz0 hz1 hz2 rfl (by decide) (.slice none 0 0) 0 [] rfl (World.ownsRow_nil _ _ _ _) ⟨b7, off7, none⟩ m cap7 (rowOf 8 (stF c s O) m) rfl ?f1 ?f2 ?f3 ?f4 ?f5 ?f6 ?_))
    try case f1 => exact rowOf_len _ _ _
    case f2 => intro j u hj; have := rowOf_news hS7 j u hj; simpa [Addr.add_mid] using this
    try case f3 => exact rowOf_one _ _ _
    try case f4 => unfold maxLen; omega
    try case f5 => omega
    try case f6 => exact Nat.le_refl _
    intro v9 x9 hown9 hgrow9 _
    have z9 := hgrow9.size
    have hs49 := hs47.grown hgrow9 (fun k h => by cases h)
    have hs99 : SL 8 x9 v9 m (stF c s O) := own_sl (base := x7.heap.size) (e := 28) (F := stF c s O) (n := m) hown9 (by omega)
    go_wp2_with fail
    refine (H7.out _ v4 v9 hs49 hs99).mono ?_
    rintro e y0 ⟨rfl, hc0⟩
    have zc0 := hc0.size
    go_wp2_with fail
    refine (HK.out _).mono ?_
    rintro e y1 ⟨rfl, hc1⟩
    go_wp2
    go_ret
    exact ⟨rfl, ((((B5.trans (b57.mono (by omega))).grown hgrow9 (by omega) (fun k h => by cases h)).trans (hc0.mono (by omega))).trans (hc1.mono (by omega)))⟩
end Go.Ev.Gas
end

