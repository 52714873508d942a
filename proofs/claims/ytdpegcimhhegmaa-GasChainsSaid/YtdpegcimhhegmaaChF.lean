import Derived.Test.YtdpegcimhhegmaaChB
set_option linter.unusedVariables false
set_option linter.unusedSimpArgs false
set_option linter.unusedSectionVars false
section
set_option maxRecDepth 100000
namespace Go.Ev.Gas
open Go.RowKit Go.Ev.Num Go.Proofs
set_option maxHeartbeats 1600000 in
theorem law15_3b (c s : Nat → Int) (w : World) {O : Nat → Nat → Int} (iO : ∀ i, ints (O i)) (hc : cavP c) (hs : StI s) (b off g m : Nat) (hn : (g + 1) ≤ 12) (hcap : (g + 1) ≤ (g + 1)) (hm : (g + 1) ≤ 9223372036854775807) (hf : g + 1 ≤ (g + 1)) (a : Nat → Int) (ha : a = sts c s O (g + 1)) (hkf : ¬ g + 1 + m < (g + 1)) (hO : ∀ i, i < (g + 1) → opOk (O i)) (hk : Stop c s O (g + 1) (g + 1 + m)) (hb : b < w.heap.size) (hS : SLAt 10 w b off (g + 1) O) :
    Calls Try.prog 15 #[cavV c, sV s, .slice (some ⟨b, off, none⟩) (g + 1) (g + 1), .int .i64 (((g : Int) + 1))] w fun e w' => e = .returned (.bool true) ∧ Below w.heap.size w w' := by
  have g1 : ¬ (12 : Int) < ((g + 1) : Int) := by omega
  have g2 : ¬ (((g : Int) + 1) : Int) < 0 := by omega
  have g3 : ¬ ((g + 1) : Int) < (((g : Int) + 1) : Int) := by omega
  have g4 : (0 : Int) ≤ (((g : Int) + 1) : Int) := by omega
  have g5 : (((g : Int) + 1) : Int) ≤ ((g + 1) : Int) := by omega
  have hkn := hk.1
  have sb := fun i j (hi : i < g + 1 + m) (hj : j < 8) => sti_b (sts_in hc hs (i + 1) fun q hq => ⟨hO q (by have := hk.1; omega), hk.2.1 q (by omega)⟩) j hj
  have H2 := Lib.hid (ret_of (gives19 hc))
  have H3 := Lib.hid (ret_of (gives20 (z := zz zeros s zeros) hs))
  have H4 := Lib.hid (fun (w' : World) (h' : SLAt 10 w' b off (g + 1) O) (hb' : b < w'.heap.size) => ops36_any (w := w') (.inr ⟨b, off, (g + 1), rfl, hb', hcap, by omega, h'⟩) iO (k := (g + 1)) ⟨Nat.le_refl _, hO, fun h => absurd h (by omega)⟩ true (by simp))
  have H5 := Lib.hid (fun (w' : World) (h' : SLAt 10 w' b off (g + 1) O) (hb' : b < w'.heap.size) => steps35g (w := w') c s iO (.inr ⟨b, off, (g + 1), rfl, hb', hcap, by omega, h'⟩) (by omega) hc hs hO hk (-1) (by rw [if_pos (by have := hk.1; omega)]))
  have H6 := Lib.hid (fun (w' : World) (h' : SLAt 10 w' b off (g + 1) O) (hb' : b < w'.heap.size) => steps35g (w := w') c s iO (sl_head (f := g + 1) hb' hcap hn (by omega) h') (by omega) hc hs (fun i hi => hO i (by omega)) (k := g + 1) ⟨Nat.le_refl _, fun i hi => hk.2.1 i (by omega), fun h => absurd h (by omega)⟩ (-1) (by rw [if_pos rfl]))
  have HA := Lib.hid ha
  have H8 := Lib.hid (fun (w' : World) (v' : Value) (h' : SL 10 w' v' ((g + 1) - (g + 1)) (fun j => O (g + 1 + j))) => steps35g (w := w') c a (fun i => iO _) h' (by omega) hc (by rw [ha]; exact sts_in hc hs (g + 1) fun i hi => ⟨hO i (by omega), hk.2.1 i (by omega)⟩) (fun i hi => hO _ (by omega)) (k := m) (by rw [ha]; exact stop_tail hk) (-1) (by rw [if_pos (by have := hk.1; omega)]))
  have H7 := Lib.hid (fun (w' : World) (v v' : Value) (h1 : SL 8 w' v (g + 1 + m) (stF c s O)) (h2 : SL 8 w' v' (g + 1 + m) (stF c s O)) => same38_any (by omega) h1 h2 sb)
  have g6 : (0 : Int) ≤ (m : Int) := by omega
  have g7 : (m : Int) ≤ 12 := by omega
  have g8 : (g : Int) ≤ 12 := by omega
  have g9 : (g : Int) + 1 ≤ ((g + 1) : Int) := by omega
  have g10 : ((g + 1) : Int) ≤ ((g + 1) : Int) := by omega
  have HS := Lib.hid hS
  have HB := Lib.hid (fun O O' => ((Below.refl w.heap.size w).alloc (Nat.le_refl _) O).alloc (by simp) O')
  have HK := Lib.hid known_says
  clear iO hO hk hS hs hc sb ha
  simp only [Ret, cavV, stV, sV, zz] at H2 H3
  simp only [cavV, sV] at H5 H6 H8 ⊢
  go_enter Try.func15, Try.ntmps15
  go_wp2_with fail
  refine (H2.out _).mono ?_
  rintro e x1 ⟨rfl, hb1⟩
  obtain ⟨hc1, hf1⟩ := bcell hb1
  have hz1 := hb1.size
  simp at hz1
  have n1 : w.heap.size < x1.heap.size := by omega
  have o1 : w.heap.size + 1 < x1.heap.size := by omega
  have B1 := (HB.out _ _).trans (hb1.mono (by simp; omega))
  go_wp2_with fail
  refine (H3.out _).mono ?_
  rintro e x2 ⟨rfl, hb2⟩
  obtain ⟨hc2, hf2⟩ := bcell hb2
  have hz2 := hb2.size
  have n2 : w.heap.size < x2.heap.size := by omega
  have o2 : w.heap.size + 1 < x2.heap.size := by omega
  have B2 := B1.trans (hb2.mono (by omega))
  go_wp2_with fail
  refine (H4.out _ (HS.out.below hb B2) (by omega)).mono ?_
  rintro e x3 ⟨rfl, hb3⟩
  obtain ⟨hc3, hf3⟩ := bcell hb3
  have hz3 := hb3.size
  have n3 : w.heap.size < x3.heap.size := by omega
  have o3 : w.heap.size + 1 < x3.heap.size := by omega
  have B3 := B2.trans (hb3.mono (by omega))
  go_wp2_with fail
  refine (H5.out _ (HS.out.below hb B3) (by omega)).mono ?_
  rintro e x4 ⟨v4, rfl, hs4, hn4, hr4, hb4⟩
  obtain ⟨hc4, hf4⟩ := bcell hb4
  have hz4 := hb4.size
  have n4 : w.heap.size < x4.heap.size := by omega
  have o4 : w.heap.size + 1 < x4.heap.size := by omega
  have B4 := B3.trans (hb4.mono (by omega))
  have A4 : Below (w.heap.size + 2) ((w.alloc (.cells #[vi (c 0), vi (c 1), vi (c 2), vi (c 3), vi (c 4), vi (c 5), vi (c 6), vi (c 7), vi (c 8), vi (c 9), vi (c 10)] 26)).alloc (.cells #[vi (s 0), vi (s 1), vi (s 2), vi (s 3), vi (s 4), vi (s 5), vi (s 6), vi (s 7)] 28)) x4 := (((Below.refl _ _).trans (hb1.mono (by simp))).trans (hb2.mono (by omega))).trans (hb3.mono (by omega)) |>.trans (hb4.mono (by omega))
  have kc0 : x4.cell? ⟨w.heap.size, 0, none⟩ = some (.int .i64 (c 0)) := (A4.cell (p := ⟨w.heap.size, 0, none⟩) (by simp)).trans ((wa_cell w c s).1 0 (by omega))
  have kc1 : x4.cell? ⟨w.heap.size, 1, none⟩ = some (.int .i64 (c 1)) := (A4.cell (p := ⟨w.heap.size, 1, none⟩) (by simp)).trans ((wa_cell w c s).1 1 (by omega))
  have kc2 : x4.cell? ⟨w.heap.size, 2, none⟩ = some (.int .i64 (c 2)) := (A4.cell (p := ⟨w.heap.size, 2, none⟩) (by simp)).trans ((wa_cell w c s).1 2 (by omega))
  have kc3 : x4.cell? ⟨w.heap.size, 3, none⟩ = some (.int .i64 (c 3)) := (A4.cell (p := ⟨w.heap.size, 3, none⟩) (by simp)).trans ((wa_cell w c s).1 3 (by omega))
  have kc4 : x4.cell? ⟨w.heap.size, 4, none⟩ = some (.int .i64 (c 4)) := (A4.cell (p := ⟨w.heap.size, 4, none⟩) (by simp)).trans ((wa_cell w c s).1 4 (by omega))
  have kc5 : x4.cell? ⟨w.heap.size, 5, none⟩ = some (.int .i64 (c 5)) := (A4.cell (p := ⟨w.heap.size, 5, none⟩) (by simp)).trans ((wa_cell w c s).1 5 (by omega))
  have kc6 : x4.cell? ⟨w.heap.size, 6, none⟩ = some (.int .i64 (c 6)) := (A4.cell (p := ⟨w.heap.size, 6, none⟩) (by simp)).trans ((wa_cell w c s).1 6 (by omega))
  have kc7 : x4.cell? ⟨w.heap.size, 7, none⟩ = some (.int .i64 (c 7)) := (A4.cell (p := ⟨w.heap.size, 7, none⟩) (by simp)).trans ((wa_cell w c s).1 7 (by omega))
  have kc8 : x4.cell? ⟨w.heap.size, 8, none⟩ = some (.int .i64 (c 8)) := (A4.cell (p := ⟨w.heap.size, 8, none⟩) (by simp)).trans ((wa_cell w c s).1 8 (by omega))
  have kc9 : x4.cell? ⟨w.heap.size, 9, none⟩ = some (.int .i64 (c 9)) := (A4.cell (p := ⟨w.heap.size, 9, none⟩) (by simp)).trans ((wa_cell w c s).1 9 (by omega))
  have kc10 : x4.cell? ⟨w.heap.size, 10, none⟩ = some (.int .i64 (c 10)) := (A4.cell (p := ⟨w.heap.size, 10, none⟩) (by simp)).trans ((wa_cell w c s).1 10 (by omega))
  have ks0 : x4.cell? ⟨w.heap.size + 1, 0, none⟩ = some (.int .i64 (s 0)) := (A4.cell (p := ⟨w.heap.size + 1, 0, none⟩) (by simp)).trans ((wa_cell w c s).2 0 (by omega))
  have ks1 : x4.cell? ⟨w.heap.size + 1, 1, none⟩ = some (.int .i64 (s 1)) := (A4.cell (p := ⟨w.heap.size + 1, 1, none⟩) (by simp)).trans ((wa_cell w c s).2 1 (by omega))
  have ks2 : x4.cell? ⟨w.heap.size + 1, 2, none⟩ = some (.int .i64 (s 2)) := (A4.cell (p := ⟨w.heap.size + 1, 2, none⟩) (by simp)).trans ((wa_cell w c s).2 2 (by omega))
  have ks3 : x4.cell? ⟨w.heap.size + 1, 3, none⟩ = some (.int .i64 (s 3)) := (A4.cell (p := ⟨w.heap.size + 1, 3, none⟩) (by simp)).trans ((wa_cell w c s).2 3 (by omega))
  have ks4 : x4.cell? ⟨w.heap.size + 1, 4, none⟩ = some (.int .i64 (s 4)) := (A4.cell (p := ⟨w.heap.size + 1, 4, none⟩) (by simp)).trans ((wa_cell w c s).2 4 (by omega))
  have ks5 : x4.cell? ⟨w.heap.size + 1, 5, none⟩ = some (.int .i64 (s 5)) := (A4.cell (p := ⟨w.heap.size + 1, 5, none⟩) (by simp)).trans ((wa_cell w c s).2 5 (by omega))
  have ks6 : x4.cell? ⟨w.heap.size + 1, 6, none⟩ = some (.int .i64 (s 6)) := (A4.cell (p := ⟨w.heap.size + 1, 6, none⟩) (by simp)).trans ((wa_cell w c s).2 6 (by omega))
  have ks7 : x4.cell? ⟨w.heap.size + 1, 7, none⟩ = some (.int .i64 (s 7)) := (A4.cell (p := ⟨w.heap.size + 1, 7, none⟩) (by simp)).trans ((wa_cell w c s).2 7 (by omega))
  clear hc1 hc2 hc3 hc4 hf1 hf2 hf3 hf4
  go_wp2
  go_region_held3 (fun w' => w'.cell? ⟨w.heap.size, 0, none⟩ = some (.int .i64 (c 0)) ∧ w'.cell? ⟨w.heap.size, 1, none⟩ = some (.int .i64 (c 1)) ∧ w'.cell? ⟨w.heap.size, 2, none⟩ = some (.int .i64 (c 2)) ∧ w'.cell? ⟨w.heap.size, 3, none⟩ = some (.int .i64 (c 3)) ∧ w'.cell? ⟨w.heap.size, 4, none⟩ = some (.int .i64 (c 4)) ∧ w'.cell? ⟨w.heap.size, 5, none⟩ = some (.int .i64 (c 5)) ∧ w'.cell? ⟨w.heap.size, 6, none⟩ = some (.int .i64 (c 6)) ∧ w'.cell? ⟨w.heap.size, 7, none⟩ = some (.int .i64 (c 7)) ∧ w'.cell? ⟨w.heap.size, 8, none⟩ = some (.int .i64 (c 8)) ∧ w'.cell? ⟨w.heap.size, 9, none⟩ = some (.int .i64 (c 9)) ∧ w'.cell? ⟨w.heap.size, 10, none⟩ = some (.int .i64 (c 10)) ∧ w'.cell? ⟨w.heap.size + 1, 0, none⟩ = some (.int .i64 (s 0)) ∧ w'.cell? ⟨w.heap.size + 1, 1, none⟩ = some (.int .i64 (s 1)) ∧ w'.cell? ⟨w.heap.size + 1, 2, none⟩ = some (.int .i64 (s 2)) ∧ w'.cell? ⟨w.heap.size + 1, 3, none⟩ = some (.int .i64 (s 3)) ∧ w'.cell? ⟨w.heap.size + 1, 4, none⟩ = some (.int .i64 (s 4)) ∧ w'.cell? ⟨w.heap.size + 1, 5, none⟩ = some (.int .i64 (s 5)) ∧ w'.cell? ⟨w.heap.size + 1, 6, none⟩ = some (.int .i64 (s 6)) ∧ w'.cell? ⟨w.heap.size + 1, 7, none⟩ = some (.int .i64 (s 7))) (first | go_keep | exact keepS (x := x4.drew) ⟨kc0, kc1, kc2, kc3, kc4, kc5, kc6, kc7, kc8, kc9, kc10, ks0, ks1, ks2, ks3, ks4, ks5, ks6, ks7⟩ hb5 (by show _ < x4.heap.size; omega)) (first | (go_at_call 35; refine (H6.out _ (HS.out.below hb B4.drew) (by show b < x4.heap.size; omega)).mono ?_; rintro e x5 ⟨v5, rfl, hs5, hn5, hr5, hb5⟩))
  have b45 : Below x4.heap.size x4 x5 := ((Below.refl _ x4).drew).trans hb5
  have hz5 := b45.size
  have B5 := B4.trans (b45.mono (by omega))
  rcases hs5 with ⟨_, _, _, h0⟩ | ⟨b5, off5, cap5, rfl, hl5, hq5, _, hS5⟩
  · omega
  have e58 : St8 x5 (w.heap.size + 1) s := by
    have A5 := A4.trans (b45.mono (by omega))
    have h1 := A5.block (w.heap.size + 1) (by omega)
    have h2 := heap_alloc_new (w.alloc (.cells #[vi (c 0), vi (c 1), vi (c 2), vi (c 3), vi (c 4), vi (c 5), vi (c 6), vi (c 7), vi (c 8), vi (c 9), vi (c 10)] 26)) (.cells #[vi (s 0), vi (s 1), vi (s 2), vi (s 3), vi (s 4), vi (s 5), vi (s 6), vi (s 7)] 28)
    unfold St8
    rw [h1]
    simpa [arr8] using h2
  have hrg : x5.rangeAt b5 (off5 + g * 8) [vi (a 0), vi (a 1), vi (a 2), vi (a 3), vi (a 4), vi (a 5), vi (a 6), vi (a 7)] := Go.Ev.Gas.range8 a fun q hq => by rw [Nat.add_assoc, HA.out]; exact hS5 g q (by omega) hq
  have hi28 : (Try.prog.info? 28).map (·.size) = some 8 := by kernel_rfl
  have hz5' : w.heap.size + 1 < x5.heap.size := by omega
  have f5 : x4.heap.size ≤ b5 := hr5 _ _ _ rfl
  go_wp2_with (first | (refine wpList_load_mid rfl 28 (.tmp 93) rfl b5 (off5 + g * 8) rfl _ _ hrg Try.underlying28 rfl (by kernel_rfl) ?_) | (refine wpList_store8 rfl (.tmp 5) (.tmp 94) rfl (w.heap.size + 1) s (a) rfl rfl e58 hi28 ?_))
  intro x6 HX6
  have hx6 := HX6.out
  have B6 : Below w.heap.size w x6 := by rw [hx6]; exact set8_below B5 (by omega) _
  have z6 : x6.heap.size = x5.heap.size := by rw [hx6]; unfold set8; simp
  have c6 : ∀ q, q < 11 → x6.cell? ⟨w.heap.size, q, none⟩ = some (.int .i64 (c q)) := fun q hq => by
    rw [hx6, World.cell?_of_block (a := ⟨w.heap.size, q, none⟩) (set8_old x5 _ _ w.heap.size (by omega))]
    exact ((A4.trans (b45.mono (by omega))).cell (p := ⟨w.heap.size, q, none⟩) (by simp)).trans ((wa_cell w c s).1 q hq)
  have s6 : ∀ q, q < 8 → x6.cell? ⟨w.heap.size + 1, q, none⟩ = some (.int .i64 (a q)) := fun q hq => by
    rw [hx6]; exact (set8_row e58).cell q hq
  have hs46 : SL 8 x6 v4 (g + 1 + m) (stF c s O) := by rw [hx6]; exact (hs4.below b45).set8 (C := x3.heap.size) hr4 (by omega) _
  have hs56 : SL 8 x6 (.slice (some ⟨b5, off5, none⟩) (g + 1) cap5) (g + 1) (stF c s O) := by rw [hx6]; exact SL.set8 (.inr ⟨b5, off5, cap5, rfl, hl5, hq5, by omega, hS5⟩) (C := x4.heap.size) hr5 (by omega) _
  have qc0 := c6 0 (by omega)
  have qc1 := c6 1 (by omega)
  have qc2 := c6 2 (by omega)
  have qc3 := c6 3 (by omega)
  have qc4 := c6 4 (by omega)
  have qc5 := c6 5 (by omega)
  have qc6 := c6 6 (by omega)
  have qc7 := c6 7 (by omega)
  have qc8 := c6 8 (by omega)
  have qc9 := c6 9 (by omega)
  have qc10 := c6 10 (by omega)
  have qs0 := s6 0 (by omega)
  have qs1 := s6 1 (by omega)
  have qs2 := s6 2 (by omega)
  have qs3 := s6 3 (by omega)
  have qs4 := s6 4 (by omega)
  have qs5 := s6 5 (by omega)
  have qs6 := s6 6 (by omega)
  have qs7 := s6 7 (by omega)
  clear e58 hrg hx6 hb5 hS5 hs4 kc0 kc1 kc2 kc3 kc4 kc5 kc6 kc7 kc8 kc9 kc10 ks0 ks1 ks2 ks3 ks4 ks5 ks6 ks7
  go_wp2
  go_region_held3 (fun w' => w'.cell? ⟨w.heap.size, 0, none⟩ = some (.int .i64 (c 0)) ∧ w'.cell? ⟨w.heap.size, 1, none⟩ = some (.int .i64 (c 1)) ∧ w'.cell? ⟨w.heap.size, 2, none⟩ = some (.int .i64 (c 2)) ∧ w'.cell? ⟨w.heap.size, 3, none⟩ = some (.int .i64 (c 3)) ∧ w'.cell? ⟨w.heap.size, 4, none⟩ = some (.int .i64 (c 4)) ∧ w'.cell? ⟨w.heap.size, 5, none⟩ = some (.int .i64 (c 5)) ∧ w'.cell? ⟨w.heap.size, 6, none⟩ = some (.int .i64 (c 6)) ∧ w'.cell? ⟨w.heap.size, 7, none⟩ = some (.int .i64 (c 7)) ∧ w'.cell? ⟨w.heap.size, 8, none⟩ = some (.int .i64 (c 8)) ∧ w'.cell? ⟨w.heap.size, 9, none⟩ = some (.int .i64 (c 9)) ∧ w'.cell? ⟨w.heap.size, 10, none⟩ = some (.int .i64 (c 10)) ∧ w'.cell? ⟨w.heap.size + 1, 0, none⟩ = some (.int .i64 (a 0)) ∧ w'.cell? ⟨w.heap.size + 1, 1, none⟩ = some (.int .i64 (a 1)) ∧ w'.cell? ⟨w.heap.size + 1, 2, none⟩ = some (.int .i64 (a 2)) ∧ w'.cell? ⟨w.heap.size + 1, 3, none⟩ = some (.int .i64 (a 3)) ∧ w'.cell? ⟨w.heap.size + 1, 4, none⟩ = some (.int .i64 (a 4)) ∧ w'.cell? ⟨w.heap.size + 1, 5, none⟩ = some (.int .i64 (a 5)) ∧ w'.cell? ⟨w.heap.size + 1, 6, none⟩ = some (.int .i64 (a 6)) ∧ w'.cell? ⟨w.heap.size + 1, 7, none⟩ = some (.int .i64 (a 7))) (first | go_keep | exact keepS (x := x6.drew) (s := a) ⟨qc0, qc1, qc2, qc3, qc4, qc5, qc6, qc7, qc8, qc9, qc10, qs0, qs1, qs2, qs3, qs4, qs5, qs6, qs7⟩ hb7 (by show _ < x6.heap.size; omega)) (first | (go_at_call 35; refine (H8.out _ _ (by first | exact sl_tail3 (by show b < x6.heap.size; omega) hcap hn hf (HS.out.below hb B6.drew) | exact sl_tail (by show b < x6.heap.size; omega) hcap hn hf (HS.out.below hb B6.drew) | exact sl_none (by omega) (by first | rfl | omega))).mono ?_; rintro e x7 ⟨v7, rfl, hs7, hn7, hr7, hb7⟩))
  have b67 : Below x6.heap.size x6 x7 := ((Below.refl _ x6).drew).trans hb7
  have z7 := b67.size
  have hs47 := hs46.below b67
  have hs57 := hs56.below b67
  clear hb7 H8 hs46 hs56
  obtain ⟨i0, hi, hz0, hz1, hz2⟩ := info_parts info28
  have hS57 : SLAt 8 x7 b5 off5 (g + 1) (stF c s O) := by
    rcases hs57 with ⟨_, _, _, h0⟩ | ⟨b', off', cap', e, _, _, _, h5⟩
    · omega
    · cases e; exact h5
  have a7 : (w.heap.size < x7.heap.size) := by omega
  rcases hs7 with ⟨_, _, _, h0⟩ | ⟨b7, off7, cap7, e7, hl7, hq7, _, hS7⟩
  · have e7 := hn7 h0
    subst e7
    go_wp2_with (at_builtin; refine wpList_append_own _ rfl (.const (.slice none 0 0)) (.tmp 127) 69 rfl x7.heap.size 28 i0 (.agg #[vi 0, vi 0, vi 0, vi 0, vi 0, vi 0, vi 0, vi 0]) 8 64 Try.underlying69 hi hz0 hz1 hz2 rfl (by decide) (.slice none 0 0) 0 [] rfl (World.ownsRow_nil _ _ _ _) ⟨b5, off5, none⟩ (g + 1) cap5 (rowOf 8 (stF c s O) (g + 1)) rfl ?d1 ?d2 ?d3 ?d4 ?d5 ?d6 ?_)
    try case d1 => exact rowOf_len _ _ _
    case d2 => intro j u hj; have := rowOf_news hS57 j u hj; simpa [Addr.add_mid] using this
    try case d3 => exact rowOf_one _ _ _
    try case d4 => unfold maxLen; omega
    try case d5 => omega
    try case d6 => exact Nat.le_refl _
    intro v8 x8 hown8 hgrow8 _
    have hs48 := hs47.grown hgrow8 (fun k h => by cases h)
    have hs88 : SL 8 x8 v8 (g + 1 + m) (stF c s O) := by
      rw [h0]
      have := own_sl (F := stF c s O) (n := g + 1) hown8 (by omega)
      exact this
    have z8 := hgrow8.size
    go_wp2_with (at_builtin; refine wpList_append_own_none rfl (.tmp 128) (.tmp 129) 69 rfl x7.heap.size 28 i0 8 Try.underlying69 hi v8 _ _ rfl hown8 rfl ?_)
    refine (H7.out _ v4 v8 hs48 hs88).mono ?_
    rintro e x9 ⟨rfl, hb9⟩
    have z9 := hb9.size
    go_wp2_with fail
    refine (HK.out _).mono ?_
    rintro e y1 ⟨rfl, hc1⟩
    go_wp2
    go_ret
    exact ⟨rfl, ((((B6.trans (b67.mono (by omega))).grown hgrow8 (by omega) (fun k h => by cases h)).trans (hb9.mono (by omega))).trans (hc1.mono (by omega)))⟩
  · subst e7
    go_wp2_with (at_builtin; refine wpList_append_own _ rfl (.const (.slice none 0 0)) (.tmp 127) 69 rfl x7.heap.size 28 i0 (.agg #[vi 0, vi 0, vi 0, vi 0, vi 0, vi 0, vi 0, vi 0]) 8 64 Try.underlying69 hi hz0 hz1 hz2 rfl (by decide) (.slice none 0 0) 0 [] rfl (World.ownsRow_nil _ _ _ _) ⟨b5, off5, none⟩ (g + 1) cap5 (rowOf 8 (stF c s O) (g + 1)) rfl ?d1 ?d2 ?d3 ?d4 ?d5 ?d6 ?_)
    try case d1 => exact rowOf_len _ _ _
    case d2 => intro j u hj; have := rowOf_news hS57 j u hj; simpa [Addr.add_mid] using this
    try case d3 => exact rowOf_one _ _ _
    try case d4 => unfold maxLen; omega
    try case d5 => omega
    try case d6 => exact Nat.le_refl _
    intro v8 x8 hown8 hgrow8 _
    have hs48 := hs47.grown hgrow8 (fun k h => by cases h)
    have z8 := hgrow8.size
    have hS78 : SLAt 8 x8 b7 off7 m (stF c a fun j => O (g + 1 + j)) := fun i j hi' hj => by
      rw [World.cell?_of_block (a := ⟨b7, off7 + (i * 8 + j), none⟩) (hgrow8.block b7 hl7 (fun h => by cases h))]; exact hS7 i j hi' hj
    go_wp2_with (at_builtin; refine wpList_append_own _ rfl (.tmp 128) (.tmp 129) 69 rfl x7.heap.size 28 i0 (.agg #[vi 0, vi 0, vi 0, vi 0, vi 0, vi 0, vi 0, vi 0]) 8 64 Try.underlying69 hi hz0 hz1 hz2 rfl (by decide) v8 _ _ rfl hown8 ⟨b7, off7, none⟩ m cap7 (rowOf 8 (stF c a fun j => O (g + 1 + j)) m) rfl ?f1 ?f2 ?f3 ?f4 ?f5 ?f6 ?_)
    try case f1 => exact rowOf_len _ _ _
    case f2 => intro j u hj; have := rowOf_news hS78 j u hj; simpa [Addr.add_mid] using this
    try case f3 => exact rowOf_one _ _ _
    try case f4 => unfold maxLen; omega
    try case f5 => omega
    try case f6 => omega
    intro v9 x9 hown9 hgrow9 _
    have z9 := hgrow9.size
    have own8 := hown8.lt
    have hs49 := hs48.grown hgrow9 (fun k h a' n' cap' e => by
      have h1 := (own8 k h).1
      have h2 := hs47.lt (by omega) a' n' cap' e
      omega)
    have hs99 : SL 8 x9 v9 (g + 1 + m) (stF c s O) := by
      refine own_sl (base := x7.heap.size) (e := 28) (F := stF c s O) (n := g + 1 + m) ?_ (by omega)
      have e1 : rowOf 8 (stF c s O) (g + 1) ++ rowOf 8 (stF c a fun j => O (g + 1 + j)) m = rowOf 8 (stF c s O) (g + 1 + m) := by
        exact rowOf_add 8 (stF c s O) _ (g + 1) m (by rw [HA.out]; exact stF_tail c s O (g + 1))
      rw [e1] at hown9
      exact hown9
    go_wp2_with fail
    refine (H7.out _ v4 v9 hs49 hs99).mono ?_
    rintro e y0 ⟨rfl, hc0⟩
    have zc0 := hc0.size
    go_wp2_with fail
    refine (HK.out _).mono ?_
    rintro e y1 ⟨rfl, hc1⟩
    go_wp2
    go_ret
    exact ⟨rfl, (((((B6.trans (b67.mono (by omega))).grown hgrow8 (by omega) (fun k h => by cases h)).grown hgrow9 (by omega) (fun k h => by have := (own8 k h).1; omega)).trans (hc0.mono (by omega))).trans (hc1.mono (by omega)))⟩
end Go.Ev.Gas
end

