/-
  For every cavern, every state, every list of operations and every number of first ones the law GasChains returns true, and its arguments read behind the call as they read before. No condition.
-/
import Derived.Test.YtdpegcimhhegmaaChC
import Derived.Test.YtdpegcimhhegmaaChE
import Derived.Test.YtdpegcimhhegmaaChF
import Derived.Test.YtdpegcimhhegmaaOpen
import Derived.Test.YtdpegcimhhegmaaStO
import Derived.Test.YtdpegcimhhegmaaFactsCh
set_option linter.unusedVariables false
set_option linter.unusedSimpArgs false
set_option linter.unusedSectionVars false
section
set_option maxRecDepth 100000
namespace Go.Ev.Gas
open Go.RowKit Go.Ev.Num Go.Proofs
theorem steps35_nil (c s : Nat → Int) (a : Option Addr) (cap : Nat) (hc : cavP c) (hs : StI s) (w : World) :
    Calls Try.prog 35 #[cavV c, sV s, .slice a 0 cap] w fun e w' => e = .returned (.tuple #[.slice none 0 0, .int .i64 (-1), .int .i64 0]) ∧ Below w.heap.size w w' := by
  have i0 : ∀ i : Nat, ints ((fun _ => zeros : Nat → Nat → Int) i) := fun _ i => by show _ ≤ (0 : Int) ∧ (0 : Int) ≤ _; omega
  have st : Stop c s (fun _ => zeros) 0 0 := ⟨Nat.le_refl _, fun i hi => absurd hi (by omega), fun h => absurd h (by omega)⟩
  have sl : SL 10 w (.slice a 0 cap) 0 (fun _ => zeros) := .inl ⟨a, cap, rfl, rfl⟩
  exact (steps35g c s i0 sl (by omega) hc hs (fun i hi => absurd hi (by omega)) st (-1) rfl).mono fun e w' ⟨v', h1, h2, h4, _, h3⟩ => ⟨by rw [h1, h4 rfl], h3⟩
set_option maxHeartbeats 1600000 in
theorem law15_zs (c s : Nat → Int) (w : World) (hc : cavP c) (hs : StI s) (ad : Addr) (cap : Nat) :
    Calls Try.prog 15 #[cavV c, sV s, .slice (some ad) 0 cap, .int .i64 0] w fun e w' => e = .returned (.bool true) ∧ Below w.heap.size w w' := by
  have g5 : (0 : Int) ≤ (cap : Int) := by omega
  have H2 := Lib.hid (ret_of (gives19 hc))
  have H3 := Lib.hid (ret_of (gives20 (z := zz zeros s zeros) hs))
  have H4 := Lib.hid (fun (w' : World) => ops36_zero (some ad) cap w')
  have H5 := Lib.hid (fun (w' : World) (a : Option Addr) (cap : Nat) => steps35_nil c s a cap hc hs w')
  have HB := Lib.hid (fun O O' => ((Below.refl w.heap.size w).alloc (Nat.le_refl _) O).alloc (by simp) O')
  have HK := Lib.hid known_says
  clear hs hc
  simp only [Ret, cavV, stV, sV, zz] at H2 H3
  simp only [cavV, sV] at H5 ⊢
  go_enter Try.func15, Try.ntmps15
  go_wp2_with fail
  refine (H2.out _).mono ?_
  rintro e x1 ⟨rfl, hb1⟩
  obtain ⟨hc1, hf1⟩ := bcell hb1
  have hz1 := hb1.size
  simp at hz1
  have n1 : w.heap.size < x1.heap.size := by omega
  have o1 : w.heap.size + 1 < x1.heap.size := by omega
  have B1 := (HB.out _ _).trans (hb1.mono (by simp; omega))
  go_wp2_with fail
  refine (H3.out _).mono ?_
  rintro e x2 ⟨rfl, hb2⟩
  obtain ⟨hc2, hf2⟩ := bcell hb2
  have hz2 := hb2.size
  have n2 : w.heap.size < x2.heap.size := by omega
  have o2 : w.heap.size + 1 < x2.heap.size := by omega
  have B2 := B1.trans (hb2.mono (by omega))
  go_wp2_with fail
  refine (H4.out _).mono ?_
  rintro e x3 ⟨rfl, hb3⟩
  obtain ⟨hc3, hf3⟩ := bcell hb3
  have hz3 := hb3.size
  have n3 : w.heap.size < x3.heap.size := by omega
  have o3 : w.heap.size + 1 < x3.heap.size := by omega
  have B3 := B2.trans (hb3.mono (by omega))
  go_wp2_with fail
  refine (H5.out _ _ _).mono ?_
  rintro e x4 ⟨rfl, hb4⟩
  obtain ⟨hc4, hf4⟩ := bcell hb4
  have hz4 := hb4.size
  have n4 : w.heap.size < x4.heap.size := by omega
  have o4 : w.heap.size + 1 < x4.heap.size := by omega
  have B4 := B3.trans (hb4.mono (by omega))
  have A4 : Below (w.heap.size + 2) ((w.alloc (.cells #[vi (c 0), vi (c 1), vi (c 2), vi (c 3), vi (c 4), vi (c 5), vi (c 6), vi (c 7), vi (c 8), vi (c 9), vi (c 10)] 26)).alloc (.cells #[vi (s 0), vi (s 1), vi (s 2), vi (s 3), vi (s 4), vi (s 5), vi (s 6), vi (s 7)] 28)) x4 := (((Below.refl _ _).trans (hb1.mono (by simp))).trans (hb2.mono (by omega))).trans (hb3.mono (by omega)) |>.trans (hb4.mono (by omega))
  have kc0 : x4.cell? ⟨w.heap.size, 0, none⟩ = some (.int .i64 (c 0)) := (A4.cell (p := ⟨w.heap.size, 0, none⟩) (by simp)).trans ((wa_cell w c s).1 0 (by omega))
  have kc1 : x4.cell? ⟨w.heap.size, 1, none⟩ = some (.int .i64 (c 1)) := (A4.cell (p := ⟨w.heap.size, 1, none⟩) (by simp)).trans ((wa_cell w c s).1 1 (by omega))
  have kc2 : x4.cell? ⟨w.heap.size, 2, none⟩ = some (.int .i64 (c 2)) := (A4.cell (p := ⟨w.heap.size, 2, none⟩) (by simp)).trans ((wa_cell w c s).1 2 (by omega))
  have kc3 : x4.cell? ⟨w.heap.size, 3, none⟩ = some (.int .i64 (c 3)) := (A4.cell (p := ⟨w.heap.size, 3, none⟩) (by simp)).trans ((wa_cell w c s).1 3 (by omega))
  have kc4 : x4.cell? ⟨w.heap.size, 4, none⟩ = some (.int .i64 (c 4)) := (A4.cell (p := ⟨w.heap.size, 4, none⟩) (by simp)).trans ((wa_cell w c s).1 4 (by omega))
  have kc5 : x4.cell? ⟨w.heap.size, 5, none⟩ = some (.int .i64 (c 5)) := (A4.cell (p := ⟨w.heap.size, 5, none⟩) (by simp)).trans ((wa_cell w c s).1 5 (by omega))
  have kc6 : x4.cell? ⟨w.heap.size, 6, none⟩ = some (.int .i64 (c 6)) := (A4.cell (p := ⟨w.heap.size, 6, none⟩) (by simp)).trans ((wa_cell w c s).1 6 (by omega))
  have kc7 : x4.cell? ⟨w.heap.size, 7, none⟩ = some (.int .i64 (c 7)) := (A4.cell (p := ⟨w.heap.size, 7, none⟩) (by simp)).trans ((wa_cell w c s).1 7 (by omega))
  have kc8 : x4.cell? ⟨w.heap.size, 8, none⟩ = some (.int .i64 (c 8)) := (A4.cell (p := ⟨w.heap.size, 8, none⟩) (by simp)).trans ((wa_cell w c s).1 8 (by omega))
  have kc9 : x4.cell? ⟨w.heap.size, 9, none⟩ = some (.int .i64 (c 9)) := (A4.cell (p := ⟨w.heap.size, 9, none⟩) (by simp)).trans ((wa_cell w c s).1 9 (by omega))
  have kc10 : x4.cell? ⟨w.heap.size, 10, none⟩ = some (.int .i64 (c 10)) := (A4.cell (p := ⟨w.heap.size, 10, none⟩) (by simp)).trans ((wa_cell w c s).1 10 (by omega))
  have ks0 : x4.cell? ⟨w.heap.size + 1, 0, none⟩ = some (.int .i64 (s 0)) := (A4.cell (p := ⟨w.heap.size + 1, 0, none⟩) (by simp)).trans ((wa_cell w c s).2 0 (by omega))
  have ks1 : x4.cell? ⟨w.heap.size + 1, 1, none⟩ = some (.int .i64 (s 1)) := (A4.cell (p := ⟨w.heap.size + 1, 1, none⟩) (by simp)).trans ((wa_cell w c s).2 1 (by omega))
  have ks2 : x4.cell? ⟨w.heap.size + 1, 2, none⟩ = some (.int .i64 (s 2)) := (A4.cell (p := ⟨w.heap.size + 1, 2, none⟩) (by simp)).trans ((wa_cell w c s).2 2 (by omega))
  have ks3 : x4.cell? ⟨w.heap.size + 1, 3, none⟩ = some (.int .i64 (s 3)) := (A4.cell (p := ⟨w.heap.size + 1, 3, none⟩) (by simp)).trans ((wa_cell w c s).2 3 (by omega))
  have ks4 : x4.cell? ⟨w.heap.size + 1, 4, none⟩ = some (.int .i64 (s 4)) := (A4.cell (p := ⟨w.heap.size + 1, 4, none⟩) (by simp)).trans ((wa_cell w c s).2 4 (by omega))
  have ks5 : x4.cell? ⟨w.heap.size + 1, 5, none⟩ = some (.int .i64 (s 5)) := (A4.cell (p := ⟨w.heap.size + 1, 5, none⟩) (by simp)).trans ((wa_cell w c s).2 5 (by omega))
  have ks6 : x4.cell? ⟨w.heap.size + 1, 6, none⟩ = some (.int .i64 (s 6)) := (A4.cell (p := ⟨w.heap.size + 1, 6, none⟩) (by simp)).trans ((wa_cell w c s).2 6 (by omega))
  have ks7 : x4.cell? ⟨w.heap.size + 1, 7, none⟩ = some (.int .i64 (s 7)) := (A4.cell (p := ⟨w.heap.size + 1, 7, none⟩) (by simp)).trans ((wa_cell w c s).2 7 (by omega))
  clear hc1 hc2 hc3 hc4 hf1 hf2 hf3 hf4
  go_wp2
  go_region_held3 (fun w' => w'.cell? ⟨w.heap.size, 0, none⟩ = some (.int .i64 (c 0)) ∧ w'.cell? ⟨w.heap.size, 1, none⟩ = some (.int .i64 (c 1)) ∧ w'.cell? ⟨w.heap.size, 2, none⟩ = some (.int .i64 (c 2)) ∧ w'.cell? ⟨w.heap.size, 3, none⟩ = some (.int .i64 (c 3)) ∧ w'.cell? ⟨w.heap.size, 4, none⟩ = some (.int .i64 (c 4)) ∧ w'.cell? ⟨w.heap.size, 5, none⟩ = some (.int .i64 (c 5)) ∧ w'.cell? ⟨w.heap.size, 6, none⟩ = some (.int .i64 (c 6)) ∧ w'.cell? ⟨w.heap.size, 7, none⟩ = some (.int .i64 (c 7)) ∧ w'.cell? ⟨w.heap.size, 8, none⟩ = some (.int .i64 (c 8)) ∧ w'.cell? ⟨w.heap.size, 9, none⟩ = some (.int .i64 (c 9)) ∧ w'.cell? ⟨w.heap.size, 10, none⟩ = some (.int .i64 (c 10)) ∧ w'.cell? ⟨w.heap.size + 1, 0, none⟩ = some (.int .i64 (s 0)) ∧ w'.cell? ⟨w.heap.size + 1, 1, none⟩ = some (.int .i64 (s 1)) ∧ w'.cell? ⟨w.heap.size + 1, 2, none⟩ = some (.int .i64 (s 2)) ∧ w'.cell? ⟨w.heap.size + 1, 3, none⟩ = some (.int .i64 (s 3)) ∧ w'.cell? ⟨w.heap.size + 1, 4, none⟩ = some (.int .i64 (s 4)) ∧ w'.cell? ⟨w.heap.size + 1, 5, none⟩ = some (.int .i64 (s 5)) ∧ w'.cell? ⟨w.heap.size + 1, 6, none⟩ = some (.int .i64 (s 6)) ∧ w'.cell? ⟨w.heap.size + 1, 7, none⟩ = some (.int .i64 (s 7))) (first | go_keep | exact keepS (x := x4.drew) ⟨kc0, kc1, kc2, kc3, kc4, kc5, kc6, kc7, kc8, kc9, kc10, ks0, ks1, ks2, ks3, ks4, ks5, ks6, ks7⟩ hb5 (by show _ < x4.heap.size; omega)) (first | (go_at_call 35; refine (H5.out _ _ _).mono ?_; rintro e x5 ⟨rfl, hb5⟩))
  have b45 : Below x4.heap.size x4 x5 := ((Below.refl _ x4).drew).trans hb5
  have hz5 := b45.size
  have B5 := B4.trans (b45.mono (by omega))
  have A5 := A4.trans (b45.mono (by omega))
  have qc0 : x5.cell? ⟨w.heap.size, 0, none⟩ = some (.int .i64 (c 0)) := (A5.cell (p := ⟨w.heap.size, 0, none⟩) (by simp)).trans ((wa_cell w c s).1 0 (by omega))
  have qc1 : x5.cell? ⟨w.heap.size, 1, none⟩ = some (.int .i64 (c 1)) := (A5.cell (p := ⟨w.heap.size, 1, none⟩) (by simp)).trans ((wa_cell w c s).1 1 (by omega))
  have qc2 : x5.cell? ⟨w.heap.size, 2, none⟩ = some (.int .i64 (c 2)) := (A5.cell (p := ⟨w.heap.size, 2, none⟩) (by simp)).trans ((wa_cell w c s).1 2 (by omega))
  have qc3 : x5.cell? ⟨w.heap.size, 3, none⟩ = some (.int .i64 (c 3)) := (A5.cell (p := ⟨w.heap.size, 3, none⟩) (by simp)).trans ((wa_cell w c s).1 3 (by omega))
  have qc4 : x5.cell? ⟨w.heap.size, 4, none⟩ = some (.int .i64 (c 4)) := (A5.cell (p := ⟨w.heap.size, 4, none⟩) (by simp)).trans ((wa_cell w c s).1 4 (by omega))
  have qc5 : x5.cell? ⟨w.heap.size, 5, none⟩ = some (.int .i64 (c 5)) := (A5.cell (p := ⟨w.heap.size, 5, none⟩) (by simp)).trans ((wa_cell w c s).1 5 (by omega))
  have qc6 : x5.cell? ⟨w.heap.size, 6, none⟩ = some (.int .i64 (c 6)) := (A5.cell (p := ⟨w.heap.size, 6, none⟩) (by simp)).trans ((wa_cell w c s).1 6 (by omega))
  have qc7 : x5.cell? ⟨w.heap.size, 7, none⟩ = some (.int .i64 (c 7)) := (A5.cell (p := ⟨w.heap.size, 7, none⟩) (by simp)).trans ((wa_cell w c s).1 7 (by omega))
  have qc8 : x5.cell? ⟨w.heap.size, 8, none⟩ = some (.int .i64 (c 8)) := (A5.cell (p := ⟨w.heap.size, 8, none⟩) (by simp)).trans ((wa_cell w c s).1 8 (by omega))
  have qc9 : x5.cell? ⟨w.heap.size, 9, none⟩ = some (.int .i64 (c 9)) := (A5.cell (p := ⟨w.heap.size, 9, none⟩) (by simp)).trans ((wa_cell w c s).1 9 (by omega))
  have qc10 : x5.cell? ⟨w.heap.size, 10, none⟩ = some (.int .i64 (c 10)) := (A5.cell (p := ⟨w.heap.size, 10, none⟩) (by simp)).trans ((wa_cell w c s).1 10 (by omega))
  have qs0 : x5.cell? ⟨w.heap.size + 1, 0, none⟩ = some (.int .i64 (s 0)) := (A5.cell (p := ⟨w.heap.size + 1, 0, none⟩) (by simp)).trans ((wa_cell w c s).2 0 (by omega))
  have qs1 : x5.cell? ⟨w.heap.size + 1, 1, none⟩ = some (.int .i64 (s 1)) := (A5.cell (p := ⟨w.heap.size + 1, 1, none⟩) (by simp)).trans ((wa_cell w c s).2 1 (by omega))
  have qs2 : x5.cell? ⟨w.heap.size + 1, 2, none⟩ = some (.int .i64 (s 2)) := (A5.cell (p := ⟨w.heap.size + 1, 2, none⟩) (by simp)).trans ((wa_cell w c s).2 2 (by omega))
  have qs3 : x5.cell? ⟨w.heap.size + 1, 3, none⟩ = some (.int .i64 (s 3)) := (A5.cell (p := ⟨w.heap.size + 1, 3, none⟩) (by simp)).trans ((wa_cell w c s).2 3 (by omega))
  have qs4 : x5.cell? ⟨w.heap.size + 1, 4, none⟩ = some (.int .i64 (s 4)) := (A5.cell (p := ⟨w.heap.size + 1, 4, none⟩) (by simp)).trans ((wa_cell w c s).2 4 (by omega))
  have qs5 : x5.cell? ⟨w.heap.size + 1, 5, none⟩ = some (.int .i64 (s 5)) := (A5.cell (p := ⟨w.heap.size + 1, 5, none⟩) (by simp)).trans ((wa_cell w c s).2 5 (by omega))
  have qs6 : x5.cell? ⟨w.heap.size + 1, 6, none⟩ = some (.int .i64 (s 6)) := (A5.cell (p := ⟨w.heap.size + 1, 6, none⟩) (by simp)).trans ((wa_cell w c s).2 6 (by omega))
  have qs7 : x5.cell? ⟨w.heap.size + 1, 7, none⟩ = some (.int .i64 (s 7)) := (A5.cell (p := ⟨w.heap.size + 1, 7, none⟩) (by simp)).trans ((wa_cell w c s).2 7 (by omega))
  clear hb5 kc0 kc1 kc2 kc3 kc4 kc5 kc6 kc7 kc8 kc9 kc10 ks0 ks1 ks2 ks3 ks4 ks5 ks6 ks7
  go_wp2
  go_region_held3 (fun w' => w'.cell? ⟨w.heap.size, 0, none⟩ = some (.int .i64 (c 0)) ∧ w'.cell? ⟨w.heap.size, 1, none⟩ = some (.int .i64 (c 1)) ∧ w'.cell? ⟨w.heap.size, 2, none⟩ = some (.int .i64 (c 2)) ∧ w'.cell? ⟨w.heap.size, 3, none⟩ = some (.int .i64 (c 3)) ∧ w'.cell? ⟨w.heap.size, 4, none⟩ = some (.int .i64 (c 4)) ∧ w'.cell? ⟨w.heap.size, 5, none⟩ = some (.int .i64 (c 5)) ∧ w'.cell? ⟨w.heap.size, 6, none⟩ = some (.int .i64 (c 6)) ∧ w'.cell? ⟨w.heap.size, 7, none⟩ = some (.int .i64 (c 7)) ∧ w'.cell? ⟨w.heap.size, 8, none⟩ = some (.int .i64 (c 8)) ∧ w'.cell? ⟨w.heap.size, 9, none⟩ = some (.int .i64 (c 9)) ∧ w'.cell? ⟨w.heap.size, 10, none⟩ = some (.int .i64 (c 10)) ∧ w'.cell? ⟨w.heap.size + 1, 0, none⟩ = some (.int .i64 (s 0)) ∧ w'.cell? ⟨w.heap.size + 1, 1, none⟩ = some (.int .i64 (s 1)) ∧ w'.cell? ⟨w.heap.size + 1, 2, none⟩ = some (.int .i64 (s 2)) ∧ w'.cell? ⟨w.heap.size + 1, 3, none⟩ = some (.int .i64 (s 3)) ∧ w'.cell? ⟨w.heap.size + 1, 4, none⟩ = some (.int .i64 (s 4)) ∧ w'.cell? ⟨w.heap.size + 1, 5, none⟩ = some (.int .i64 (s 5)) ∧ w'.cell? ⟨w.heap.size + 1, 6, none⟩ = some (.int .i64 (s 6)) ∧ w'.cell? ⟨w.heap.size + 1, 7, none⟩ = some (.int .i64 (s 7))) (first | go_keep | exact keepS (x := x5.drew) ⟨qc0, qc1, qc2, qc3, qc4, qc5, qc6, qc7, qc8, qc9, qc10, qs0, qs1, qs2, qs3, qs4, qs5, qs6, qs7⟩ hb7 (by show _ < x5.heap.size; omega)) (first | (go_at_call 35; refine (H5.out _ _ _).mono ?_; rintro e x7 ⟨rfl, hb7⟩))
  have b57 : Below x5.heap.size x5 x7 := ((Below.refl _ x5).drew).trans hb7
  have z7 := b57.size
  clear hb7
  go_wp2_with fail
  refine (same38_zero none none 0 0 _).mono ?_
  rintro e x9 ⟨rfl, hb9⟩
  have z9 := hb9.size
  go_wp2_with fail
  refine (HK.out _).mono ?_
  rintro e y1 ⟨rfl, hc1⟩
  go_wp2
  go_ret
  exact ⟨rfl, (((B5.trans (b57.mono (by omega))).trans (hb9.mono (by omega))).trans (hc1.mono (by omega)))⟩
set_option maxHeartbeats 1600000 in
theorem law15_zn (c s : Nat → Int) (w : World) (hc : cavP c) (hs : StI s)  :
    Calls Try.prog 15 #[cavV c, sV s, .slice none 0 0, .int .i64 0] w fun e w' => e = .returned (.bool true) ∧ Below w.heap.size w w' := by
  have g5 : (0 : Int) ≤ (0 : Int) := by omega
  have H2 := Lib.hid (ret_of (gives19 hc))
  have H3 := Lib.hid (ret_of (gives20 (z := zz zeros s zeros) hs))
  have H4 := Lib.hid (fun (w' : World) => ops36_zero none 0 w')
  have H5 := Lib.hid (fun (w' : World) (a : Option Addr) (cap : Nat) => steps35_nil c s a cap hc hs w')
  have HB := Lib.hid (fun O O' => ((Below.refl w.heap.size w).alloc (Nat.le_refl _) O).alloc (by simp) O')
  have HK := Lib.hid known_says
  clear hs hc
  simp only [Ret, cavV, stV, sV, zz] at H2 H3
  simp only [cavV, sV] at H5 ⊢
  go_enter Try.func15, Try.ntmps15
  go_wp2_with fail
  refine (H2.out _).mono ?_
  rintro e x1 ⟨rfl, hb1⟩
  obtain ⟨hc1, hf1⟩ := bcell hb1
  have hz1 := hb1.size
  simp at hz1
  have n1 : w.heap.size < x1.heap.size := by omega
  have o1 : w.heap.size + 1 < x1.heap.size := by omega
  have B1 := (HB.out _ _).trans (hb1.mono (by simp; omega))
  go_wp2_with fail
  refine (H3.out _).mono ?_
  rintro e x2 ⟨rfl, hb2⟩
  obtain ⟨hc2, hf2⟩ := bcell hb2
  have hz2 := hb2.size
  have n2 : w.heap.size < x2.heap.size := by omega
  have o2 : w.heap.size + 1 < x2.heap.size := by omega
  have B2 := B1.trans (hb2.mono (by omega))
  go_wp2_with fail
  refine (H4.out _).mono ?_
  rintro e x3 ⟨rfl, hb3⟩
  obtain ⟨hc3, hf3⟩ := bcell hb3
  have hz3 := hb3.size
  have n3 : w.heap.size < x3.heap.size := by omega
  have o3 : w.heap.size + 1 < x3.heap.size := by omega
  have B3 := B2.trans (hb3.mono (by omega))
  go_wp2_with fail
  refine (H5.out _ _ _).mono ?_
  rintro e x4 ⟨rfl, hb4⟩
  obtain ⟨hc4, hf4⟩ := bcell hb4
  have hz4 := hb4.size
  have n4 : w.heap.size < x4.heap.size := by omega
  have o4 : w.heap.size + 1 < x4.heap.size := by omega
  have B4 := B3.trans (hb4.mono (by omega))
  have A4 : Below (w.heap.size + 2) ((w.alloc (.cells #[vi (c 0), vi (c 1), vi (c 2), vi (c 3), vi (c 4), vi (c 5), vi (c 6), vi (c 7), vi (c 8), vi (c 9), vi (c 10)] 26)).alloc (.cells #[vi (s 0), vi (s 1), vi (s 2), vi (s 3), vi (s 4), vi (s 5), vi (s 6), vi (s 7)] 28)) x4 := (((Below.refl _ _).trans (hb1.mono (by simp))).trans (hb2.mono (by omega))).trans (hb3.mono (by omega)) |>.trans (hb4.mono (by omega))
  have kc0 : x4.cell? ⟨w.heap.size, 0, none⟩ = some (.int .i64 (c 0)) := (A4.cell (p := ⟨w.heap.size, 0, none⟩) (by simp)).trans ((wa_cell w c s).1 0 (by omega))
  have kc1 : x4.cell? ⟨w.heap.size, 1, none⟩ = some (.int .i64 (c 1)) := (A4.cell (p := ⟨w.heap.size, 1, none⟩) (by simp)).trans ((wa_cell w c s).1 1 (by omega))
  have kc2 : x4.cell? ⟨w.heap.size, 2, none⟩ = some (.int .i64 (c 2)) := (A4.cell (p := ⟨w.heap.size, 2, none⟩) (by simp)).trans ((wa_cell w c s).1 2 (by omega))
  have kc3 : x4.cell? ⟨w.heap.size, 3, none⟩ = some (.int .i64 (c 3)) := (A4.cell (p := ⟨w.heap.size, 3, none⟩) (by simp)).trans ((wa_cell w c s).1 3 (by omega))
  have kc4 : x4.cell? ⟨w.heap.size, 4, none⟩ = some (.int .i64 (c 4)) := (A4.cell (p := ⟨w.heap.size, 4, none⟩) (by simp)).trans ((wa_cell w c s).1 4 (by omega))
  have kc5 : x4.cell? ⟨w.heap.size, 5, none⟩ = some (.int .i64 (c 5)) := (A4.cell (p := ⟨w.heap.size, 5, none⟩) (by simp)).trans ((wa_cell w c s).1 5 (by omega))
  have kc6 : x4.cell? ⟨w.heap.size, 6, none⟩ = some (.int .i64 (c 6)) := (A4.cell (p := ⟨w.heap.size, 6, none⟩) (by simp)).trans ((wa_cell w c s).1 6 (by omega))
  have kc7 : x4.cell? ⟨w.heap.size, 7, none⟩ = some (.int .i64 (c 7)) := (A4.cell (p := ⟨w.heap.size, 7, none⟩) (by simp)).trans ((wa_cell w c s).1 7 (by omega))
  have kc8 : x4.cell? ⟨w.heap.size, 8, none⟩ = some (.int .i64 (c 8)) := (A4.cell (p := ⟨w.heap.size, 8, none⟩) (by simp)).trans ((wa_cell w c s).1 8 (by omega))
  have kc9 : x4.cell? ⟨w.heap.size, 9, none⟩ = some (.int .i64 (c 9)) := (A4.cell (p := ⟨w.heap.size, 9, none⟩) (by simp)).trans ((wa_cell w c s).1 9 (by omega))
  have kc10 : x4.cell? ⟨w.heap.size, 10, none⟩ = some (.int .i64 (c 10)) := (A4.cell (p := ⟨w.heap.size, 10, none⟩) (by simp)).trans ((wa_cell w c s).1 10 (by omega))
  have ks0 : x4.cell? ⟨w.heap.size + 1, 0, none⟩ = some (.int .i64 (s 0)) := (A4.cell (p := ⟨w.heap.size + 1, 0, none⟩) (by simp)).trans ((wa_cell w c s).2 0 (by omega))
  have ks1 : x4.cell? ⟨w.heap.size + 1, 1, none⟩ = some (.int .i64 (s 1)) := (A4.cell (p := ⟨w.heap.size + 1, 1, none⟩) (by simp)).trans ((wa_cell w c s).2 1 (by omega))
  have ks2 : x4.cell? ⟨w.heap.size + 1, 2, none⟩ = some (.int .i64 (s 2)) := (A4.cell (p := ⟨w.heap.size + 1, 2, none⟩) (by simp)).trans ((wa_cell w c s).2 2 (by omega))
  have ks3 : x4.cell? ⟨w.heap.size + 1, 3, none⟩ = some (.int .i64 (s 3)) := (A4.cell (p := ⟨w.heap.size + 1, 3, none⟩) (by simp)).trans ((wa_cell w c s).2 3 (by omega))
  have ks4 : x4.cell? ⟨w.heap.size + 1, 4, none⟩ = some (.int .i64 (s 4)) := (A4.cell (p := ⟨w.heap.size + 1, 4, none⟩) (by simp)).trans ((wa_cell w c s).2 4 (by omega))
  have ks5 : x4.cell? ⟨w.heap.size + 1, 5, none⟩ = some (.int .i64 (s 5)) := (A4.cell (p := ⟨w.heap.size + 1, 5, none⟩) (by simp)).trans ((wa_cell w c s).2 5 (by omega))
  have ks6 : x4.cell? ⟨w.heap.size + 1, 6, none⟩ = some (.int .i64 (s 6)) := (A4.cell (p := ⟨w.heap.size + 1, 6, none⟩) (by simp)).trans ((wa_cell w c s).2 6 (by omega))
  have ks7 : x4.cell? ⟨w.heap.size + 1, 7, none⟩ = some (.int .i64 (s 7)) := (A4.cell (p := ⟨w.heap.size + 1, 7, none⟩) (by simp)).trans ((wa_cell w c s).2 7 (by omega))
  clear hc1 hc2 hc3 hc4 hf1 hf2 hf3 hf4
  go_wp2
  go_region_held3 (fun w' => w'.cell? ⟨w.heap.size, 0, none⟩ = some (.int .i64 (c 0)) ∧ w'.cell? ⟨w.heap.size, 1, none⟩ = some (.int .i64 (c 1)) ∧ w'.cell? ⟨w.heap.size, 2, none⟩ = some (.int .i64 (c 2)) ∧ w'.cell? ⟨w.heap.size, 3, none⟩ = some (.int .i64 (c 3)) ∧ w'.cell? ⟨w.heap.size, 4, none⟩ = some (.int .i64 (c 4)) ∧ w'.cell? ⟨w.heap.size, 5, none⟩ = some (.int .i64 (c 5)) ∧ w'.cell? ⟨w.heap.size, 6, none⟩ = some (.int .i64 (c 6)) ∧ w'.cell? ⟨w.heap.size, 7, none⟩ = some (.int .i64 (c 7)) ∧ w'.cell? ⟨w.heap.size, 8, none⟩ = some (.int .i64 (c 8)) ∧ w'.cell? ⟨w.heap.size, 9, none⟩ = some (.int .i64 (c 9)) ∧ w'.cell? ⟨w.heap.size, 10, none⟩ = some (.int .i64 (c 10)) ∧ w'.cell? ⟨w.heap.size + 1, 0, none⟩ = some (.int .i64 (s 0)) ∧ w'.cell? ⟨w.heap.size + 1, 1, none⟩ = some (.int .i64 (s 1)) ∧ w'.cell? ⟨w.heap.size + 1, 2, none⟩ = some (.int .i64 (s 2)) ∧ w'.cell? ⟨w.heap.size + 1, 3, none⟩ = some (.int .i64 (s 3)) ∧ w'.cell? ⟨w.heap.size + 1, 4, none⟩ = some (.int .i64 (s 4)) ∧ w'.cell? ⟨w.heap.size + 1, 5, none⟩ = some (.int .i64 (s 5)) ∧ w'.cell? ⟨w.heap.size + 1, 6, none⟩ = some (.int .i64 (s 6)) ∧ w'.cell? ⟨w.heap.size + 1, 7, none⟩ = some (.int .i64 (s 7))) (first | go_keep | exact keepS (x := x4.drew) ⟨kc0, kc1, kc2, kc3, kc4, kc5, kc6, kc7, kc8, kc9, kc10, ks0, ks1, ks2, ks3, ks4, ks5, ks6, ks7⟩ hb5 (by show _ < x4.heap.size; omega)) (first | (go_at_call 35; refine (H5.out _ _ _).mono ?_; rintro e x5 ⟨rfl, hb5⟩))
  have b45 : Below x4.heap.size x4 x5 := ((Below.refl _ x4).drew).trans hb5
  have hz5 := b45.size
  have B5 := B4.trans (b45.mono (by omega))
  have A5 := A4.trans (b45.mono (by omega))
  have qc0 : x5.cell? ⟨w.heap.size, 0, none⟩ = some (.int .i64 (c 0)) := (A5.cell (p := ⟨w.heap.size, 0, none⟩) (by simp)).trans ((wa_cell w c s).1 0 (by omega))
  have qc1 : x5.cell? ⟨w.heap.size, 1, none⟩ = some (.int .i64 (c 1)) := (A5.cell (p := ⟨w.heap.size, 1, none⟩) (by simp)).trans ((wa_cell w c s).1 1 (by omega))
  have qc2 : x5.cell? ⟨w.heap.size, 2, none⟩ = some (.int .i64 (c 2)) := (A5.cell (p := ⟨w.heap.size, 2, none⟩) (by simp)).trans ((wa_cell w c s).1 2 (by omega))
  have qc3 : x5.cell? ⟨w.heap.size, 3, none⟩ = some (.int .i64 (c 3)) := (A5.cell (p := ⟨w.heap.size, 3, none⟩) (by simp)).trans ((wa_cell w c s).1 3 (by omega))
  have qc4 : x5.cell? ⟨w.heap.size, 4, none⟩ = some (.int .i64 (c 4)) := (A5.cell (p := ⟨w.heap.size, 4, none⟩) (by simp)).trans ((wa_cell w c s).1 4 (by omega))
  have qc5 : x5.cell? ⟨w.heap.size, 5, none⟩ = some (.int .i64 (c 5)) := (A5.cell (p := ⟨w.heap.size, 5, none⟩) (by simp)).trans ((wa_cell w c s).1 5 (by omega))
  have qc6 : x5.cell? ⟨w.heap.size, 6, none⟩ = some (.int .i64 (c 6)) := (A5.cell (p := ⟨w.heap.size, 6, none⟩) (by simp)).trans ((wa_cell w c s).1 6 (by omega))
  have qc7 : x5.cell? ⟨w.heap.size, 7, none⟩ = some (.int .i64 (c 7)) := (A5.cell (p := ⟨w.heap.size, 7, none⟩) (by simp)).trans ((wa_cell w c s).1 7 (by omega))
  have qc8 : x5.cell? ⟨w.heap.size, 8, none⟩ = some (.int .i64 (c 8)) := (A5.cell (p := ⟨w.heap.size, 8, none⟩) (by simp)).trans ((wa_cell w c s).1 8 (by omega))
  have qc9 : x5.cell? ⟨w.heap.size, 9, none⟩ = some (.int .i64 (c 9)) := (A5.cell (p := ⟨w.heap.size, 9, none⟩) (by simp)).trans ((wa_cell w c s).1 9 (by omega))
  have qc10 : x5.cell? ⟨w.heap.size, 10, none⟩ = some (.int .i64 (c 10)) := (A5.cell (p := ⟨w.heap.size, 10, none⟩) (by simp)).trans ((wa_cell w c s).1 10 (by omega))
  have qs0 : x5.cell? ⟨w.heap.size + 1, 0, none⟩ = some (.int .i64 (s 0)) := (A5.cell (p := ⟨w.heap.size + 1, 0, none⟩) (by simp)).trans ((wa_cell w c s).2 0 (by omega))
  have qs1 : x5.cell? ⟨w.heap.size + 1, 1, none⟩ = some (.int .i64 (s 1)) := (A5.cell (p := ⟨w.heap.size + 1, 1, none⟩) (by simp)).trans ((wa_cell w c s).2 1 (by omega))
  have qs2 : x5.cell? ⟨w.heap.size + 1, 2, none⟩ = some (.int .i64 (s 2)) := (A5.cell (p := ⟨w.heap.size + 1, 2, none⟩) (by simp)).trans ((wa_cell w c s).2 2 (by omega))
  have qs3 : x5.cell? ⟨w.heap.size + 1, 3, none⟩ = some (.int .i64 (s 3)) := (A5.cell (p := ⟨w.heap.size + 1, 3, none⟩) (by simp)).trans ((wa_cell w c s).2 3 (by omega))
  have qs4 : x5.cell? ⟨w.heap.size + 1, 4, none⟩ = some (.int .i64 (s 4)) := (A5.cell (p := ⟨w.heap.size + 1, 4, none⟩) (by simp)).trans ((wa_cell w c s).2 4 (by omega))
  have qs5 : x5.cell? ⟨w.heap.size + 1, 5, none⟩ = some (.int .i64 (s 5)) := (A5.cell (p := ⟨w.heap.size + 1, 5, none⟩) (by simp)).trans ((wa_cell w c s).2 5 (by omega))
  have qs6 : x5.cell? ⟨w.heap.size + 1, 6, none⟩ = some (.int .i64 (s 6)) := (A5.cell (p := ⟨w.heap.size + 1, 6, none⟩) (by simp)).trans ((wa_cell w c s).2 6 (by omega))
  have qs7 : x5.cell? ⟨w.heap.size + 1, 7, none⟩ = some (.int .i64 (s 7)) := (A5.cell (p := ⟨w.heap.size + 1, 7, none⟩) (by simp)).trans ((wa_cell w c s).2 7 (by omega))
  clear hb5 kc0 kc1 kc2 kc3 kc4 kc5 kc6 kc7 kc8 kc9 kc10 ks0 ks1 ks2 ks3 ks4 ks5 ks6 ks7
  go_wp2
  go_region_held3 (fun w' => w'.cell? ⟨w.heap.size, 0, none⟩ = some (.int .i64 (c 0)) ∧ w'.cell? ⟨w.heap.size, 1, none⟩ = some (.int .i64 (c 1)) ∧ w'.cell? ⟨w.heap.size, 2, none⟩ = some (.int .i64 (c 2)) ∧ w'.cell? ⟨w.heap.size, 3, none⟩ = some (.int .i64 (c 3)) ∧ w'.cell? ⟨w.heap.size, 4, none⟩ = some (.int .i64 (c 4)) ∧ w'.cell? ⟨w.heap.size, 5, none⟩ = some (.int .i64 (c 5)) ∧ w'.cell? ⟨w.heap.size, 6, none⟩ = some (.int .i64 (c 6)) ∧ w'.cell? ⟨w.heap.size, 7, none⟩ = some (.int .i64 (c 7)) ∧ w'.cell? ⟨w.heap.size, 8, none⟩ = some (.int .i64 (c 8)) ∧ w'.cell? ⟨w.heap.size, 9, none⟩ = some (.int .i64 (c 9)) ∧ w'.cell? ⟨w.heap.size, 10, none⟩ = some (.int .i64 (c 10)) ∧ w'.cell? ⟨w.heap.size + 1, 0, none⟩ = some (.int .i64 (s 0)) ∧ w'.cell? ⟨w.heap.size + 1, 1, none⟩ = some (.int .i64 (s 1)) ∧ w'.cell? ⟨w.heap.size + 1, 2, none⟩ = some (.int .i64 (s 2)) ∧ w'.cell? ⟨w.heap.size + 1, 3, none⟩ = some (.int .i64 (s 3)) ∧ w'.cell? ⟨w.heap.size + 1, 4, none⟩ = some (.int .i64 (s 4)) ∧ w'.cell? ⟨w.heap.size + 1, 5, none⟩ = some (.int .i64 (s 5)) ∧ w'.cell? ⟨w.heap.size + 1, 6, none⟩ = some (.int .i64 (s 6)) ∧ w'.cell? ⟨w.heap.size + 1, 7, none⟩ = some (.int .i64 (s 7))) (first | go_keep | exact keepS (x := x5.drew) ⟨qc0, qc1, qc2, qc3, qc4, qc5, qc6, qc7, qc8, qc9, qc10, qs0, qs1, qs2, qs3, qs4, qs5, qs6, qs7⟩ hb7 (by show _ < x5.heap.size; omega)) (first | (go_at_call 35; refine (H5.out _ _ _).mono ?_; rintro e x7 ⟨rfl, hb7⟩))
  have b57 : Below x5.heap.size x5 x7 := ((Below.refl _ x5).drew).trans hb7
  have z7 := b57.size
  clear hb7
  go_wp2_with fail
  refine (same38_zero none none 0 0 _).mono ?_
  rintro e x9 ⟨rfl, hb9⟩
  have z9 := hb9.size
  go_wp2_with fail
  refine (HK.out _).mono ?_
  rintro e y1 ⟨rfl, hc1⟩
  go_wp2
  go_ret
  exact ⟨rfl, (((B5.trans (b57.mono (by omega))).trans (hb9.mono (by omega))).trans (hc1.mono (by omega)))⟩
theorem chains_fin {z : Nat → Int} (hz : ints z) {v : Value} {n : Nat} {O : Nat → Nat → Int} {w : World} (h : (SL 10 w v n O ∧ ∀ i, ints (O i)) ∧ ∀ a m cap, v = .slice a m cap → cap ≤ 9223372036854775807 ∧ (a = none → cap = 0)) :
    Calls P 15 #[cavV z, stV z, v, vi (z 19)] w fun e w' => e = .returned (.bool true) ∧ Below w.heap.size w w' := by
  obtain ⟨⟨h, iO⟩, hcp⟩ := h
  show Calls P 15 #[cavV z, sV (fun q => z (11 + q)), v, .int .i64 (z 19)] w _
  have is : ints (fun q => z (11 + q)) := fun q => hz _
  generalize hS : (fun q => z (11 + q)) = s at is ⊢
  generalize z 19 = f
  have i0 : ints zeros := fun i => by show _ ≤ (0 : Int) ∧ (0 : Int) ≤ _; omega
  have c2 := says19 hz
  have s2 := says20 (z := zz zeros s zeros) (zz_ints i0 is i0)
  rw [zz_stP] at s2
  rw [zz_st] at s2
  have hm : n ≤ 9223372036854775807 := by
    rcases h with ⟨_, _, _, h0⟩ | ⟨_, _, _, _, _, _, h4, _⟩ <;> omega
  have h' := h
  obtain ⟨a, cap, rfl⟩ := h.len
  obtain ⟨hcb, hca⟩ := hcp _ _ _ rfl
  by_cases hn : n ≤ 12
  · by_cases hc : cavP z
    · by_cases hs : StI s
      · obtain ⟨kb, hk⟩ := bad_is O n
        by_cases hkn : kb < n
        · exact law15_o z s w f a n cap hn iO hk hkn (c2.1 hc) (s2.1 hs) h'
        · have e : kb = n := by have := hk.1; omega
          subst e
          have hO := hk.2.1
          by_cases f0 : f < 0
          · exact law15_n z s w f a kb cap hn iO hk (c2.1 hc) (s2.1 hs) h' f0
          by_cases f1 : (kb : Int) < f
          · exact law15_m z s w f a kb cap hn iO hk (c2.1 hc) (s2.1 hs) h' f1
          obtain ⟨F, rfl⟩ : ∃ F : Nat, f = (F : Int) := ⟨f.toNat, by omega⟩
          have hF : F ≤ kb := by omega
          by_cases n0 : kb = 0
          · subst n0
            have : F = 0 := by omega
            subst this
            cases a with
            | none => rw [hca rfl]; exact law15_zn z s w hc hs
            | some ad => exact law15_zs z s w hc hs ad cap
          · rcases h with ⟨_, _, _, h0⟩ | ⟨b, off, cap', e, h2, h3, _, h5⟩
            · omega
            cases e
            obtain ⟨k, hst⟩ := stop_is z s O kb
            by_cases hkf : k < F
            · exact law15_1 z s w iO hc hs b off kb cap F k hn h3 hcb hF hkf hO hst h2 h5
            · cases F with
              | zero =>
                by_cases hkn2 : k < kb
                · exact law15_4 z s w iO hc hs b off kb cap k hn h3 hcb hF hkn2 hO hst h2 h5
                · exact law15_5 z s w iO hc hs b off kb cap k hn h3 hcb hF hkn2 hO hst h2 h5
              | succ g =>
                obtain ⟨m, rfl⟩ : ∃ m, k = g + 1 + m := ⟨k - (g + 1), by omega⟩
                rw [show ((g + 1 : Nat) : Int) = (g : Int) + 1 by omega]
                by_cases hkn2 : g + 1 + m < kb
                · exact law15_2 z s w iO hc hs b off kb cap g m hn h3 hcb hF _ rfl hkn2 hO hst h2 h5
                · by_cases hce : cap = g + 1
                  · have e1 : kb = g + 1 := by omega
                    subst e1
                    subst hce
                    exact law15_3b z s w iO hc hs b off g m hn h3 hcb hF _ rfl hkn2 hO hst h2 h5
                  · exact law15_3 z s w iO hc hs b off kb cap g m hn h3 hcb hF _ rfl hce hkn2 hO hst h2 h5
      · exact law15_s z s w f a n cap hn (c2.1 hc) (s2.2 hs)
    · exact law15_c z s w f a n cap hn (c2.2 hc)
  · exact law15_a z s w f a n cap (by omega) hm
end Go.Ev.Gas
end

section
set_option maxRecDepth 100000
namespace Go.Proofs.Ytdpegcimhhegmaa.chains
open Go.ChangeShapes Go.WideShapes Go.ChangeAt Go.RowKit Go.Joins Go.Ev.Gas
theorem lifted (os : Os) (started : os.Started) (H : Type) (enc : TypeId × Value → H) :
    ReturnsInHanded {} Try.checked os 15 .any (Rows.gasChainsSpec.pre6 enc Try.prog Try.f15 Rows.gasChainsRow.domain false) (Rows.gasChainsSpec.post enc Try.prog Try.f15 false true false false) := by
  refine returnsInHanded_of_change (C := Try.checked) own started (by kernel_rfl) Try.func15
    (ChangeSpec.witness6 (enc := enc) (C := Try.checked) false ⟨#[], #[.agg #[.int .i64 0, .int .i64 0, .int .i64 0, .int .i64 0, .int .i64 0, .int .i64 0, .int .i64 0, .int .i64 0, .int .i64 0, .int .i64 0, .int .i64 0], .agg #[.int .i64 0, .int .i64 0, .int .i64 0, .int .i64 0, .int .i64 0, .int .i64 0, .int .i64 0, .int .i64 0], .slice none 0 0, .int .i64 0], []⟩ 8 (by kernel_rfl) (by kernel_rfl) (by kernel_rfl) (by kernel_rfl)) ?_
  intro W base args ds gs before hval0 hW _ _
  have hval : ∀ (j : Nat) t v, Try.f15.params[j]? = some t → args[j]? = some v → Value.okWide Try.prog W .any base t v := hval0
  have hW' := hW
  obtain ⟨p, q, hA0, hV, rfl, hfz, hnd⟩ := hW
  have hA : DataW.TrodAll enc Try.prog W 0 (fun _ => true) true Try.f15.params.toList args.toList ds p := hA0
  rw [Try.params15] at hA hval
  obtain ⟨v0, v1, v2, v3, d0, d1, d2, d3, p0, p1, p2, p3, rfl, rfl, rfl, h0, h1, h2, h3⟩ := trodAll_four hA
  obtain ⟨rfl, rfl⟩ := trodVars_none hV
  clear hA0 hval0
  simp only [List.append_nil] at hW'
  have hlt0 : ∀ x ∈ p0, x.block < W.heap.size := fun x hx => hW'.lt x (by simp [hx])
  have g0 := h0
  have hlt1 : ∀ x ∈ p1, x.block < W.heap.size := fun x hx => hW'.lt x (by simp [hx])
  have g1 := h1
  have hlt2 : ∀ x ∈ p2, x.block < W.heap.size := fun x hx => hW'.lt x (by simp [hx])
  have g2 := h2
  have hlt3 : ∀ x ∈ p3, x.block < W.heap.size := fun x hx => hW'.lt x (by simp [hx])
  have g3 := h3
  obtain ⟨z0, i0, rfl⟩ := flat_open flat26 Try.underlying26 11 cells26 (hval 0 26 v0 rfl rfl) h0
  obtain ⟨z1, i1, rfl⟩ := flat_open flat28 Try.underlying28 8 cells28 (hval 1 28 v1 rfl rfl) h1
  obtain ⟨n2, l2, li2⟩ := ops_open2 hlt2 (hval 2 67 v2 rfl rfl) h2
  obtain ⟨z3, rfl, i3⟩ := int_open (hval 3 3 v3 rfl rfl) h3
  let z : Nat → Int := fun i => match i with | 0 => z0 0 | 1 => z0 1 | 2 => z0 2 | 3 => z0 3 | 4 => z0 4 | 5 => z0 5 | 6 => z0 6 | 7 => z0 7 | 8 => z0 8 | 9 => z0 9 | 10 => z0 10 | 11 => z1 0 | 12 => z1 1 | 13 => z1 2 | 14 => z1 3 | 15 => z1 4 | 16 => z1 5 | 17 => z1 6 | 18 => z1 7 | 19 => z3 | _ => 0
  have hz : ints z := fun i => by
    show _ ∧ _
    simp only [z]
    split
    · exact i0 0
    · exact i0 1
    · exact i0 2
    · exact i0 3
    · exact i0 4
    · exact i0 5
    · exact i0 6
    · exact i0 7
    · exact i0 8
    · exact i0 9
    · exact i0 10
    · exact i1 0
    · exact i1 1
    · exact i1 2
    · exact i1 3
    · exact i1 4
    · exact i1 5
    · exact i1 6
    · exact i1 7
    · exact i3
    · omega
  refine (chains_fin hz li2).mono fun e W' ⟨he, hB⟩ => ?_
  subst he
  refine ⟨_, rfl, _, _, _, [], p0 ++ (p1 ++ (p2 ++ (p3))), [], hW', ?_, ?_, ?_, hB.frame _, fun h => by cases h⟩
  · exact trodAll_mk1 (shut_bool Try.underlying4 true)
  · exact trodAll_mk4 (Below.trod laidOut (by kernel_rfl) (of_decide_eq_true (by kernel_rfl)) g0 hB hlt0) (Below.trod laidOut (by kernel_rfl) (of_decide_eq_true (by kernel_rfl)) g1 hB hlt1) (Below.trod laidOut (by kernel_rfl) (of_decide_eq_true (by kernel_rfl)) g2 hB hlt2) (Below.trod laidOut (by kernel_rfl) (of_decide_eq_true (by kernel_rfl)) g3 hB hlt3)
  · rfl
theorem named : Try.prog.funcNamed Rows.gasChainsRow.func = some 15 := by kernel_rfl
theorem proved : Rows.GasChainsSaid :=
  OpenClaim.holds_of_wide 15 Try.f15 rfl rfl rfl rfl rfl rfl rfl ⟨rfl, rfl, rfl, rfl, rfl⟩ rfl rfl rfl rfl rfl named Try.func15 facts
    (of_decide_eq_true (by kernel_rfl)) (by unfold Func.isWrapper; first | (rw [if_pos (by decide +kernel)]; kernel_rfl) | (rw [if_neg (by decide +kernel)]; exact ⟨rfl, rfl⟩))
    (fun os started H enc _ => lifted os started H enc)
end Go.Proofs.Ytdpegcimhhegmaa.chains
end

