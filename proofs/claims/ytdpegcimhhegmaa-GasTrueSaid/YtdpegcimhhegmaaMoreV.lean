import Derived.Test.YtdpegcimhhegmaaMoreA
import Derived.WalkKit
import Derived.LoopTactic
import Derived.BigQuiet
import Derived.Lib.Hide
import Derived.Handy
set_option linter.unusedVariables false
set_option linter.unusedSimpArgs false
set_option linter.unusedSectionVars false
section
set_option maxRecDepth 100000
namespace Go.Ev.Gas
open Go.RowKit Go.Proofs
theorem bcell {W w1 : World} (hb : Below W.heap.size W w1) : (∀ b o, b < W.heap.size → w1.cell? ⟨b, o, none⟩ = W.cell? ⟨b, o, none⟩) ∧ (∀ b o, b < W.heap.size → w1.frozen? ⟨b, o, none⟩ = W.frozen? ⟨b, o, none⟩) :=
  ⟨fun b o h => hb.cell (p := ⟨b, o, none⟩) h, fun b o h => hb.frozen (p := ⟨b, o, none⟩) h⟩
theorem sizes3 {w x1 : World} {O O' O'' : Obj} (hb : Below (((w.alloc O).alloc O').alloc O'').heap.size (((w.alloc O).alloc O').alloc O'') x1) : w.heap.size < x1.heap.size ∧ w.heap.size + 1 < x1.heap.size ∧ w.heap.size + 1 + 1 < x1.heap.size := by
  have := hb.size; simp at this; omega
theorem sizes3' {x : Nat} {a b : World} (h : x < a.heap.size ∧ x + 1 < a.heap.size ∧ x + 1 + 1 < a.heap.size) (hb : Below a.heap.size a b) : x < b.heap.size ∧ x + 1 < b.heap.size ∧ x + 1 + 1 < b.heap.size := by
  have := hb.size; omega
set_option maxHeartbeats 1000000 in
theorem out1 {z : Nat → Int} (v : Value) (h1 : Says 19 (cavV z) false) (w : World) :
    Calls Try.prog 14 #[cavV z, stV z, opV z, v] w fun e w' => e = .returned (.bool true) ∧ Below w.heap.size w w' := by
  have hB := fun O O' O'' => (((Below.refl w.heap.size w).alloc (Nat.le_refl _) O).alloc (by simp) O').alloc (by simp; omega) O''
  have HB := Lib.hid hB
  clear hB
  have H1 := Lib.hid h1
  clear h1
  have HK := Lib.hid known_says
  simp only [Says, cavV, stV, opV] at *
  go_enter Try.func14, Try.ntmps14
  go_wp2_with fail
  refine (H1.out _).mono ?_
  rintro e x1 ⟨rfl, hb1⟩
  obtain ⟨hc1, hf1⟩ := bcell hb1
  obtain ⟨k1, l1, m1⟩ := sizes3 hb1
  go_wp2_with fail
  refine (HK.out _).mono ?_
  rintro e x2 ⟨rfl, hb2⟩
  obtain ⟨hc2, hf2⟩ := bcell hb2
  obtain ⟨k2, l2, m2⟩ := sizes3' ⟨k1, l1, m1⟩ hb2
  go_wp2
  go_ret
  exact ⟨rfl, ((HB.out _ _ _).trans (hb1.mono (by simp; omega))).trans (hb2.mono (by omega))⟩
set_option maxHeartbeats 1000000 in
theorem out2 {z : Nat → Int} (v : Value) (h1 : Says 19 (cavV z) true) (h2 : Says 20 (stV z) false) (w : World) :
    Calls Try.prog 14 #[cavV z, stV z, opV z, v] w fun e w' => e = .returned (.bool true) ∧ Below w.heap.size w w' := by
  have hB := fun O O' O'' => (((Below.refl w.heap.size w).alloc (Nat.le_refl _) O).alloc (by simp) O').alloc (by simp; omega) O''
  have HB := Lib.hid hB
  clear hB
  have H1 := Lib.hid h1
  clear h1
  have H2 := Lib.hid h2
  clear h2
  have HK := Lib.hid known_says
  simp only [Says, cavV, stV, opV] at *
  go_enter Try.func14, Try.ntmps14
  go_wp2_with fail
  refine (H1.out _).mono ?_
  rintro e x0 ⟨rfl, hb0⟩
  obtain ⟨hc0, hf0⟩ := bcell hb0
  obtain ⟨k0, l0, m0⟩ := sizes3 hb0
  go_wp2_with fail
  refine (H2.out _).mono ?_
  rintro e x1 ⟨rfl, hb1⟩
  obtain ⟨hc1, hf1⟩ := bcell hb1
  obtain ⟨k1, l1, m1⟩ := sizes3' ⟨k0, l0, m0⟩ hb1
  go_wp2_with fail
  refine (HK.out _).mono ?_
  rintro e x2 ⟨rfl, hb2⟩
  obtain ⟨hc2, hf2⟩ := bcell hb2
  obtain ⟨k2, l2, m2⟩ := sizes3' ⟨k1, l1, m1⟩ hb2
  go_wp2
  go_ret
  exact ⟨rfl, (((HB.out _ _ _).trans (hb0.mono (by simp; omega))).trans (hb1.mono (by omega))).trans (hb2.mono (by omega))⟩
set_option maxHeartbeats 1000000 in
theorem out3 {z : Nat → Int} (v : Value) (h1 : Says 19 (cavV z) true) (h2 : Says 20 (stV z) true) (h3 : Says 30 (opV z) false) (w : World) :
    Calls Try.prog 14 #[cavV z, stV z, opV z, v] w fun e w' => e = .returned (.bool true) ∧ Below w.heap.size w w' := by
  have hB := fun O O' O'' => (((Below.refl w.heap.size w).alloc (Nat.le_refl _) O).alloc (by simp) O').alloc (by simp; omega) O''
  have HB := Lib.hid hB
  clear hB
  have H1 := Lib.hid h1
  clear h1
  have H2 := Lib.hid h2
  clear h2
  have H3 := Lib.hid h3
  clear h3
  have HK := Lib.hid known_says
  simp only [Says, cavV, stV, opV] at *
  go_enter Try.func14, Try.ntmps14
  go_wp2_with fail
  refine (H1.out _).mono ?_
  rintro e x0 ⟨rfl, hb0⟩
  obtain ⟨hc0, hf0⟩ := bcell hb0
  obtain ⟨k0, l0, m0⟩ := sizes3 hb0
  go_wp2_with fail
  refine (H2.out _).mono ?_
  rintro e x1 ⟨rfl, hb1⟩
  obtain ⟨hc1, hf1⟩ := bcell hb1
  obtain ⟨k1, l1, m1⟩ := sizes3' ⟨k0, l0, m0⟩ hb1
  go_wp2_with fail
  refine (H3.out _).mono ?_
  rintro e x2 ⟨rfl, hb2⟩
  obtain ⟨hc2, hf2⟩ := bcell hb2
  obtain ⟨k2, l2, m2⟩ := sizes3' ⟨k1, l1, m1⟩ hb2
  go_wp2_with fail
  refine (HK.out _).mono ?_
  rintro e x3 ⟨rfl, hb3⟩
  obtain ⟨hc3, hf3⟩ := bcell hb3
  obtain ⟨k3, l3, m3⟩ := sizes3' ⟨k2, l2, m2⟩ hb3
  go_wp2
  go_ret
  exact ⟨rfl, ((((HB.out _ _ _).trans (hb0.mono (by simp; omega))).trans (hb1.mono (by omega))).trans (hb2.mono (by omega))).trans (hb3.mono (by omega))⟩
set_option maxHeartbeats 1000000 in
theorem out4 {z : Nat → Int} (a : Option Addr) (n cap : Nat) (hn : ¬ (n : Int) = 4) (h1 : Says 19 (cavV z) true) (h2 : Says 20 (stV z) true) (h3 : Says 30 (opV z) true) (w : World) :
    Calls Try.prog 14 #[cavV z, stV z, opV z, .slice a n cap] w fun e w' => e = .returned (.bool true) ∧ Below w.heap.size w w' := by
  have hB := fun O O' O'' => (((Below.refl w.heap.size w).alloc (Nat.le_refl _) O).alloc (by simp) O').alloc (by simp; omega) O''
  have HB := Lib.hid hB
  clear hB
  have H1 := Lib.hid h1
  clear h1
  have H2 := Lib.hid h2
  clear h2
  have H3 := Lib.hid h3
  clear h3
  have HK := Lib.hid known_says
  simp only [Says, cavV, stV, opV] at *
  go_enter Try.func14, Try.ntmps14
  go_wp2_with fail
  refine (H1.out _).mono ?_
  rintro e x0 ⟨rfl, hb0⟩
  obtain ⟨hc0, hf0⟩ := bcell hb0
  obtain ⟨k0, l0, m0⟩ := sizes3 hb0
  go_wp2_with fail
  refine (H2.out _).mono ?_
  rintro e x1 ⟨rfl, hb1⟩
  obtain ⟨hc1, hf1⟩ := bcell hb1
  obtain ⟨k1, l1, m1⟩ := sizes3' ⟨k0, l0, m0⟩ hb1
  go_wp2_with fail
  refine (H3.out _).mono ?_
  rintro e x2 ⟨rfl, hb2⟩
  obtain ⟨hc2, hf2⟩ := bcell hb2
  obtain ⟨k2, l2, m2⟩ := sizes3' ⟨k1, l1, m1⟩ hb2
  go_wp2_with fail
  refine (HK.out _).mono ?_
  rintro e x3 ⟨rfl, hb3⟩
  obtain ⟨hc3, hf3⟩ := bcell hb3
  obtain ⟨k3, l3, m3⟩ := sizes3' ⟨k2, l2, m2⟩ hb3
  go_wp2
  go_ret
  exact ⟨rfl, ((((HB.out _ _ _).trans (hb0.mono (by simp; omega))).trans (hb1.mono (by omega))).trans (hb2.mono (by omega))).trans (hb3.mono (by omega))⟩
end Go.Ev.Gas
end

