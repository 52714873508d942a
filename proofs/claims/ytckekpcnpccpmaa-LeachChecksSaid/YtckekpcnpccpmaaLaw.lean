import Derived.Test.YtckekpcnpccpmaaRates
set_option linter.unusedVariables false
set_option linter.unusedSimpArgs false
set_option linter.unusedSectionVars false
namespace Go.Proofs.W
open Go.RowKit
theorem sizes {a : World} {x : Nat} {b : World} (h : x + 1 < a.heap.size) (hb : Below a.heap.size a b) : x < b.heap.size ∧ x + 1 < b.heap.size := by
  have := hb.size; omega
theorem sizes0 {w x1 : World} {O O' : Obj} (hb : Below ((w.alloc O).alloc O').heap.size ((w.alloc O).alloc O') x1) : w.heap.size < x1.heap.size ∧ w.heap.size + 1 < x1.heap.size := by
  have := hb.size; simp at this; omega
theorem belowAll {w W a b : World} (h1 : Below w.heap.size w W) (h2 : Below W.heap.size W a) (h3 : Below w.heap.size a b) : Below w.heap.size w b := (h1.trans (h2.mono h1.size)).trans h3
theorem up {w a b : World} (h1 : w.heap.size < a.heap.size) (h2 : Below a.heap.size a b) : Below w.heap.size a b := h2.mono (by omega)
theorem law_long (v : Value) (n : Nat) (hold oil wa i o bl : Int) (F : Nat → Nat → Int) (w : World) (hs : Sl w v n F) (h20 : ¬ (n : Int) ≤ 20)
    (hk : ∀ w, Calls Try.prog 5 #[] w fun e w' => e = .returned (.bool true) ∧ Below w.heap.size w w') :
    Calls Try.prog 3 #[.agg #[v, .int .i64 hold, .int .i64 oil], .agg #[.int .i64 wa, .int .i64 i, .int .i64 o, .int .i64 bl]] w fun e w' => e = .returned (.bool true) ∧ Below w.heap.size w w' := by
  have hB := fun O O' => ((Below.refl w.heap.size w).alloc (Nat.le_refl _) O).alloc (by simp) O'
  have HB := Lib.hid hB
  clear hB
  have HS := Lib.hid hs
  clear hs
  have HK := Lib.hid hk
  clear hk
  have C := fun w hs => short_any v n hold oil F w hs
  rw [decide_eq_false h20] at C
  have HC := Lib.hid C
  clear C h20
  go_enter Try.func3, Try.ntmps3
  go_wp2_with fail
  refine (HC.out _ ((HS.out.alloc _).alloc _)).mono ?_
  rintro e x1 ⟨rfl, hb1⟩
  obtain ⟨hc1, hf1⟩ := bcell hb1
  obtain ⟨k1, l1⟩ := sizes0 hb1
  go_wp2_with fail
  refine (HK.out _).mono ?_
  rintro e x2 ⟨rfl, hb2⟩
  obtain ⟨hc2, hf2⟩ := bcell hb2
  obtain ⟨k2, l2⟩ := sizes l1 hb2
  go_wp2
  go_ret
  exact ⟨rfl, belowAll (HB.out _ _) hb1 (up k1 hb2)⟩
theorem law_bad (v : Value) (n : Nat) (hold oil wa i o bl : Int) (F : Nat → Nat → Int) (w : World) (hs : Sl w v n F) (h20 : (n : Int) ≤ 20) (hbad : cavB n hold oil F = false)
    (hk : ∀ w, Calls Try.prog 5 #[] w fun e w' => e = .returned (.bool true) ∧ Below w.heap.size w w') :
    Calls Try.prog 3 #[.agg #[v, .int .i64 hold, .int .i64 oil], .agg #[.int .i64 wa, .int .i64 i, .int .i64 o, .int .i64 bl]] w fun e w' => e = .returned (.bool true) ∧ Below w.heap.size w w' := by
  have hB := fun O O' => ((Below.refl w.heap.size w).alloc (Nat.le_refl _) O).alloc (by simp) O'
  have HB := Lib.hid hB
  clear hB
  have HS := Lib.hid hs
  clear hs
  have HK := Lib.hid hk
  clear hk
  have C := fun w hs => short_any v n hold oil F w hs
  rw [decide_eq_true h20] at C
  have HC := Lib.hid C
  have D := fun w hs => check_any v n hold oil F w hs false hbad
  simp only [Bool.false_eq_true, if_false] at D
  have HD := Lib.hid D
  have E := fun w hs => rates_bad v n hold oil wa i o bl F w hs hbad
  have HE := Lib.hid E
  have R := fun w hs => rcav_any v n hold oil F w hs
  rw [hbad] at R
  have HR := Lib.hid R
  clear C D E R h20 hbad
  go_enter Try.func3, Try.ntmps3
  go_wp2_with fail
  refine (HC.out _ ((HS.out.alloc _).alloc _)).mono ?_
  rintro e x1 ⟨rfl, hb1⟩
  obtain ⟨hc1, hf1⟩ := bcell hb1
  obtain ⟨k1, l1⟩ := sizes0 hb1
  have S1 := Lib.hid (((HS.out.alloc _).alloc _).below hb1)
  go_wp2_with fail
  refine (HD.out _ S1.out).mono ?_
  rintro e x2 ⟨rfl, hb2⟩
  obtain ⟨hc2, hf2⟩ := bcell hb2
  obtain ⟨k2, l2⟩ := sizes l1 hb2
  have S2 := Lib.hid (S1.out.below hb2)
  go_wp2_with fail
  refine (HE.out _ S2.out).mono ?_
  rintro e x3 ⟨rfl, hb3⟩
  obtain ⟨hc3, hf3⟩ := bcell hb3
  obtain ⟨k3, l3⟩ := sizes l2 hb3
  have S3 := Lib.hid (S2.out.below hb3)
  go_wp2_with fail
  refine (HR.out _ S3.out).mono ?_
  rintro e x4 ⟨rfl, hb4⟩
  obtain ⟨hc4, hf4⟩ := bcell hb4
  obtain ⟨k4, l4⟩ := sizes l3 hb4
  go_wp2_with fail
  refine (HK.out _).mono ?_
  rintro e x5 ⟨rfl, hb5⟩
  obtain ⟨hc5, hf5⟩ := bcell hb5
  obtain ⟨k5, l5⟩ := sizes l4 hb5
  go_wp2
  go_ret
  exact ⟨rfl, belowAll (HB.out _ _) hb1 ((((up k1 hb2).trans (up k2 hb3)).trans (up k3 hb4)).trans (up k4 hb5))⟩
theorem law_stage (a : Addr) (n cap : Nat) (hold oil wa i o bl : Int) (F : Nat → Nat → Int) (w : World) (hs : Sl w (.slice (some a) n cap) n F) (h20 : (n : Int) ≤ 20) (hn : 1 ≤ n) (hm : n ≤ 9223372036854775807) (hcav : cavB n hold oil F = true) (hbad : stageB n wa i o bl = false)
    (hk : ∀ w, Calls Try.prog 5 #[] w fun e w' => e = .returned (.bool true) ∧ Below w.heap.size w w') :
    Calls Try.prog 3 #[.agg #[.slice (some a) n cap, .int .i64 hold, .int .i64 oil], .agg #[.int .i64 wa, .int .i64 i, .int .i64 o, .int .i64 bl]] w fun e w' => e = .returned (.bool true) ∧ Below w.heap.size w w' := by
  have hB := fun O O' => ((Below.refl w.heap.size w).alloc (Nat.le_refl _) O).alloc (by simp) O'
  have HB := Lib.hid hB
  clear hB
  have HS := Lib.hid hs
  clear hs
  have HK := Lib.hid hk
  clear hk
  have C := fun w hs => short_any (.slice (some a) n cap) n hold oil F w hs
  rw [decide_eq_true h20] at C
  have HC := Lib.hid C
  have D := fun w hs => check_any (.slice (some a) n cap) n hold oil F w hs true hcav
  simp only [if_true] at D
  have HD := Lib.hid D
  have E := fun w hs => rates_bad2 a n cap hold oil wa i o bl F w hs hn hm hcav hbad
  have HE := Lib.hid E
  have R := fun w hs => rcav_any (.slice (some a) n cap) n hold oil F w hs
  rw [hcav] at R
  have HR := Lib.hid R
  have T := fun w => stage9_any a n cap hold oil wa i o bl w hn hm
  rw [hbad] at T
  have HT := Lib.hid T
  clear C D E R T h20 hbad hcav
  go_enter Try.func3, Try.ntmps3
  go_wp2_with fail
  refine (HC.out _ ((HS.out.alloc _).alloc _)).mono ?_
  rintro e x1 ⟨rfl, hb1⟩
  obtain ⟨hc1, hf1⟩ := bcell hb1
  obtain ⟨k1, l1⟩ := sizes0 hb1
  have S1 := Lib.hid (((HS.out.alloc _).alloc _).below hb1)
  go_wp2_with fail
  refine (HD.out _ S1.out).mono ?_
  rintro e x2 ⟨rfl, hb2⟩
  obtain ⟨hc2, hf2⟩ := bcell hb2
  obtain ⟨k2, l2⟩ := sizes l1 hb2
  have S2 := Lib.hid (S1.out.below hb2)
  go_wp2_with fail
  refine (HE.out _ S2.out).mono ?_
  rintro e x3 ⟨rfl, hb3⟩
  obtain ⟨hc3, hf3⟩ := bcell hb3
  obtain ⟨k3, l3⟩ := sizes l2 hb3
  have S3 := Lib.hid (S2.out.below hb3)
  go_wp2_with fail
  refine (HR.out _ S3.out).mono ?_
  rintro e x4 ⟨rfl, hb4⟩
  obtain ⟨hc4, hf4⟩ := bcell hb4
  obtain ⟨k4, l4⟩ := sizes l3 hb4
  go_wp2_with fail
  refine (HT.out _).mono ?_
  rintro e x5 ⟨rfl, hb5⟩
  obtain ⟨hc5, hf5⟩ := bcell hb5
  obtain ⟨k5, l5⟩ := sizes l4 hb5
  go_wp2_with fail
  refine (HK.out _).mono ?_
  rintro e x6 ⟨rfl, hb6⟩
  obtain ⟨hc6, hf6⟩ := bcell hb6
  obtain ⟨k6, l6⟩ := sizes l5 hb6
  go_wp2
  go_ret
  exact ⟨rfl, belowAll (HB.out _ _) hb1 (((((up k1 hb2).trans (up k2 hb3)).trans (up k3 hb4)).trans (up k4 hb5)).trans (up k5 hb6))⟩
end Go.Proofs.W

namespace Go.Proofs.W
open Go.RowKit Go.Ev.LR
theorem Begun.below {w w' : World} {b off n cap i o : Nat} {hold oil wa bl : Int} {F : Nat → Nat → Int} (S : Begun w b off n cap i o hold oil wa bl F) (hb : Below w.heap.size w w') : Begun w' b off n cap i o hold oil wa bl F :=
  ⟨S.hs.below hb, S.hF, S.cav, S.stage⟩
theorem Begun.alloc {w : World} {b off n cap i o : Nat} {hold oil wa bl : Int} {F : Nat → Nat → Int} (S : Begun w b off n cap i o hold oil wa bl F) (O : Obj) : Begun (w.alloc O) b off n cap i o hold oil wa bl F :=
  ⟨S.hs.alloc O, S.hF, S.cav, S.stage⟩
theorem spec_bd {w : World} {b off n cap i o : Nat} {hold oil wa bl : Int} {F : Nat → Nat → Int} (S : Begun w b off n cap i o hold oil wa bl F) (s : Nat) :
    (0 ≤ specL hold F i o s ∧ specL hold F i o s ≤ 300) ∧ (0 ≤ specH hold F i o s ∧ specH hold F i o s ≤ 300) := by
  have g := S.good
  constructor
  · unfold specL
    split
    · rename_i k _
      exact mn_bd (g.f1 k) (by have := g.f2 k; have := g.f3 k; omega) (least_bd g k).1
    · omega
  · unfold specH
    split
    · rename_i k _
      exact mn_bd (by have := g.f1 k; have := g.f2 k; omega) (g.f3 k) (most_bd g k).1
    · omega
theorem law_good (b off n cap i o : Nat) (hold oil wa bl : Int) (F : Nat → Nat → Int) (w : World) (S : Begun w b off n cap i o hold oil wa bl F) (c1 : chk1 n i o = true) (c2 : chk2 n i o = true) (c3 : chk3 n = true)
    (hk : ∀ w, Calls Try.prog 5 #[] w fun e w' => e = .returned (.bool true) ∧ Below w.heap.size w w') :
    Calls Try.prog 3 #[.agg #[.slice (some ⟨b, off, none⟩) n cap, .int .i64 hold, .int .i64 oil], .agg #[.int .i64 wa, .int .i64 i, .int .i64 o, .int .i64 bl]] w fun e w' => e = .returned (.bool true) ∧ Below w.heap.size w w' := by
  have hB := fun O O' => ((Below.refl w.heap.size w).alloc (Nat.le_refl _) O).alloc (by simp) O'
  have HB := Lib.hid hB
  clear hB
  have HK := Lib.hid hk
  clear hk
  obtain ⟨⟨hn1, hn2⟩, _⟩ := cav_t S.cav
  have C := fun w hs => short_any (.slice (some ⟨b, off, none⟩) n cap) n hold oil F w hs
  rw [decide_eq_true (show (n : Int) ≤ 20 by omega)] at C
  have HC := Lib.hid C
  have D := fun w hs => check_any (.slice (some ⟨b, off, none⟩) n cap) n hold oil F w hs true S.cav
  simp only [if_true] at D
  have HD := Lib.hid D
  have E := fun w (S : Begun w b off n cap i o hold oil wa bl F) => rates_good S c1
  have HE := Lib.hid E
  have R := fun w hs => rcav_any (.slice (some ⟨b, off, none⟩) n cap) n hold oil F w hs
  rw [S.cav] at R
  have HR := Lib.hid R
  have T := fun w => stage9_any ⟨b, off, none⟩ n cap hold oil wa i o bl w hn1 (by omega)
  rw [S.stage] at T
  have HT := Lib.hid T
  have E2 := fun w (S : Begun w b off n cap i o hold oil wa bl F) => rrates_good S c2
  have HE2 := Lib.hid E2
  have HS := Lib.hid S
  clear C D E R T E2 S
  go_enter Try.func3, Try.ntmps3
  go_wp2_with fail
  refine (HC.out _ ((HS.out.hs.alloc _).alloc _)).mono ?_
  rintro e x1 ⟨rfl, hb1⟩
  obtain ⟨hc1, hf1⟩ := bcell hb1
  obtain ⟨k1, l1⟩ := sizes0 hb1
  have S1 := Lib.hid (Begun.below (Begun.alloc (Begun.alloc HS.out _) _) hb1)
  go_wp2_with fail
  refine (HD.out _ S1.out.hs).mono ?_
  rintro e x2 ⟨rfl, hb2⟩
  obtain ⟨hc2, hf2⟩ := bcell hb2
  obtain ⟨k2, l2⟩ := sizes l1 hb2
  have S2 := Lib.hid (Begun.below S1.out hb2)
  go_wp2_with fail
  refine (HE.out _ S2.out).mono ?_
  rintro e x3 ⟨rv, rfl, q1, q2, q3, rfl, hb3, q4, q5, q6⟩
  have Q5 := Lib.hid q5
  have Q6 := Lib.hid q6
  clear q5 q6
  obtain ⟨hc3, hf3⟩ := bcell hb3
  obtain ⟨k3, l3⟩ := sizes l2 hb3
  have S3 := Lib.hid (Begun.below S2.out hb3)
  go_wp2_with fail
  refine (HR.out _ S3.out.hs).mono ?_
  rintro e x4 ⟨rfl, hb4⟩
  obtain ⟨hc4, hf4⟩ := bcell hb4
  obtain ⟨k4, l4⟩ := sizes l3 hb4
  have S4 := Lib.hid (Begun.below S3.out hb4)
  go_wp2_with fail
  refine (HT.out _).mono ?_
  rintro e x5 ⟨rfl, hb5⟩
  obtain ⟨hc5, hf5⟩ := bcell hb5
  obtain ⟨k5, l5⟩ := sizes l4 hb5
  have S5 := Lib.hid (Begun.below S4.out hb5)
  go_wp2_with fail
  refine (HE2.out _ S5.out).mono ?_
  rintro e x6 ⟨rv2, rfl, r1, r2, r3, rfl, hb6, r4, r5, r6⟩
  have R5 := Lib.hid r5
  have R6 := Lib.hid r6
  clear r5 r6
  obtain ⟨hc6, hf6⟩ := bcell hb6
  obtain ⟨k6, l6⟩ := sizes l5 hb6
  go_wp2_with fail
  have m3 : q1 < x3.heap.size := (Array.getElem?_eq_some_iff.1 Q5.out).1
  have z4 := hb4.size
  have z5 := hb5.size
  refine (same_good (w := x6) c3 (b1 := q1) (b2 := r1) (((hb6.block q1 (by omega)).trans (hb5.block q1 (by omega))).trans ((hb4.block q1 (by omega)).trans Q5.out)) R5.out Q6.out R6.out (fun s _ => spec_bd S5.out s)).mono ?_
  rintro e x7 ⟨rfl, hb7⟩
  obtain ⟨hc7, hf7⟩ := bcell hb7
  obtain ⟨k7, l7⟩ := sizes l6 hb7
  go_wp2_with fail
  refine (HK.out _).mono ?_
  rintro e x8 ⟨rfl, hb8⟩
  go_wp2
  go_ret
  exact ⟨rfl, belowAll (HB.out _ _) hb1 (((((((up k1 hb2).trans (up k2 hb3)).trans (up k3 hb4)).trans (up k4 hb5)).trans (up k5 hb6)).trans (up k6 hb7)).trans (up k7 hb8))⟩
end Go.Proofs.W

