/-
  For every cavern, every state, every list of operations, every content and whatever is true of them the law GasTrue returns true, and its arguments read behind the call as they read before. No condition.
-/
import Derived.Test.YtdpegcimhhegmaaOpenI
import Derived.Test.YtdpegcimhhegmaaStO
import Derived.Test.YtdpegcimhhegmaaOpen
import Derived.Test.YtdpegcimhhegmaaFactsT
import Derived.Test.YtdpegcimhhegmaaTruD
set_option linter.unusedVariables false
set_option linter.unusedSimpArgs false
set_option linter.unusedSectionVars false
section
set_option maxRecDepth 100000
namespace Go.Proofs.Ytdpegcimhhegmaa.trues
open Go.ChangeShapes Go.WideShapes Go.ChangeAt Go.RowKit Go.Joins Go.Ev.Gas
theorem lifted (os : Os) (started : os.Started) (H : Type) (enc : TypeId × Value → H) :
    ReturnsInHanded {} Try.checked os 8 .any (Rows.gasTrueSpec.pre6 enc Try.prog Try.f8 Rows.gasTrueRow.domain false) (Rows.gasTrueSpec.post enc Try.prog Try.f8 false true false false) := by
  refine returnsInHanded_of_change (C := Try.checked) own started (by kernel_rfl) Try.func8
    (ChangeSpec.witness6 (enc := enc) (C := Try.checked) false ⟨#[], #[.agg #[.int .i64 0, .int .i64 0, .int .i64 0, .int .i64 0, .int .i64 0, .int .i64 0, .int .i64 0, .int .i64 0, .int .i64 0, .int .i64 0, .int .i64 0], .agg #[.int .i64 0, .int .i64 0, .int .i64 0, .int .i64 0, .int .i64 0, .int .i64 0, .int .i64 0, .int .i64 0], .slice none 0 0, .agg #[.int .i64 0, .int .i64 0, .int .i64 0, .int .i64 0], .slice none 0 0, .slice none 0 0], []⟩ 8 (by kernel_rfl) (by kernel_rfl) (by kernel_rfl) (by kernel_rfl)) ?_
  intro W base args ds gs before hval0 hW _ _
  have hval : ∀ (j : Nat) t v, Try.f8.params[j]? = some t → args[j]? = some v → Value.okWide Try.prog W .any base t v := hval0
  have hW' := hW
  obtain ⟨p, q, hA0, hV, rfl, hfz, hnd⟩ := hW
  have hA : DataW.TrodAll enc Try.prog W 0 (fun _ => true) true Try.f8.params.toList args.toList ds p := hA0
  rw [Try.params8] at hA hval
  obtain ⟨v0, v1, v2, v3, v4, v5, d0, d1, d2, d3, d4, d5, p0, p1, p2, p3, p4, p5, rfl, rfl, rfl, h0, h1, h2, h3, h4, h5⟩ := trodAll_six hA
  obtain ⟨rfl, rfl⟩ := trodVars_none hV
  clear hA0 hval0
  simp only [List.append_nil] at hW'
  have hlt0 : ∀ x ∈ p0, x.block < W.heap.size := fun x hx => hW'.lt x (by simp [hx])
  have g0 := h0
  have hlt1 : ∀ x ∈ p1, x.block < W.heap.size := fun x hx => hW'.lt x (by simp [hx])
  have g1 := h1
  have hlt2 : ∀ x ∈ p2, x.block < W.heap.size := fun x hx => hW'.lt x (by simp [hx])
  have g2 := h2
  have hlt3 : ∀ x ∈ p3, x.block < W.heap.size := fun x hx => hW'.lt x (by simp [hx])
  have g3 := h3
  have hlt4 : ∀ x ∈ p4, x.block < W.heap.size := fun x hx => hW'.lt x (by simp [hx])
  have g4 := h4
  have hlt5 : ∀ x ∈ p5, x.block < W.heap.size := fun x hx => hW'.lt x (by simp [hx])
  have g5 := h5
  obtain ⟨z0, i0, rfl⟩ := flat_open flat26 Try.underlying26 11 cells26 (hval 0 26 v0 rfl rfl) h0
  obtain ⟨z1, i1, rfl⟩ := flat_open flat28 Try.underlying28 8 cells28 (hval 1 28 v1 rfl rfl) h1
  obtain ⟨n2, l2, li2⟩ := ops_open hlt2 (hval 2 67 v2 rfl rfl) h2
  obtain ⟨z3, i3, rfl⟩ := flat_open flat43 Try.underlying43 4 cells43 (hval 3 43 v3 rfl rfl) h3
  obtain ⟨n4, l4, li4⟩ := ints_open hlt4 (hval 4 50 v4 rfl rfl) h4
  obtain ⟨n5, l5, li5⟩ := ints_open hlt5 (hval 5 50 v5 rfl rfl) h5
  let z : Nat → Int := fun i => match i with | 0 => z0 0 | 1 => z0 1 | 2 => z0 2 | 3 => z0 3 | 4 => z0 4 | 5 => z0 5 | 6 => z0 6 | 7 => z0 7 | 8 => z0 8 | 9 => z0 9 | 10 => z0 10 | 11 => z1 0 | 12 => z1 1 | 13 => z1 2 | 14 => z1 3 | 15 => z1 4 | 16 => z1 5 | 17 => z1 6 | 18 => z1 7 | 19 => z3 0 | 20 => z3 1 | 21 => z3 2 | 22 => z3 3 | _ => 0
  have hz : ints z := fun i => by
    show _ ∧ _
    simp only [z]
    split
    · exact i0 0
    · exact i0 1
    · exact i0 2
    · exact i0 3
    · exact i0 4
    · exact i0 5
    · exact i0 6
    · exact i0 7
    · exact i0 8
    · exact i0 9
    · exact i0 10
    · exact i1 0
    · exact i1 1
    · exact i1 2
    · exact i1 3
    · exact i1 4
    · exact i1 5
    · exact i1 6
    · exact i1 7
    · exact i3 0
    · exact i3 1
    · exact i3 2
    · exact i3 3
    · omega
  refine (true_fin hz li2 li4 li5).mono fun e W' ⟨he, hB⟩ => ?_
  subst he
  refine ⟨_, rfl, _, _, _, [], p0 ++ (p1 ++ (p2 ++ (p3 ++ (p4 ++ (p5))))), [], hW', ?_, ?_, ?_, hB.frame _, fun h => by cases h⟩
  · exact trodAll_mk1 (shut_bool Try.underlying4 true)
  · exact trodAll_mk6 (Below.trod laidOut (by kernel_rfl) (of_decide_eq_true (by kernel_rfl)) g0 hB hlt0) (Below.trod laidOut (by kernel_rfl) (of_decide_eq_true (by kernel_rfl)) g1 hB hlt1) (Below.trod laidOut (by kernel_rfl) (of_decide_eq_true (by kernel_rfl)) g2 hB hlt2) (Below.trod laidOut (by kernel_rfl) (of_decide_eq_true (by kernel_rfl)) g3 hB hlt3) (Below.trod laidOut (by kernel_rfl) (of_decide_eq_true (by kernel_rfl)) g4 hB hlt4) (Below.trod laidOut (by kernel_rfl) (of_decide_eq_true (by kernel_rfl)) g5 hB hlt5)
  · rfl
theorem named : Try.prog.funcNamed Rows.gasTrueRow.func = some 8 := by kernel_rfl
theorem proved : Rows.GasTrueSaid :=
  OpenClaim.holds_of_wide 8 Try.f8 rfl rfl rfl rfl rfl rfl rfl ⟨rfl, rfl, rfl, rfl, rfl⟩ rfl rfl rfl rfl rfl named Try.func8 facts
    (of_decide_eq_true (by kernel_rfl)) (by unfold Func.isWrapper; first | (rw [if_pos (by decide +kernel)]; kernel_rfl) | (rw [if_neg (by decide +kernel)]; exact ⟨rfl, rfl⟩))
    (fun os started H enc _ => lifted os started H enc)
end Go.Proofs.Ytdpegcimhhegmaa.trues
end

