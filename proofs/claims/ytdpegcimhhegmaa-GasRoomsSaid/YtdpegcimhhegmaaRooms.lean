/-
  For every cavern, every state, every lot and every unit the law GasRooms returns true, and its arguments read behind the call as they read before. No condition.
-/
import Derived.Test.YtdpegcimhhegmaaOpen
import Derived.Test.YtdpegcimhhegmaaFactsR
import Derived.Test.YtdpegcimhhegmaaRoJ
set_option linter.unusedVariables false
set_option linter.unusedSimpArgs false
set_option linter.unusedSectionVars false
section
set_option maxRecDepth 100000
namespace Go.Proofs.Ytdpegcimhhegmaa.rooms
open Go.ChangeShapes Go.WideShapes Go.ChangeAt Go.RowKit Go.Joins Go.Ev.Gas
theorem lifted (os : Os) (started : os.Started) (H : Type) (enc : TypeId × Value → H) :
    ReturnsInHanded {} Try.checked os 11 .any (Rows.gasRoomsSpec.pre6 enc Try.prog Try.f11 Rows.gasRoomsRow.domain false) (Rows.gasRoomsSpec.post enc Try.prog Try.f11 false true false false) := by
  refine returnsInHanded_of_change (C := Try.checked) own started (by kernel_rfl) Try.func11
    (ChangeSpec.witness6 (enc := enc) (C := Try.checked) false ⟨#[], #[.agg #[.int .i64 0, .int .i64 0, .int .i64 0, .int .i64 0, .int .i64 0, .int .i64 0, .int .i64 0, .int .i64 0, .int .i64 0, .int .i64 0, .int .i64 0], .agg #[.int .i64 0, .int .i64 0, .int .i64 0, .int .i64 0, .int .i64 0, .int .i64 0, .int .i64 0, .int .i64 0], .agg #[.int .i64 0, .int .i64 0, .int .i64 0, .int .i64 0], .int .i64 0], []⟩ 8 (by kernel_rfl) (by kernel_rfl) (by kernel_rfl) (by kernel_rfl)) ?_
  intro W base args ds gs before hval0 hW _ _
  have hval : ∀ (j : Nat) t v, Try.f11.params[j]? = some t → args[j]? = some v → Value.okWide Try.prog W .any base t v := hval0
  have hW' := hW
  obtain ⟨p, q, hA0, hV, rfl, hfz, hnd⟩ := hW
  have hA : DataW.TrodAll enc Try.prog W 0 (fun _ => true) true Try.f11.params.toList args.toList ds p := hA0
  rw [Try.params11] at hA hval
  obtain ⟨v0, v1, v2, v3, d0, d1, d2, d3, p0, p1, p2, p3, rfl, rfl, rfl, h0, h1, h2, h3⟩ := trodAll_four hA
  obtain ⟨rfl, rfl⟩ := trodVars_none hV
  clear hA0 hval0
  simp only [List.append_nil] at hW'
  have hlt0 : ∀ x ∈ p0, x.block < W.heap.size := fun x hx => hW'.lt x (by simp [hx])
  have g0 := h0
  have hlt1 : ∀ x ∈ p1, x.block < W.heap.size := fun x hx => hW'.lt x (by simp [hx])
  have g1 := h1
  have hlt2 : ∀ x ∈ p2, x.block < W.heap.size := fun x hx => hW'.lt x (by simp [hx])
  have g2 := h2
  have hlt3 : ∀ x ∈ p3, x.block < W.heap.size := fun x hx => hW'.lt x (by simp [hx])
  have g3 := h3
  obtain ⟨z0, i0, rfl⟩ := flat_open flat26 Try.underlying26 11 cells26 (hval 0 26 v0 rfl rfl) h0
  obtain ⟨z1, i1, rfl⟩ := flat_open flat28 Try.underlying28 8 cells28 (hval 1 28 v1 rfl rfl) h1
  obtain ⟨z2, i2, rfl⟩ := flat_open flat43 Try.underlying43 4 cells43 (hval 2 43 v2 rfl rfl) h2
  obtain ⟨z3, rfl, i3⟩ := int_open (hval 3 3 v3 rfl rfl) h3
  let z : Nat → Int := fun i => match i with | 0 => z0 0 | 1 => z0 1 | 2 => z0 2 | 3 => z0 3 | 4 => z0 4 | 5 => z0 5 | 6 => z0 6 | 7 => z0 7 | 8 => z0 8 | 9 => z0 9 | 10 => z0 10 | 11 => z1 0 | 12 => z1 1 | 13 => z1 2 | 14 => z1 3 | 15 => z1 4 | 16 => z1 5 | 17 => z1 6 | 18 => z1 7 | 30 => z2 0 | 31 => z2 1 | 32 => z2 2 | 33 => z2 3 | 34 => z3 | _ => 0
  have hz : ints z := fun i => by
    show _ ∧ _
    simp only [z]
    split
    · exact i0 0
    · exact i0 1
    · exact i0 2
    · exact i0 3
    · exact i0 4
    · exact i0 5
    · exact i0 6
    · exact i0 7
    · exact i0 8
    · exact i0 9
    · exact i0 10
    · exact i1 0
    · exact i1 1
    · exact i1 2
    · exact i1 3
    · exact i1 4
    · exact i1 5
    · exact i1 6
    · exact i1 7
    · exact i2 0
    · exact i2 1
    · exact i2 2
    · exact i2 3
    · exact i3
    · omega
  refine (rooms hz W).mono fun e W' ⟨he, hB⟩ => ?_
  subst he
  refine ⟨_, rfl, _, _, _, [], p0 ++ (p1 ++ (p2 ++ (p3))), [], hW', ?_, ?_, ?_, hB.frame _, fun h => by cases h⟩
  · exact trodAll_mk1 (shut_bool Try.underlying4 true)
  · exact trodAll_mk4 (Below.trod laidOut (by kernel_rfl) (of_decide_eq_true (by kernel_rfl)) g0 hB hlt0) (Below.trod laidOut (by kernel_rfl) (of_decide_eq_true (by kernel_rfl)) g1 hB hlt1) (Below.trod laidOut (by kernel_rfl) (of_decide_eq_true (by kernel_rfl)) g2 hB hlt2) (Below.trod laidOut (by kernel_rfl) (of_decide_eq_true (by kernel_rfl)) g3 hB hlt3)
  · rfl
theorem named : Try.prog.funcNamed Rows.gasRoomsRow.func = some 11 := by kernel_rfl
theorem proved : Rows.GasRoomsSaid :=
  OpenClaim.holds_of_wide 11 Try.f11 rfl rfl rfl rfl rfl rfl rfl ⟨rfl, rfl, rfl, rfl, rfl⟩ rfl rfl rfl rfl rfl named Try.func11 facts
    (of_decide_eq_true (by kernel_rfl)) (by unfold Func.isWrapper; first | (rw [if_pos (by decide +kernel)]; kernel_rfl) | (rw [if_neg (by decide +kernel)]; exact ⟨rfl, rfl⟩))
    (fun os started H enc _ => lifted os started H enc)
end Go.Proofs.Ytdpegcimhhegmaa.rooms
end

