/-
  For every cavern and every stage the law LeachGrades returns true, and its arguments read behind the call as they read before. No condition.
-/
import Derived.Test.YtckekpcnpccpmaaGreatFactsA
import Derived.Test.YtckekpcnpccpmaaGreatFactsB
import Derived.Test.YtckekpcnpccpmaaGreatFactsC
import Derived.Test.YtckekpcnpccpmaaGreatFactsD
import Derived.Test.YtckekpcnpccpmaaGreatFactsE
import Derived.Test.YtckekpcnpccpmaaGreatLaw
import Derived.Test.YtckekpcnpccpmaaGreatKnown
import Derived.Test.YtckekpcnpccpmaaGreatRows
import Derived.ProofKit
import Derived.OpenShut
import Derived.Lib.SmallJoins
import Derived.Deep.Slices
set_option linter.unusedVariables false
set_option linter.unusedSimpArgs false
set_option linter.unusedSectionVars false
namespace Go.Proofs.YtckekpcnpccpmaaGreat.grades
open Go.ChangeShapes Go.WideShapes Go.ChangeAt Go.RowKit
theorem and_i {a b : Bool} (ha : a = true) (hb : b = true) : (a && b) = true := by rw [ha, hb]; rfl
set_option maxRecDepth 100000 in
theorem facts : joinedFacts Tryz.prog 9 Tryz.f9 Rows.leachGradesSpec Rows.leachGradesRow = true := (and_i (and_i (and_i (and_i (and_i (and_i (and_i (and_i (and_i (and_i (and_i (and_i (and_i (and_i (and_i (and_i (and_i (and_i (and_i (and_i (and_i (and_i (and_i (and_i (and_i (and_i (and_i (and_i (and_i (and_i (and_i fact0 fact1) fact2) fact3) fact4) fact5) fact6) fact7) fact8) fact9) fact10) fact11) fact12) fact13) fact14) fact15) fact16) fact17) fact18) fact19) fact20) fact21) fact22) fact23) fact24) fact25) fact26) fact27) fact28) fact29) fact30) fact31)
end Go.Proofs.YtckekpcnpccpmaaGreat.grades

namespace Go.Proofs.YtckekpcnpccpmaaGreat.grades
open Go.ChangeShapes Go.WideShapes Go.ChangeAt Go.RowKit Go.Joins Go.Deep Go.Ev.LG Go.Proofs.W

theorem own : ownKnob Tryz.prog.godebug = none := by kernel_rfl
theorem laidOut : laidOutB Tryz.prog = true := by kernel_rfl

theorem cells3 : Tryz.prog.cellsOf 3 = 1 := by kernel_rfl
theorem cells31 : Tryz.prog.cellsOf 31 = 2 := by kernel_rfl
theorem cells60 : Tryz.prog.cellsOf 60 = 7 := by kernel_rfl
theorem cells24 : Tryz.prog.cellsOf 24 = 3 := by kernel_rfl
theorem cells57 : Tryz.prog.cellsOf 57 = 4 := by kernel_rfl

section
variable {H : Type} {enc : TypeId × Value → H} {w : World} {base : Nat} {spare : Nat → Bool} {held : Bool}

theorem int1 {n : Nat} {c : Value} {x : DataW H × List MemPlace} (h : DataW.trod enc Tryz.prog w base spare held n 3 [c] = some x) : ∃ z : Int, c = .int .i64 z := by
  obtain ⟨z, h1, _⟩ := DataW.trod_int Tryz.underlying3 h
  exact ⟨z, (List.cons.inj h1).1⟩

theorem span2 {n : Nat} {c d : Value} {x : DataW H × List MemPlace} (h : DataW.trod enc Tryz.prog w base spare held n 31 [c, d] = some x) : ∃ y z : Int, c = .int .i64 y ∧ d = .int .i64 z := by
  obtain ⟨xs, n', _, _, _, hl, hf⟩ := DataW.trod_struct Tryz.underlying31 h
  have h0 : DataW.trod enc Tryz.prog w base spare held n' 3 (([c, d].drop 0).take (Tryz.prog.cellsOf 3)) = xs[0]? := hf 0 _ rfl
  have h1 : DataW.trod enc Tryz.prog w base spare held n' 3 (([c, d].drop 1).take (Tryz.prog.cellsOf 3)) = xs[1]? := hf 1 _ rfl
  rw [show (([c, d] : List Value).drop 0).take (Tryz.prog.cellsOf 3) = [c] by rw [cells3]; rfl] at h0
  rw [show (([c, d] : List Value).drop 1).take (Tryz.prog.cellsOf 3) = [d] by rw [cells3]; rfl] at h1
  have e0 : xs[0]? = some (xs[0]'(by rw [hl]; decide)) := List.getElem?_eq_getElem _
  have e1 : xs[1]? = some (xs[1]'(by rw [hl]; decide)) := List.getElem?_eq_getElem _
  rw [e0] at h0
  rw [e1] at h1
  obtain ⟨y, hy⟩ := int1 h0
  obtain ⟨z, hz⟩ := int1 h1
  exact ⟨y, z, hy, hz⟩

theorem list7 {α : Type} {l : List α} (h : l.length = 7) : ∃ c0 c1 c2 c3 c4 c5 c6, l = [c0, c1, c2, c3, c4, c5, c6] := by
  match l, h with
  | [c0, c1, c2, c3, c4, c5, c6], _ => exact ⟨c0, c1, c2, c3, c4, c5, c6, rfl⟩

theorem slice7 {n : Nat} {cs : List Value} {x : DataW H × List MemPlace} (h : DataW.trod enc Tryz.prog w base spare held n 60 cs = some x) : ∃ z : Nat → Int, ∀ j, j < 7 → cs[j]? = some (.int .i64 (z j)) := by
  obtain ⟨xs, n', _, _, hc, hl, hf⟩ := DataW.trod_struct Tryz.underlying60 h
  rw [cells60] at hc
  obtain ⟨c0, c1, c2, c3, c4, c5, c6, rfl⟩ := list7 hc
  · skip
    have h0 : DataW.trod enc Tryz.prog w base spare held n' 31 (([c0, c1, c2, c3, c4, c5, c6].drop 0).take (Tryz.prog.cellsOf 31)) = xs[0]? := hf 0 _ rfl
    have h1 : DataW.trod enc Tryz.prog w base spare held n' 3 (([c0, c1, c2, c3, c4, c5, c6].drop 2).take (Tryz.prog.cellsOf 3)) = xs[1]? := hf 1 _ rfl
    have h2 : DataW.trod enc Tryz.prog w base spare held n' 3 (([c0, c1, c2, c3, c4, c5, c6].drop 3).take (Tryz.prog.cellsOf 3)) = xs[2]? := hf 2 _ rfl
    have h3 : DataW.trod enc Tryz.prog w base spare held n' 31 (([c0, c1, c2, c3, c4, c5, c6].drop 4).take (Tryz.prog.cellsOf 31)) = xs[3]? := hf 3 _ rfl
    have h4 : DataW.trod enc Tryz.prog w base spare held n' 3 (([c0, c1, c2, c3, c4, c5, c6].drop 6).take (Tryz.prog.cellsOf 3)) = xs[4]? := hf 4 _ rfl
    rw [show (([c0, c1, c2, c3, c4, c5, c6] : List Value).drop 0).take (Tryz.prog.cellsOf 31) = [c0, c1] by rw [cells31]; rfl] at h0
    rw [show (([c0, c1, c2, c3, c4, c5, c6] : List Value).drop 2).take (Tryz.prog.cellsOf 3) = [c2] by rw [cells3]; rfl] at h1
    rw [show (([c0, c1, c2, c3, c4, c5, c6] : List Value).drop 3).take (Tryz.prog.cellsOf 3) = [c3] by rw [cells3]; rfl] at h2
    rw [show (([c0, c1, c2, c3, c4, c5, c6] : List Value).drop 4).take (Tryz.prog.cellsOf 31) = [c4, c5] by rw [cells31]; rfl] at h3
    rw [show (([c0, c1, c2, c3, c4, c5, c6] : List Value).drop 6).take (Tryz.prog.cellsOf 3) = [c6] by rw [cells3]; rfl] at h4
    have e0 : xs[0]? = some (xs[0]'(by rw [hl]; decide)) := List.getElem?_eq_getElem _
    have e1 : xs[1]? = some (xs[1]'(by rw [hl]; decide)) := List.getElem?_eq_getElem _
    have e2 : xs[2]? = some (xs[2]'(by rw [hl]; decide)) := List.getElem?_eq_getElem _
    have e3 : xs[3]? = some (xs[3]'(by rw [hl]; decide)) := List.getElem?_eq_getElem _
    have e4 : xs[4]? = some (xs[4]'(by rw [hl]; decide)) := List.getElem?_eq_getElem _
    rw [e0] at h0
    rw [e1] at h1
    rw [e2] at h2
    rw [e3] at h3
    rw [e4] at h4
    obtain ⟨z0, z1, rfl, rfl⟩ := span2 h0
    obtain ⟨z2, rfl⟩ := int1 h1
    obtain ⟨z3, rfl⟩ := int1 h2
    obtain ⟨z4, z5, rfl, rfl⟩ := span2 h3
    obtain ⟨z6, rfl⟩ := int1 h4
    refine ⟨fun j => match j with | 0 => z0 | 1 => z1 | 2 => z2 | 3 => z3 | 4 => z4 | 5 => z5 | _ => z6, fun j hj => ?_⟩
    match j, hj with
    | 0, _ => rfl
    | 1, _ => rfl
    | 2, _ => rfl
    | 3, _ => rfl
    | 4, _ => rfl
    | 5, _ => rfl
    | 6, _ => rfl

/-- A slice of caverns' slices that reads. -/
theorem sl_read {n : Nat} {v : Value} {x : DataW H × List MemPlace} (hlt : ∀ p ∈ x.2, p.block < w.heap.size) (hsp : ∀ b, spare b = true) (h : DataW.trod enc Tryz.prog w base spare held n 22 [v] = some x) :
    ∃ (k : Nat) (F : Nat → Nat → Int), Sl w v k F ∧ ∀ s, k ≤ s → ∀ j, F s j = 0 := by
  rcases open_slice Tryz.underlying22 h with ⟨h0, _⟩ | ⟨a, len, cap, m, n', D, Pl, hcs, hb, hl, hm, hmm, hx, hi⟩
  · simp at h0
    exact ⟨0, fun _ _ => 0, .inl ⟨none, 0, h0, rfl⟩, fun _ _ _ => rfl⟩
  · simp at hcs
    subst hcs
    rw [hsp] at hmm
    simp only [if_true] at hmm
    by_cases h0 : len = 0
    · subst h0
      exact ⟨0, fun _ _ => 0, .inl ⟨some a, cap, rfl, rfl⟩, fun _ _ _ => rfl⟩
    · rw [cells60] at hi hx
      have each : ∀ i, i < len → ∃ z : Nat → Int, ∀ j, j < 7 → w.cell? (a.add (i * 7 + j)) = some (.int .i64 (z j)) := fun i hil => by
        obtain ⟨cs', h1, h2⟩ := hi i (by omega)
        obtain ⟨_, _, h3⟩ := World.cells?_some h1
        obtain ⟨z, hz⟩ := slice7 h2
        exact ⟨z, fun j hj => by rw [← add_add, h3 j hj]; exact hz j hj⟩
      obtain ⟨b, off, spot⟩ := a
      obtain ⟨z0, hz0⟩ := each 0 (by omega)
      have hspot : spot = none := by simpa [Addr.add] using World.cell?_spot (hz0 0 (by omega))
      subst hspot
      have hblk : b < w.heap.size := by
        refine hlt (.cell b off) ?_
        rw [hx]
        simp only [List.mem_append]
        exact .inl (MemPlace.mem_row.2 ⟨0, by omega, rfl⟩)
      have : ∃ F : Nat → Nat → Int, ∀ i, i < len → ∀ j, j < 7 → w.cell? ⟨b, off + (i * 7 + j), none⟩ = some (.int .i64 (F i j)) := by
        refine ⟨fun i => if hil : i < len then Classical.choose (each i hil) else fun _ => 0, fun i hil j hj => ?_⟩
        have := Classical.choose_spec (each i hil) j hj
        rw [add_plain] at this
        rw [this]
        simp [hil]
      obtain ⟨F, hF⟩ := this
      refine ⟨len, fun i j => if i < len then F i j else 0, .inr ⟨b, off, cap, rfl, hblk, hl, by unfold maxLen at hm; omega, fun i j hil hj => ?_⟩, fun s hs j => by simp; omega⟩
      rw [hF i hil j hj]
      simp [hil]
end

theorem walk (v : Value) (n : Nat) (hold oil wa i o bl : Int) (F : Nat → Nat → Int) (w : World) (hs : Sl w v n F) :
    Calls Tryz.prog 9 #[.agg #[v, .int .i64 hold, .int .i64 oil], .agg #[.int .i64 wa, .int .i64 i, .int .i64 o, .int .i64 bl]] w fun e w' => e = .returned (.bool true) ∧ Below w.heap.size w w' := by
  have hk := fun w => Go.Ev.K.known_calls w
  by_cases h20 : (n : Int) ≤ 20
  · cases hc : cavB n hold oil F with
    | false => exact law_bad v n hold oil wa i o bl F w hs h20 hc hk
    | true =>
      obtain ⟨⟨hn1, hn2⟩, _⟩ := cav_t hc
      have hs' := hs
      rcases hs with ⟨_, _, _, h0⟩ | ⟨b, off, cap, rfl, hb, hcap, hmax, hsl⟩
      · omega
      · cases hst : stageB n wa i o bl with
        | false => exact law_stage ⟨b, off, none⟩ n cap hold oil wa i o bl F w hs' h20 hn1 hmax hc hst hk
        | true =>
          obtain ⟨_, ⟨hi1, hi2⟩, ⟨ho1, ho2⟩, hio, _⟩ := stage_t hst
          obtain ⟨ii, rfl⟩ := Int.eq_ofNat_of_zero_le hi1
          obtain ⟨oo, rfl⟩ := Int.eq_ofNat_of_zero_le ho1
          exact law_good b off n cap ii oo hold oil wa bl F w ⟨hs', hc, hst⟩ hk
  · exact law_long v n hold oil wa i o bl F w hs h20 hk

set_option maxRecDepth 100000 in
theorem lifted (os : Os) (started : os.Started) (H : Type) (enc : TypeId × Value → H) :
    ReturnsInHanded {} Tryz.checked os 9 .any (Rows.leachGradesSpec.pre6 enc Tryz.prog Tryz.f9 Rows.leachGradesRow.domain false) (Rows.leachGradesSpec.post enc Tryz.prog Tryz.f9 false true false false) := by
  refine returnsInHanded_of_change (C := Tryz.checked) own started (by kernel_rfl) Tryz.func9
    (ChangeSpec.witness6 (enc := enc) (C := Tryz.checked) false ⟨#[], #[.agg #[.slice none 0 0, .int .i64 0, .int .i64 0], .agg #[.int .i64 0, .int .i64 0, .int .i64 0, .int .i64 0]], []⟩ 8 (by kernel_rfl) (by kernel_rfl) (by kernel_rfl) (by kernel_rfl)) ?_
  intro W base args ds gs before hval0 hW _ _
  have hval : ∀ (j : Nat) t v, Tryz.f9.params[j]? = some t → args[j]? = some v → Value.okWide Tryz.prog W .any base t v := hval0
  have hW' := hW
  obtain ⟨p, q, hA0, hV, rfl, hfz, hnd⟩ := hW
  have hA : DataW.TrodAll enc Tryz.prog W 0 (fun _ => true) true Tryz.f9.params.toList args.toList ds p := hA0
  rw [Tryz.params9] at hA hval
  obtain ⟨v0, v1, d0, d1, p0, p1, rfl, rfl, rfl, h0, h1⟩ := trodAll_two hA
  obtain ⟨rfl, rfl⟩ := trodVars_none hV
  clear hA0 hval0
  simp only [List.append_nil] at hW'
  have hlt0 : ∀ x ∈ p0, x.block < W.heap.size := fun x hx => hW'.lt x (by simp [hx])
  have hlt1 : ∀ x ∈ p1, x.block < W.heap.size := fun x hx => hW'.lt x (by simp [hx])
  have g0 := h0
  have g1 := h1
  obtain ⟨u0, u1, u2, y0, y1, y2, n0, rfl, rfl, rfl, r0, r1, r2⟩ := open_agg3 Tryz.underlying24 (by kernel_rfl) cells24 (hval 0 24 v0 rfl rfl) h0
  obtain ⟨s0, s1, s2, s3, z0, z1, z2, z3, n1, rfl, rfl, rfl, t0, t1, t2, t3⟩ := open_agg4 Tryz.underlying57 (by kernel_rfl) cells57 (hval 1 57 v1 rfl rfl) h1
  obtain ⟨hold, rfl⟩ := int1 r1
  obtain ⟨oil, rfl⟩ := int1 r2
  obtain ⟨wa, rfl⟩ := int1 t0
  obtain ⟨i, rfl⟩ := int1 t1
  obtain ⟨o, rfl⟩ := int1 t2
  obtain ⟨bl, rfl⟩ := int1 t3
  obtain ⟨k, F, hs, hF⟩ := sl_read (fun p hp => hlt0 p (by simp [hp])) (fun _ => rfl) r0
  refine (walk u0 k hold oil wa i o bl F W hs).mono fun e W' ⟨he, hB⟩ => ?_
  subst he
  refine ⟨_, rfl, _, _, _, [], (y0.2 ++ (y1.2 ++ y2.2)) ++ (z0.2 ++ (z1.2 ++ (z2.2 ++ z3.2))), [], hW', ?_, ?_, ?_, hB.frame _, fun h => by cases h⟩
  · exact trodAll_mk1 (shut_bool Tryz.underlying4 true)
  · exact trodAll_mk2 (Below.trod laidOut (by kernel_rfl) (of_decide_eq_true (by kernel_rfl)) g0 hB hlt0) (Below.trod laidOut (by kernel_rfl) (of_decide_eq_true (by kernel_rfl)) g1 hB hlt1)
  · rfl

theorem named9 : Tryz.prog.funcNamed Rows.leachGradesRow.func = some 9 := by kernel_rfl
theorem proved : Rows.LeachGradesSaid :=
  OpenClaim.holds_of_wide 9 Tryz.f9 rfl rfl rfl rfl rfl rfl rfl ⟨rfl, rfl, rfl, rfl, rfl⟩ rfl rfl rfl rfl rfl named9 Tryz.func9 facts
    (of_decide_eq_true (by kernel_rfl)) (by unfold Func.isWrapper; first | (rw [if_pos (by decide +kernel)]; kernel_rfl) | (rw [if_neg (by decide +kernel)]; exact ⟨rfl, rfl⟩))
    (fun os started H enc _ => lifted os started H enc)
end Go.Proofs.YtckekpcnpccpmaaGreat.grades

