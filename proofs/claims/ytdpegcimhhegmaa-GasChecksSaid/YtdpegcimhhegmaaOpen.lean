import Derived.Test.YtdpegcimhhegmaaInts
import Derived.Test.YtdpegcimhhegmaaRows
import Derived.ProofKit
import Derived.OpenShut
import Derived.Lib.SmallJoins
import Derived.Carry
import Derived.ChangeSame
set_option linter.unusedVariables false
set_option linter.unusedSimpArgs false
set_option linter.unusedSectionVars false
section
set_option maxRecDepth 100000
namespace Go.Proofs.Ytdpegcimhhegmaa
open Go.ChangeShapes Go.WideShapes Go.ChangeAt Go.RowKit Go.Joins Go.Ev.Gas

theorem own : ownKnob Try.prog.godebug = none := by kernel_rfl
theorem laidOut : laidOutB Try.prog = true := by kernel_rfl

/-- The cells of such a value are ints. -/
def Flat (t : TypeId) : Prop :=
  ∀ (H : Type) (enc : TypeId × Value → H) (w : World) (base : Nat) (spare : Nat → Bool) (held : Bool) (n : Nat) (cs : List Value) (x : DataW H × List MemPlace),
    DataW.trod enc Try.prog w base spare held n t cs = some x → cs.length = Try.prog.cellsOf t ∧ ∀ i, i < Try.prog.cellsOf t → ∃ z : Int, cs[i]? = some (vi z) ∧ -9223372036854775808 ≤ z ∧ z ≤ 9223372036854775807
theorem flat_int {t : TypeId} (ht : Try.prog.underlying t = some (.int .i64)) (hc : Try.prog.cellsOf t = 1) : Flat t := by
  intro H enc w base spare held n cs x h
  obtain ⟨z, rfl, _, hw⟩ := DataW.trod_int ht h
  refine ⟨hc.symm, fun i hi => ?_⟩
  rw [hc] at hi
  obtain rfl : i = 0 := by omega
  simp only [Lit.wf, Bool.and_eq_true, decide_eq_true_eq] at hw
  exact ⟨z, rfl, hw⟩
theorem part_of {cs : List Value} {off c i : Nat} (h1 : off ≤ i) (h2 : i < off + c) : ((cs.drop off).take c)[i - off]? = cs[i]? := by
  rw [List.getElem?_take, if_pos (by omega), List.getElem?_drop]
  congr 1
  omega
theorem flat_struct {t : TypeId} {fs : Array Field} (ht : Try.prog.underlying t = some (.struct fs)) (ts : List TypeId) (hts : ∀ t ∈ ts, Flat t)
    (hcov : (List.range (Try.prog.cellsOf t)).all (fun i => fs.toList.any fun f => decide (f.offset ≤ i) && decide (i < f.offset + Try.prog.cellsOf f.type) && ts.contains f.type) = true) : Flat t := by
  intro H enc w base spare held n cs x h
  obtain ⟨xs, n', _, _, hl, hlen, hf⟩ := DataW.trod_struct ht h
  refine ⟨hl, fun i hi => ?_⟩
  have := List.all_eq_true.1 hcov i (List.mem_range.2 hi)
  obtain ⟨f, hfm, hp⟩ := List.any_eq_true.1 this
  simp only [Bool.and_eq_true, decide_eq_true_eq] at hp
  obtain ⟨⟨h1, h2⟩, h3⟩ := hp
  obtain ⟨j, hj, e⟩ := List.mem_iff_getElem.1 hfm
  have hj' : fs[j]? = some f := by simp at hj; simp [Array.getElem?_eq_getElem hj]; simpa using e
  have hx := hf j f hj'
  have hjx : j < xs.length := by rw [hlen]; simpa using hj
  rw [List.getElem?_eq_getElem hjx] at hx
  obtain ⟨z, h4, h5⟩ := (hts f.type (by simpa using h3) H enc w base spare held n' _ _ hx).2 (i - f.offset) (by omega)
  rw [part_of h1 h2] at h4
  exact ⟨z, h4, h5⟩
theorem trod_array {t e : TypeId} {k : Nat} {H : Type} {enc : TypeId × Value → H} {w : World} {base : Nat} {spare : Nat → Bool} {held : Bool} {n : Nat} {cs : List Value} {x : DataW H × List MemPlace} (ht : Try.prog.underlying t = some (.array k e)) (h : DataW.trod enc Try.prog w base spare held n t cs = some x) :
    ∃ (xs : List (DataW H × List MemPlace)) (m : Nat), cs.length = Try.prog.cellsOf t ∧ (List.range k).mapM (fun i => DataW.trod enc Try.prog w base spare held m e ((cs.drop (i * Try.prog.cellsOf e)).take (Try.prog.cellsOf e))) = some xs := by
  cases n with
  | zero => simp [DataW.trod] at h
  | succ n =>
    unfold DataW.trod at h
    rw [ht] at h
    split at h <;> simp_all
    obtain ⟨hl, xs, hx, _⟩ := h
    exact ⟨xs, n, hx⟩
theorem flat_array {t e : TypeId} {k : Nat} (ht : Try.prog.underlying t = some (.array k e)) (he : Flat e) (hp : 0 < Try.prog.cellsOf e) (hc : Try.prog.cellsOf t = k * Try.prog.cellsOf e) : Flat t := by
  intro H enc w base spare held n cs x h
  obtain ⟨xs, m, hl, hx⟩ := trod_array ht h
  refine ⟨hl, fun i hi => ?_⟩
  rw [hc] at hi
  have hj : i / Try.prog.cellsOf e < k := (Nat.div_lt_iff_lt_mul hp).2 hi
  have hy := Go.mapM_some_get hx (i / Try.prog.cellsOf e) (i / Try.prog.cellsOf e) (by simp [hj])
  have hjx : i / Try.prog.cellsOf e < xs.length := by rw [Go.mapM_some_length hx]; simpa using hj
  rw [List.getElem?_eq_getElem hjx] at hy
  have hm := Nat.div_add_mod i (Try.prog.cellsOf e)
  have hr := Nat.mod_lt i hp
  rw [Nat.mul_comm] at hm
  have h2 := (he H enc w base spare held m _ _ hy).2 (i - i / Try.prog.cellsOf e * Try.prog.cellsOf e) (by omega)
  rw [part_of (by omega) (by omega)] at h2
  exact h2

theorem all_of {t : TypeId} (h : Flat t) (ts : List TypeId) (k : ∀ t ∈ ts, Flat t) : ∀ u ∈ t :: ts, Flat u := List.forall_mem_cons.2 ⟨h, k⟩
theorem flat3 : Flat 3 := flat_int Try.underlying3 (by kernel_rfl)
theorem flat53 : Flat 53 := flat_int Try.underlying53 (by kernel_rfl)
theorem flat23 : Flat 23 := flat_struct Try.underlying23 [3] (all_of flat3 [] (List.forall_mem_nil _)) (by kernel_rfl)
theorem flat24 : Flat 24 := flat_array Try.underlying24 flat3 (of_decide_eq_true (by kernel_rfl)) (by kernel_rfl)
theorem flat26 : Flat 26 := flat_struct Try.underlying26 [3, 23, 24] (all_of flat3 _ (all_of flat23 _ (all_of flat24 _ (List.forall_mem_nil _)))) (by kernel_rfl)
theorem flat28 : Flat 28 := flat_struct Try.underlying28 [23] (all_of flat23 _ (List.forall_mem_nil _)) (by kernel_rfl)
theorem flat43 : Flat 43 := flat_struct Try.underlying43 [3] (all_of flat3 [] (List.forall_mem_nil _)) (by kernel_rfl)
theorem flat55 : Flat 55 := flat_struct Try.underlying55 [3, 23, 43, 53] (all_of flat3 _ (all_of flat23 _ (all_of flat43 _ (all_of flat53 _ (List.forall_mem_nil _))))) (by kernel_rfl)

/-- A struct of ints, opened. -/
theorem flat_open {t : TypeId} {fs : Array Field} (hF : Flat t) (ht : Try.prog.underlying t = some (.struct fs)) (N : Nat) (hC : Try.prog.cellsOf t = N)
    {H : Type} {enc : TypeId × Value → H} {w : World} {base : Nat} {spare : Nat → Bool} {held : Bool} {r : Reach} {b0 : Nat} {v : Value} {d : DataW H} {p : List MemPlace}
    (hv : Value.okWide Try.prog w r b0 t v) (h : DataW.Trod enc Try.prog w base spare held t v d p) :
    ∃ z : Nat → Int, ints z ∧ v = .agg ((List.range N).map (fun i => vi (z i))).toArray := by
  obtain ⟨cs, rfl, hsz⟩ := okWide_struct ht hv
  obtain ⟨fuel, hf⟩ := h
  obtain ⟨hl, hi⟩ := hF H enc w base spare held fuel _ _ hf
  rw [hC] at hl hi
  simp only [Value.cells] at hl hi
  have each : ∀ i : Nat, ∃ z : Int, (i < N → cs.toList[i]? = some (vi z)) ∧ -9223372036854775808 ≤ z ∧ z ≤ 9223372036854775807 := fun i => by
    by_cases h : i < N
    · obtain ⟨z, h1, h2⟩ := hi i h
      exact ⟨z, fun _ => h1, h2⟩
    · exact ⟨0, fun h' => absurd h' h, by omega, by omega⟩
  refine ⟨fun i => Classical.choose (each i), fun i => (Classical.choose_spec (each i)).2, ?_⟩
  congr 1
  apply Array.ext'
  apply List.ext_getElem?
  intro i
  by_cases h : i < N
  · rw [(Classical.choose_spec (each i)).1 h]
    simp [h]
  · rw [List.getElem?_eq_none (by omega), List.getElem?_eq_none (by simp; omega)]
/-- An int, opened. -/
theorem int_open {H : Type} {enc : TypeId × Value → H} {w : World} {base : Nat} {spare : Nat → Bool} {held : Bool} {r : Reach} {b0 : Nat} {v : Value} {d : DataW H} {p : List MemPlace}
    (hv : Value.okWide Try.prog w r b0 3 v) (h : DataW.Trod enc Try.prog w base spare held 3 v d p) : ∃ z : Int, v = vi z ∧ -9223372036854775808 ≤ z ∧ z ≤ 9223372036854775807 := by
  obtain ⟨z, h1, h2, h3, h4⟩ := Go.ChangeShapes.open_int Try.underlying3 hv h
  simp only [Lit.wf, Bool.and_eq_true, decide_eq_true_eq] at h4
  exact ⟨z, h1, h4⟩
theorem cells26 : Try.prog.cellsOf 26 = 11 := by kernel_rfl
theorem cells28 : Try.prog.cellsOf 28 = 8 := by kernel_rfl
theorem cells55 : Try.prog.cellsOf 55 = 10 := by kernel_rfl
theorem cells43 : Try.prog.cellsOf 43 = 4 := by kernel_rfl
end Go.Proofs.Ytdpegcimhhegmaa
end

