import Derived.Test.YtdpegcimhhegmaaOpen
import Derived.Test.YtdpegcimhhegmaaMoreE
import Derived.Deep.Slices
set_option linter.unusedVariables false
set_option linter.unusedSimpArgs false
set_option linter.unusedSectionVars false
section
set_option maxRecDepth 100000
namespace Go.Proofs.Ytdpegcimhhegmaa
open Go.ChangeShapes Go.WideShapes Go.ChangeAt Go.RowKit Go.Joins Go.Deep Go.Ev.Gas
/-- A list of ints, opened. -/
theorem list_open {H : Type} {enc : TypeId × Value → H} {w : World} {base : Nat} {spare : Nat → Bool} {held : Bool} {r : Reach} {b0 : Nat} {v : Value} {d : DataW H} {p : List MemPlace}
    (hlt : ∀ x ∈ p, x.block < w.heap.size) (hv : Value.okWide Try.prog w r b0 50 v) (h : DataW.Trod enc Try.prog w base spare held 50 v d p) : ∃ (n : Nat) (l : Nat → Int), ListI w v n l := by
  obtain ⟨a0, len0, cap0, rfl⟩ := okWide_slice Try.underlying50 hv
  obtain ⟨fuel, hf⟩ := h
  rcases open_slice1 Try.underlying50 (show Try.prog.cellsOf 3 = 1 by kernel_rfl) hf with ⟨h0, _⟩ | ⟨a, len, cap, m, n, V, D, Pl, hcs, hb, hl, hm, hmm, hx, hi⟩
  · simp [Value.cells] at h0
    obtain ⟨rfl, rfl, rfl⟩ := h0
    exact ⟨0, fun _ => 0, none, 0, rfl, fun h => by cases h⟩
  · simp [Value.cells] at hcs
    obtain ⟨rfl, rfl, rfl⟩ := hcs
    have hlm : len0 ≤ m := by rw [hmm]; split <;> omega
    have each : ∀ i : Nat, ∃ z : Int, (i < len0 → w.cell? (a.add i) = some (vi z)) ∧ -9223372036854775808 ≤ z ∧ z ≤ 9223372036854775807 := fun i => by
      by_cases hil : i < len0
      · obtain ⟨h1, h2⟩ := hi i (by omega)
        obtain ⟨_, hh⟩ := flat3 H enc w base spare held n [V i] _ h2
        obtain ⟨z, h3, h4⟩ := hh 0 (by rw [show Try.prog.cellsOf 3 = 1 by kernel_rfl]; omega)
        exact ⟨z, fun _ => by rw [h1]; exact h3, h4⟩
      · exact ⟨0, fun h => absurd h hil, by omega, by omega⟩
    refine ⟨len0, fun i => Classical.choose (each i), some a, cap0, rfl, fun h4 => ?_⟩
    subst h4
    have hc := fun i hi => (Classical.choose_spec (each i)).1 hi
    have hr := fun i => (Classical.choose_spec (each i)).2
    obtain ⟨b, off, spot⟩ := a
    have hspot : spot = none := by simpa [Addr.add] using World.cell?_spot (hc 0 (by omega))
    subst hspot
    have hblk : b < w.heap.size := by
      refine hlt (.cell b off) ?_
      have hp : p = MemPlace.row ⟨b, off, none⟩ m ++ (List.range m).flatMap Pl := (Prod.mk.inj hx).2
      rw [hp]
      simp only [List.mem_append]
      exact .inl (MemPlace.mem_row.2 ⟨0, by omega, rfl⟩)
    exact ⟨b, off, rfl, hblk, hl, fun j hj => (by rw [← add_plain]; exact hc j hj), fun j _ => hr j⟩
end Go.Proofs.Ytdpegcimhhegmaa
end

