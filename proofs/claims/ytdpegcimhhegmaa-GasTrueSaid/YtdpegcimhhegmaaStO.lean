import Derived.Test.YtdpegcimhhegmaaOpen
import Derived.Test.YtdpegcimhhegmaaStA
import Derived.Deep.Slices
set_option linter.unusedVariables false
set_option linter.unusedSimpArgs false
set_option linter.unusedSectionVars false
section
set_option maxRecDepth 100000
namespace Go.Proofs.Ytdpegcimhhegmaa
open Go.ChangeShapes Go.WideShapes Go.ChangeAt Go.RowKit Go.Joins Go.Deep Go.Ev.Gas
/-- A list of operations, opened. -/
theorem ops_open {H : Type} {enc : TypeId × Value → H} {w : World} {base : Nat} {spare : Nat → Bool} {held : Bool} {r : Reach} {b0 : Nat} {v : Value} {d : DataW H} {p : List MemPlace}
    (hlt : ∀ x ∈ p, x.block < w.heap.size) (hv : Value.okWide Try.prog w r b0 67 v) (h : DataW.Trod enc Try.prog w base spare held 67 v d p) : ∃ (n : Nat) (O : Nat → Nat → Int), SL 10 w v n O ∧ ∀ i, ints (O i) := by
  obtain ⟨a0, len0, cap0, rfl⟩ := okWide_slice Try.underlying67 hv
  obtain ⟨fuel, hf⟩ := h
  rcases open_slice Try.underlying67 hf with ⟨h0, _⟩ | ⟨a, len, cap, m, n', D, Pl, hcs, hb, hl, hm, hmm, hx, hi⟩
  · simp [Value.cells] at h0
    obtain ⟨rfl, rfl, rfl⟩ := h0
    exact ⟨0, fun _ _ => 0, .inl ⟨none, 0, rfl, rfl⟩, fun i j => by show _ ≤ (0 : Int) ∧ (0 : Int) ≤ _; omega⟩
  · simp [Value.cells] at hcs
    obtain ⟨rfl, rfl, rfl⟩ := hcs
    rw [cells55] at hi hx
    have hlm : len0 ≤ m := by rw [hmm]; split <;> omega
    have each : ∀ i : Nat, ∃ z : Nat → Int, ints z ∧ (i < len0 → ∀ j, j < 10 → w.cell? (a.add (i * 10 + j)) = some (vi (z j))) := fun i => by
      by_cases hil : i < len0
      · obtain ⟨cs', h1, h2⟩ := hi i (by omega)
        obtain ⟨_, _, h3⟩ := World.cells?_some h1
        obtain ⟨hl5, h5⟩ := flat55 H enc w base spare held _ cs' _ h2
        rw [cells55] at h5
        have one : ∀ j : Nat, ∃ z : Int, (j < 10 → cs'[j]? = some (vi z)) ∧ -9223372036854775808 ≤ z ∧ z ≤ 9223372036854775807 := fun j => by
          by_cases hj : j < 10
          · obtain ⟨z, h6, h7⟩ := h5 j hj
            exact ⟨z, fun _ => h6, h7⟩
          · exact ⟨0, fun h => absurd h hj, by omega, by omega⟩
        refine ⟨fun j => Classical.choose (one j), fun j => (Classical.choose_spec (one j)).2, fun _ j hj => ?_⟩
        rw [← add_add, h3 j hj]
        exact (Classical.choose_spec (one j)).1 hj
      · exact ⟨fun _ => 0, fun j => by show _ ≤ (0 : Int) ∧ (0 : Int) ≤ _; omega, fun h => absurd h hil⟩
    by_cases h0 : len0 = 0
    · subst h0
      exact ⟨0, fun _ _ => 0, .inl ⟨some a, cap0, rfl, rfl⟩, fun i j => by show _ ≤ (0 : Int) ∧ (0 : Int) ≤ _; omega⟩
    · have hc := fun i => (Classical.choose_spec (each i)).2
      have hr := fun i => (Classical.choose_spec (each i)).1
      obtain ⟨b, off, spot⟩ := a
      have hspot : spot = none := by simpa [Addr.add] using World.cell?_spot (hc 0 (by omega) 0 (by omega))
      subst hspot
      have hblk : b < w.heap.size := by
        refine hlt (.cell b off) ?_
        have hp := (Prod.mk.inj hx).2
        rw [hp]
        simp only [List.mem_append]
        exact .inl (MemPlace.mem_row.2 ⟨0, by omega, rfl⟩)
      refine ⟨len0, fun i => Classical.choose (each i), .inr ⟨b, off, cap0, rfl, hblk, hl, by unfold maxLen at hm; omega, fun i j hi hj => ?_⟩, hr⟩
      rw [← add_plain]
      exact hc i hi j hj
/-- The same, with what is known of the capacity. -/
theorem ops_open2 {H : Type} {enc : TypeId × Value → H} {w : World} {base : Nat} {spare : Nat → Bool} {held : Bool} {r : Reach} {b0 : Nat} {v : Value} {d : DataW H} {p : List MemPlace}
    (hlt : ∀ x ∈ p, x.block < w.heap.size) (hv : Value.okWide Try.prog w r b0 67 v) (h : DataW.Trod enc Try.prog w base spare held 67 v d p) : ∃ (n : Nat) (O : Nat → Nat → Int), (SL 10 w v n O ∧ ∀ i, ints (O i)) ∧ ∀ a m cap, v = .slice a m cap → cap ≤ 9223372036854775807 ∧ (a = none → cap = 0) := by
  obtain ⟨n, O, h1⟩ := ops_open hlt hv h
  refine ⟨n, O, h1, fun a m cap e => ?_⟩
  subst e
  obtain ⟨fuel, hf⟩ := h
  rcases open_slice Try.underlying67 hf with ⟨h0, _⟩ | ⟨a, len, cap, m, n', D, Pl, hcs, hb, hl, hm, hmm, hx, hi⟩
  · simp [Value.cells] at h0
    obtain ⟨rfl, rfl, rfl⟩ := h0
    exact ⟨by omega, fun _ => rfl⟩
  · simp [Value.cells] at hcs
    obtain ⟨rfl, rfl, rfl⟩ := hcs
    exact ⟨by unfold maxLen at hm; omega, fun h => by cases h⟩
end Go.Proofs.Ytdpegcimhhegmaa
end

