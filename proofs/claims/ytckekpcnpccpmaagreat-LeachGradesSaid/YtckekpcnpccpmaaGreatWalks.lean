import Derived.Test.YtckekpcnpccpmaaGreatProg
import Derived.WalkKit
import Derived.LoopTactic
import Derived.BigQuiet
import Derived.Outline
import Derived.Lib.Hide
import Derived.Deep.QuietTactic
set_option linter.unusedVariables false
set_option linter.unusedSimpArgs false
set_option linter.unusedSectionVars false
namespace Go.Proofs.W
open Go.RowKit
def within (n l h : Int) : Bool := decide (l ≤ n) && decide (n ≤ h)
theorem within_t {n l h : Int} (k : within n l h = true) : l ≤ n ∧ n ≤ h := by simpa [within] using k
theorem within_any (n l h : Int) (w : World) : Calls Tryz.prog 115 #[.int .i64 n, .int .i64 l, .int .i64 h] w fun e w' => e = .returned (.bool (within n l h)) ∧ w = w' := by
  by_cases h1 : l ≤ n
  · by_cases h2 : n ≤ h
    · go_enter Tryz.func115, Tryz.ntmps115
      go_wp2
      go_ret
      exact ⟨by simp [within, h1, h2], rfl⟩
    · go_enter Tryz.func115, Tryz.ntmps115
      go_wp2
      go_ret
      exact ⟨by simp [within, h1, h2], rfl⟩
  · go_enter Tryz.func115, Tryz.ntmps115
    go_wp2
    go_ret
    exact ⟨by simp [within]; omega, rfl⟩
def spanB (lo hi most : Int) : Bool := within lo 0 hi && decide (hi ≤ most)
theorem span_any (lo hi m : Int) (w : World) : Calls Tryz.prog 143 #[.agg #[.int .i64 lo, .int .i64 hi], .int .i64 m] w fun e w' => e = .returned (.bool (spanB lo hi m)) ∧ Below w.heap.size w w' := by
  cases h1 : within lo 0 hi with
  | true =>
    go_enter Tryz.func143, Tryz.ntmps143
    go_wp2_with (go_at_call 115; refine (within_any _ _ _ _).mono ?_; rintro e w' ⟨rfl, rfl⟩)
    go_ret
    exact ⟨by simp [spanB, h1], (Below.refl _ _).alloc (Nat.le_refl _) _⟩
  | false =>
    go_enter Tryz.func143, Tryz.ntmps143
    go_wp2_with (go_at_call 115; refine (within_any _ _ _ _).mono ?_; rintro e w' ⟨rfl, rfl⟩)
    go_ret
    exact ⟨by simp [spanB, h1], (Below.refl _ _).alloc (Nat.le_refl _) _⟩
theorem bcell {W w1 : World} (hb : Below W.heap.size W w1) : (∀ b o, b < W.heap.size → w1.cell? ⟨b, o, none⟩ = W.cell? ⟨b, o, none⟩) ∧ (∀ b o, b < W.heap.size → w1.frozen? ⟨b, o, none⟩ = W.frozen? ⟨b, o, none⟩) :=
  ⟨fun b o h => hb.cell (p := ⟨b, o, none⟩) h, fun b o h => hb.frozen (p := ⟨b, o, none⟩) h⟩
def sliceB (vl vh op fa rl rh mo : Int) : Bool := spanB vl vh 10000000000000 && within op 1000 3000 && within fa 0 (op - 1) && spanB rl rh 300 && within mo 0 10000000000000
theorem slice_any (vl vh op fa rl rh mo : Int) (w : World) : Calls Tryz.prog 123 #[.agg #[.int .i64 vl, .int .i64 vh, .int .i64 op, .int .i64 fa, .int .i64 rl, .int .i64 rh, .int .i64 mo]] w fun e w' => e = .returned (.bool (sliceB vl vh op fa rl rh mo)) ∧ Below w.heap.size w w' := by
  cases h1 : spanB vl vh 10000000000000 with
  | false =>
    go_enter Tryz.func123, Tryz.ntmps123
    go_wp2_with fail
    refine (span_any _ _ _ _).mono ?_
    rintro e w1 ⟨rfl, hb1⟩
    obtain ⟨hc1, hf1⟩ := bcell hb1
    go_wp2
    go_ret
    exact ⟨by simp [sliceB, h1], ((Below.refl _ _).alloc (Nat.le_refl _) _).trans (hb1.mono (by simp))⟩
  | true =>
    cases h2 : within op 1000 3000 with
    | false =>
      go_enter Tryz.func123, Tryz.ntmps123
      go_wp2_with fail
      refine (span_any _ _ _ _).mono ?_
      rintro e w1 ⟨rfl, hb1⟩
      obtain ⟨hc1, hf1⟩ := bcell hb1
      go_wp2_with fail
      refine (within_any _ _ _ _).mono ?_
      rintro e w' ⟨rfl, rfl⟩
      go_wp2
      go_ret
      exact ⟨by simp [sliceB, h1, h2], ((Below.refl _ _).alloc (Nat.le_refl _) _).trans (hb1.mono (by simp))⟩
    | true =>
      obtain ⟨b1, b2⟩ := within_t h2
      cases h3 : within fa 0 (op - 1) with
      | false =>
        go_enter Tryz.func123, Tryz.ntmps123
        go_wp2_with fail
        refine (span_any _ _ _ _).mono ?_
        rintro e w1 ⟨rfl, hb1⟩
        obtain ⟨hc1, hf1⟩ := bcell hb1
        go_wp2_with fail
        refine (within_any _ _ _ _).mono ?_
        rintro e w' ⟨rfl, rfl⟩
        go_wp2_with fail
        refine (within_any _ _ _ _).mono ?_
        rintro e w' ⟨rfl, rfl⟩
        go_wp2
        go_ret
        exact ⟨by simp [sliceB, h1, h2, h3], ((Below.refl _ _).alloc (Nat.le_refl _) _).trans (hb1.mono (by simp))⟩
      | true =>
        cases h4 : spanB rl rh 300 with
        | false =>
          go_enter Tryz.func123, Tryz.ntmps123
          go_wp2_with fail
          refine (span_any _ _ _ _).mono ?_
          rintro e w1 ⟨rfl, hb1⟩
          obtain ⟨hc1, hf1⟩ := bcell hb1
          go_wp2_with fail
          refine (within_any _ _ _ _).mono ?_
          rintro e w' ⟨rfl, rfl⟩
          go_wp2_with fail
          refine (within_any _ _ _ _).mono ?_
          rintro e w' ⟨rfl, rfl⟩
          go_wp2_with fail
          have hz := hb1.size
          simp at hz
          refine (span_any _ _ _ _).mono ?_
          rintro e w2 ⟨rfl, hb2⟩
          obtain ⟨hc2, hf2⟩ := bcell hb2
          go_wp2
          go_ret
          exact ⟨by simp [sliceB, h1, h2, h3, h4], (((Below.refl _ _).alloc (Nat.le_refl _) _).trans (hb1.mono (by simp))).trans (hb2.mono (by omega))⟩
        | true =>
          go_enter Tryz.func123, Tryz.ntmps123
          go_wp2_with fail
          refine (span_any _ _ _ _).mono ?_
          rintro e w1 ⟨rfl, hb1⟩
          obtain ⟨hc1, hf1⟩ := bcell hb1
          go_wp2_with fail
          refine (within_any _ _ _ _).mono ?_
          rintro e w' ⟨rfl, rfl⟩
          go_wp2_with fail
          refine (within_any _ _ _ _).mono ?_
          rintro e w' ⟨rfl, rfl⟩
          go_wp2_with fail
          have hz := hb1.size
          simp at hz
          refine (span_any _ _ _ _).mono ?_
          rintro e w2 ⟨rfl, hb2⟩
          obtain ⟨hc2, hf2⟩ := bcell hb2
          have hlt : w.heap.size < w1.heap.size := by omega
          go_wp2_with fail
          refine (within_any _ _ _ _).mono ?_
          rintro e w' ⟨rfl, rfl⟩
          go_wp2
          go_ret
          exact ⟨by simp [sliceB, h1, h2, h3, h4], (((Below.refl _ _).alloc (Nat.le_refl _) _).trans (hb1.mono (by simp))).trans (hb2.mono (by omega))⟩
end Go.Proofs.W

namespace Go.Proofs.W
open Go.RowKit
def allB (f : Nat → Bool) : Nat → Bool
  | 0 => true
  | k + 1 => allB f k && f k
theorem allB_false {f : Nat → Bool} : ∀ {n k : Nat}, k < n → f k = false → allB f n = false
  | 0, k, h, _ => by omega
  | n + 1, k, h, hf => by
    simp only [allB]
    by_cases hk : k = n
    · subst hk; simp [hf]
    · simp [allB_false (show k < n by omega) hf]
theorem allB_get {f : Nat → Bool} : ∀ {n k : Nat}, allB f n = true → k < n → f k = true
  | 0, k, _, h => by omega
  | n + 1, k, ha, h => by
    simp only [allB, Bool.and_eq_true] at ha
    by_cases hk : k = n
    · subst hk; exact ha.2
    · exact allB_get ha.1 (by omega)
def rowB (F : Nat → Nat → Int) (i : Nat) : Bool := sliceB (F i 0) (F i 1) (F i 2) (F i 3) (F i 4) (F i 5) (F i 6)
def headB (n : Nat) (hold oil : Int) : Bool := within n 1 10 && within hold 1 300 && within oil 0 10000000000000
def cavB (n : Nat) (hold oil : Int) (F : Nat → Nat → Int) : Bool := headB n hold oil && allB (rowB F) n

/-- The slice and its cells. -/
def SliceAt (w : World) (b off n : Nat) (F : Nat → Nat → Int) : Prop := ∀ i j, i < n → j < 7 → w.cell? ⟨b, off + (i * 7 + j), none⟩ = some (.int .i64 (F i j))

theorem cav_loop (b off n cap : Nat) (hold oil : Int) (F : Nat → Nat → Int) (w : World) (h1 : within n 1 10 = true) (h2 : within hold 1 300 = true) (h3 : within oil 0 10000000000000 = true) (hs : SliceAt w b off n F) (hb : b < w.heap.size) :
    Calls Tryz.prog 79 #[.agg #[.slice (some ⟨b, off, none⟩) n cap, .int .i64 hold, .int .i64 oil]] w fun e w' => e = .returned (.bool (cavB n hold oil F)) ∧ Below w.heap.size w w' := by
  obtain ⟨a1, a2⟩ := within_t h1
  go_enter Tryz.func79, Tryz.ntmps79
  go_wp2_with fail
  refine (within_any _ _ _ _).mono ?_
  rintro e w' ⟨rfl, rfl⟩
  go_wp2_with fail
  refine (within_any _ _ _ _).mono ?_
  rintro e w' ⟨rfl, rfl⟩
  go_wp2_with fail
  refine (within_any _ _ _ _).mono ?_
  rintro e w' ⟨rfl, rfl⟩
  go_wp2
  have hBase := (Below.refl w.heap.size w).alloc (Nat.le_refl _) (Obj.cells #[Value.slice (some { block := b, off := off }) n cap, Value.int IntKind.i64 hold, Value.int IntKind.i64 oil] 24)
  have HB0 := Lib.hid hBase
  clear hBase
  go_loopw [25] (fun i wr => ∃ k : Nat, k ≤ n ∧ i = .int .i64 k ∧ allB (rowB F) k = true ∧ Below w.heap.size w wr) (fun i _ => n - (intOf i).toNat)
  case atStart => exact ⟨0, Nat.zero_le _, rfl, rfl, HB0.out⟩
  case round =>
    obtain ⟨k, hk, rfl, hall, hbel⟩ := hrel
    by_cases hlt : k < n
    · have hcell : ∀ j, j < 7 → wr.cell? ⟨b, off + (k * 7 + j), none⟩ = some (.int .i64 (F k j)) := fun j hj => by
        rw [hbel.cell (p := ⟨b, off + (k * 7 + j), none⟩) hb]; exact hs k j hlt hj
      have c0 : wr.cell? ⟨b, off + k * 7, none⟩ = some (.int .i64 (F k 0)) := by have := hcell 0 (by omega); rwa [show off + (k * 7 + 0) = off + k * 7 from by omega] at this
      have c1 : wr.cell? ⟨b, off + k * 7 + 1, none⟩ = some (.int .i64 (F k 1)) := by have := hcell 1 (by omega); rwa [show off + (k * 7 + 1) = off + k * 7 + 1 from by omega] at this
      have c2 : wr.cell? ⟨b, off + k * 7 + 2, none⟩ = some (.int .i64 (F k 2)) := by have := hcell 2 (by omega); rwa [show off + (k * 7 + 2) = off + k * 7 + 2 from by omega] at this
      have c3 : wr.cell? ⟨b, off + k * 7 + 3, none⟩ = some (.int .i64 (F k 3)) := by have := hcell 3 (by omega); rwa [show off + (k * 7 + 3) = off + k * 7 + 3 from by omega] at this
      have c4 : wr.cell? ⟨b, off + k * 7 + 4, none⟩ = some (.int .i64 (F k 4)) := by have := hcell 4 (by omega); rwa [show off + (k * 7 + 4) = off + k * 7 + 4 from by omega] at this
      have c5 : wr.cell? ⟨b, off + k * 7 + 5, none⟩ = some (.int .i64 (F k 5)) := by have := hcell 5 (by omega); rwa [show off + (k * 7 + 5) = off + k * 7 + 5 from by omega] at this
      have c6 : wr.cell? ⟨b, off + k * 7 + 6, none⟩ = some (.int .i64 (F k 6)) := by have := hcell 6 (by omega); rwa [show off + (k * 7 + 6) = off + k * 7 + 6 from by omega] at this
      clear hcell
      have hz := hbel.size
      cases hrow : rowB F k with
      | true =>
        have Hrow := Lib.hid hrow
        clear hrow
        go_wp2_with fail
        refine (slice_any _ _ _ _ _ _ _ _).mono ?_
        rintro e w1 ⟨rfl, hb1⟩
        have Hr : sliceB (F k 0) (F k 1) (F k 2) (F k 3) (F k 4) (F k 5) (F k 6) = true := Hrow.out
        go_wp2
        go_roundw
        case rel => exact ⟨k + 1, by omega, by go_num, by simp [allB, hall, Hrow.out], (hbel.trans ((Below.refl _ wr).alloc hz _)).trans (hb1.mono (by simp; omega))⟩
        case measure => simp [intOf]; omega
      | false =>
        have Hrow := Lib.hid hrow
        clear hrow
        go_wp2_with fail
        refine (slice_any _ _ _ _ _ _ _ _).mono ?_
        rintro e w1 ⟨rfl, hb1⟩
        have Hr : sliceB (F k 0) (F k 1) (F k 2) (F k 3) (F k 4) (F k 5) (F k 6) = false := Hrow.out
        go_wp2
        go_ret
        exact ⟨by simp [cavB, headB, h1, h2, h3, allB_false hlt Hrow.out], (hbel.trans ((Below.refl _ wr).alloc hz _)).trans (hb1.mono (by simp; omega))⟩
    · have hkn : k = n := by omega
      subst hkn
      go_wp2
      go_ret
      exact ⟨by simp [cavB, headB, h1, h2, h3, hall], hbel⟩

/-- A slice of caverns' slices, as an argument has it. -/
def Sl (w : World) (v : Value) (n : Nat) (F : Nat → Nat → Int) : Prop :=
  (∃ (a : Option Addr) (cap : Nat), v = .slice a 0 cap ∧ n = 0) ∨ ∃ b off cap, v = .slice (some ⟨b, off, none⟩) n cap ∧ b < w.heap.size ∧ n ≤ cap ∧ n ≤ 9223372036854775807 ∧ SliceAt w b off n F

theorem cav_any (v : Value) (n : Nat) (hold oil : Int) (F : Nat → Nat → Int) (w : World) (hs : Sl w v n F) :
    Calls Tryz.prog 79 #[.agg #[v, .int .i64 hold, .int .i64 oil]] w fun e w' => e = .returned (.bool (cavB n hold oil F)) ∧ Below w.heap.size w w' := by
  have hB := fun O => (Below.refl w.heap.size w).alloc (Nat.le_refl _) O
  have HB := Lib.hid hB
  clear hB
  rcases hs with ⟨a, cap, rfl, rfl⟩ | ⟨b, off, cap, rfl, hb, hcap, hmax, hs⟩
  · have h1 : within 0 1 10 = false := by decide
    go_enter Tryz.func79, Tryz.ntmps79
    go_wp2_with fail
    refine (within_any _ _ _ _).mono ?_
    rintro e w' ⟨rfl, rfl⟩
    go_wp2
    go_ret
    exact ⟨by simp [cavB, headB, h1], HB.out _⟩
  · cases h1 : within n 1 10 with
    | false =>
      go_enter Tryz.func79, Tryz.ntmps79
      go_wp2_with fail
      refine (within_any _ _ _ _).mono ?_
      rintro e w' ⟨rfl, rfl⟩
      go_wp2
      go_ret
      exact ⟨by simp [cavB, headB, h1], HB.out _⟩
    | true =>
      cases h2 : within hold 1 300 with
      | false =>
        go_enter Tryz.func79, Tryz.ntmps79
        go_wp2_with fail
        refine (within_any _ _ _ _).mono ?_
        rintro e w' ⟨rfl, rfl⟩
        go_wp2_with fail
        refine (within_any _ _ _ _).mono ?_
        rintro e w' ⟨rfl, rfl⟩
        go_wp2
        go_ret
        exact ⟨by simp [cavB, headB, h1, h2], HB.out _⟩
      | true =>
        cases h3 : within oil 0 10000000000000 with
        | false =>
          go_enter Tryz.func79, Tryz.ntmps79
          go_wp2_with fail
          refine (within_any _ _ _ _).mono ?_
          rintro e w' ⟨rfl, rfl⟩
          go_wp2_with fail
          refine (within_any _ _ _ _).mono ?_
          rintro e w' ⟨rfl, rfl⟩
          go_wp2_with fail
          refine (within_any _ _ _ _).mono ?_
          rintro e w' ⟨rfl, rfl⟩
          go_wp2
          go_ret
          exact ⟨by simp [cavB, headB, h1, h2, h3], HB.out _⟩
        | true => exact cav_loop b off n cap hold oil F w h1 h2 h3 hs hb
end Go.Proofs.W

namespace Go.Proofs.W
open Go.RowKit
theorem in_any (n l h : Int) (w : World) : Calls Tryz.prog 73 #[.int .i64 n, .int .i64 l, .int .i64 h] w fun e w' => e = .returned (.bool (within n l h)) ∧ w = w' := by
  by_cases h1 : l ≤ n
  · by_cases h2 : n ≤ h
    · go_enter Tryz.func73, Tryz.ntmps73
      go_wp2
      go_ret
      exact ⟨by simp [within, h1, h2], rfl⟩
    · go_enter Tryz.func73, Tryz.ntmps73
      go_wp2
      go_ret
      exact ⟨by simp [within, h1, h2], rfl⟩
  · go_enter Tryz.func73, Tryz.ntmps73
    go_wp2
    go_ret
    exact ⟨by simp [within]; omega, rfl⟩
theorem rspan_any (lo hi m : Int) (w : World) : Calls Tryz.prog 78 #[.agg #[.int .i64 lo, .int .i64 hi], .int .i64 0, .int .i64 m] w fun e w' => e = .returned (.bool (spanB lo hi m)) ∧ Below w.heap.size w w' := by
  by_cases h1 : 0 ≤ lo
  · by_cases h2 : lo ≤ hi
    · by_cases h3 : hi ≤ m
      · go_enter Tryz.func78, Tryz.ntmps78
        go_wp2
        go_ret
        exact ⟨by simp [spanB, within, h1, h2, h3], (Below.refl _ _).alloc (Nat.le_refl _) _⟩
      · go_enter Tryz.func78, Tryz.ntmps78
        go_wp2
        go_ret
        exact ⟨by simp [spanB, within]; omega, (Below.refl _ _).alloc (Nat.le_refl _) _⟩
    · go_enter Tryz.func78, Tryz.ntmps78
      go_wp2
      go_ret
      exact ⟨by simp [spanB, within]; omega, (Below.refl _ _).alloc (Nat.le_refl _) _⟩
  · go_enter Tryz.func78, Tryz.ntmps78
    go_wp2
    go_ret
    exact ⟨by simp [spanB, within]; omega, (Below.refl _ _).alloc (Nat.le_refl _) _⟩

set_option maxHeartbeats 1000000 in
theorem rcav_some (b off n cap : Nat) (hold oil : Int) (F : Nat → Nat → Int) (w : World) (hs : SliceAt w b off n F) (hb : b < w.heap.size) (hm : n ≤ 9223372036854775807) :
    Calls Tryz.prog 34 #[.agg #[.slice (some ⟨b, off, none⟩) n cap, .int .i64 hold, .int .i64 oil]] w fun e w' => e = .returned (.bool (cavB n hold oil F)) ∧ Below w.heap.size w w' := by
  have hW := (Below.refl w.heap.size w).alloc (Nat.le_refl _) (Obj.cells #[Value.slice (some { block := b, off := off }) n cap, Value.int IntKind.i64 hold, Value.int IntKind.i64 oil] 24)
  have HW := Lib.hid hW
  clear hW
  go_enter Tryz.func34, Tryz.ntmps34
  go_wp2
  go_loopw [3] (fun i wr => ∃ k : Nat, k ≤ n ∧ i = .int .i64 k ∧ allB (rowB F) k = true ∧ Below (w.heap.size + 1) (w.alloc (Obj.cells #[Value.slice (some { block := b, off := off }) n cap, Value.int IntKind.i64 hold, Value.int IntKind.i64 oil] 24)) wr) (fun i _ => n - (intOf i).toNat)
  case atStart => exact ⟨0, Nat.zero_le _, rfl, rfl, Below.refl _ _⟩
  case round =>
    obtain ⟨k, hk, rfl, hall, hbel⟩ := hrel
    have hz := hbel.size
    simp at hz
    have q0 : wr.cell? ⟨w.heap.size, 0, none⟩ = some (Value.slice (some { block := b, off := off }) n cap) := by rw [hbel.cell (p := ⟨w.heap.size, 0, none⟩) (by simp)]; simp
    have q1 : wr.cell? ⟨w.heap.size, 1, none⟩ = some (Value.int IntKind.i64 hold) := by rw [hbel.cell (p := ⟨w.heap.size, 1, none⟩) (by simp)]; simp
    have q2 : wr.cell? ⟨w.heap.size, 2, none⟩ = some (Value.int IntKind.i64 oil) := by rw [hbel.cell (p := ⟨w.heap.size, 2, none⟩) (by simp)]; simp
    have HB0 := Lib.hid hbel
    by_cases hlt : k < n
    · have hcell : ∀ j, j < 7 → wr.cell? ⟨b, off + (k * 7 + j), none⟩ = some (.int .i64 (F k j)) := fun j hj => by
        rw [hbel.cell (p := ⟨b, off + (k * 7 + j), none⟩) (by simp; omega), World.cell?_of_block (a := ⟨b, off + (k * 7 + j), none⟩) (heap_alloc_old w _ hb)]; exact hs k j hlt hj
      have c0 : wr.cell? ⟨b, off + k * 7, none⟩ = some (.int .i64 (F k 0)) := by have := hcell 0 (by omega); rwa [show off + (k * 7 + 0) = off + k * 7 from by omega] at this
      have c1 : wr.cell? ⟨b, off + k * 7 + 1, none⟩ = some (.int .i64 (F k 1)) := by have := hcell 1 (by omega); rwa [show off + (k * 7 + 1) = off + k * 7 + 1 from by omega] at this
      have c2 : wr.cell? ⟨b, off + k * 7 + 2, none⟩ = some (.int .i64 (F k 2)) := by have := hcell 2 (by omega); rwa [show off + (k * 7 + 2) = off + k * 7 + 2 from by omega] at this
      have c3 : wr.cell? ⟨b, off + k * 7 + 3, none⟩ = some (.int .i64 (F k 3)) := by have := hcell 3 (by omega); rwa [show off + (k * 7 + 3) = off + k * 7 + 3 from by omega] at this
      have c4 : wr.cell? ⟨b, off + k * 7 + 4, none⟩ = some (.int .i64 (F k 4)) := by have := hcell 4 (by omega); rwa [show off + (k * 7 + 4) = off + k * 7 + 4 from by omega] at this
      have c5 : wr.cell? ⟨b, off + k * 7 + 5, none⟩ = some (.int .i64 (F k 5)) := by have := hcell 5 (by omega); rwa [show off + (k * 7 + 5) = off + k * 7 + 5 from by omega] at this
      have c6 : wr.cell? ⟨b, off + k * 7 + 6, none⟩ = some (.int .i64 (F k 6)) := by have := hcell 6 (by omega); rwa [show off + (k * 7 + 6) = off + k * 7 + 6 from by omega] at this
      clear hcell hbel
      cases h0 : spanB (F k 0) (F k 1) 10000000000000 with
      | false =>
        go_wp2_with fail
        refine (rspan_any _ _ _ _).mono ?_
        rintro e x0 ⟨rfl, hx0⟩
        obtain ⟨hc0, hf0⟩ := bcell hx0
        have hy0 := hx0.size
        try simp at hy0
        go_wp2
        go_ret
        exact ⟨by simp [cavB, allB_false hlt (show rowB F k = false by simp [rowB, sliceB, h0])], ((HB0.out.trans ((Below.refl _ wr).alloc (by omega) _)).trans (hx0.mono (by simp; omega))).trans (Below.refl _ _) |> fun h => HW.out.trans (h.mono (by omega))⟩
      | true =>
        cases h1 : within (F k 2) 1000 3000 with
        | false =>
          go_wp2_with fail
          refine (rspan_any _ _ _ _).mono ?_
          rintro e x0 ⟨rfl, hx0⟩
          obtain ⟨hc0, hf0⟩ := bcell hx0
          have hy0 := hx0.size
          try simp at hy0
          go_wp2_with fail
          refine (in_any _ _ _ _).mono ?_
          rintro e w' ⟨rfl, rfl⟩
          go_wp2
          go_ret
          exact ⟨by simp [cavB, allB_false hlt (show rowB F k = false by simp [rowB, sliceB, h0, h1])], ((HB0.out.trans ((Below.refl _ wr).alloc (by omega) _)).trans (hx0.mono (by simp; omega))).trans (Below.refl _ _) |> fun h => HW.out.trans (h.mono (by omega))⟩
        | true =>
          obtain ⟨bo1, bo2⟩ := within_t h1
          cases h2 : within (F k 3) 0 (F k 2 - 1) with
          | false =>
            go_wp2_with fail
            refine (rspan_any _ _ _ _).mono ?_
            rintro e x0 ⟨rfl, hx0⟩
            obtain ⟨hc0, hf0⟩ := bcell hx0
            have hy0 := hx0.size
            try simp at hy0
            go_wp2_with fail
            refine (in_any _ _ _ _).mono ?_
            rintro e w' ⟨rfl, rfl⟩
            go_wp2_with fail
            refine (in_any _ _ _ _).mono ?_
            rintro e w' ⟨rfl, rfl⟩
            go_wp2
            go_ret
            exact ⟨by simp [cavB, allB_false hlt (show rowB F k = false by simp [rowB, sliceB, h0, h1, h2])], ((HB0.out.trans ((Below.refl _ wr).alloc (by omega) _)).trans (hx0.mono (by simp; omega))).trans (Below.refl _ _) |> fun h => HW.out.trans (h.mono (by omega))⟩
          | true =>
            cases h3 : spanB (F k 4) (F k 5) 300 with
            | false =>
              go_wp2_with fail
              refine (rspan_any _ _ _ _).mono ?_
              rintro e x0 ⟨rfl, hx0⟩
              obtain ⟨hc0, hf0⟩ := bcell hx0
              have hy0 := hx0.size
              try simp at hy0
              go_wp2_with fail
              refine (in_any _ _ _ _).mono ?_
              rintro e w' ⟨rfl, rfl⟩
              go_wp2_with fail
              refine (in_any _ _ _ _).mono ?_
              rintro e w' ⟨rfl, rfl⟩
              go_wp2_with fail
              refine (rspan_any _ _ _ _).mono ?_
              rintro e x3 ⟨rfl, hx3⟩
              obtain ⟨hc3, hf3⟩ := bcell hx3
              have hy3 := hx3.size
              try simp at hy3
              have hlt3 : wr.heap.size < x0.heap.size := by omega
              go_wp2
              go_ret
              exact ⟨by simp [cavB, allB_false hlt (show rowB F k = false by simp [rowB, sliceB, h0, h1, h2, h3])], (((HB0.out.trans ((Below.refl _ wr).alloc (by omega) _)).trans (hx0.mono (by simp; omega))).trans (hx3.mono (by omega))).trans (Below.refl _ _) |> fun h => HW.out.trans (h.mono (by omega))⟩
            | true =>
              cases h4 : within (F k 6) 0 10000000000000 with
              | false =>
                go_wp2_with fail
                refine (rspan_any _ _ _ _).mono ?_
                rintro e x0 ⟨rfl, hx0⟩
                obtain ⟨hc0, hf0⟩ := bcell hx0
                have hy0 := hx0.size
                try simp at hy0
                go_wp2_with fail
                refine (in_any _ _ _ _).mono ?_
                rintro e w' ⟨rfl, rfl⟩
                go_wp2_with fail
                refine (in_any _ _ _ _).mono ?_
                rintro e w' ⟨rfl, rfl⟩
                go_wp2_with fail
                refine (rspan_any _ _ _ _).mono ?_
                rintro e x3 ⟨rfl, hx3⟩
                obtain ⟨hc3, hf3⟩ := bcell hx3
                have hy3 := hx3.size
                try simp at hy3
                have hlt3 : wr.heap.size < x0.heap.size := by omega
                go_wp2_with fail
                refine (in_any _ _ _ _).mono ?_
                rintro e w' ⟨rfl, rfl⟩
                go_wp2
                go_ret
                exact ⟨by simp [cavB, allB_false hlt (show rowB F k = false by simp [rowB, sliceB, h0, h1, h2, h3, h4])], (((HB0.out.trans ((Below.refl _ wr).alloc (by omega) _)).trans (hx0.mono (by simp; omega))).trans (hx3.mono (by omega))).trans (Below.refl _ _) |> fun h => HW.out.trans (h.mono (by omega))⟩
              | true =>
                go_wp2_with fail
                refine (rspan_any _ _ _ _).mono ?_
                rintro e x0 ⟨rfl, hx0⟩
                obtain ⟨hc0, hf0⟩ := bcell hx0
                have hy0 := hx0.size
                try simp at hy0
                go_wp2_with fail
                refine (in_any _ _ _ _).mono ?_
                rintro e w' ⟨rfl, rfl⟩
                go_wp2_with fail
                refine (in_any _ _ _ _).mono ?_
                rintro e w' ⟨rfl, rfl⟩
                go_wp2_with fail
                refine (rspan_any _ _ _ _).mono ?_
                rintro e x3 ⟨rfl, hx3⟩
                obtain ⟨hc3, hf3⟩ := bcell hx3
                have hy3 := hx3.size
                try simp at hy3
                have hlt3 : wr.heap.size < x0.heap.size := by omega
                go_wp2_with fail
                refine (in_any _ _ _ _).mono ?_
                rintro e w' ⟨rfl, rfl⟩
                go_wp2
                go_roundw
                case rel => exact ⟨k + 1, by omega, by go_num, by simp [allB, hall, rowB, sliceB, h0, h1, h2, h3, h4], ((HB0.out.trans ((Below.refl _ wr).alloc (by omega) _)).trans (hx0.mono (by simp; omega))).trans (hx3.mono (by omega))⟩
                case measure => simp [intOf]; omega
    · have hkn : k = n := by omega
      subst hkn
      clear hbel
      cases h0 : within k 1 10 with
      | false =>
        go_wp2_with fail
        refine (in_any _ _ _ _).mono ?_
        rintro e w' ⟨rfl, rfl⟩
        go_wp2
        go_ret
        exact ⟨by simp [cavB, headB, h0], HW.out.trans (HB0.out.mono (by omega))⟩
      | true =>
        cases h1 : within hold 1 300 with
        | false =>
          go_wp2_with fail
          refine (in_any _ _ _ _).mono ?_
          rintro e w' ⟨rfl, rfl⟩
          go_wp2_with fail
          refine (in_any _ _ _ _).mono ?_
          rintro e w' ⟨rfl, rfl⟩
          go_wp2
          go_ret
          exact ⟨by simp [cavB, headB, h0, h1], HW.out.trans (HB0.out.mono (by omega))⟩
        | true =>
          go_wp2_with fail
          refine (in_any _ _ _ _).mono ?_
          rintro e w' ⟨rfl, rfl⟩
          go_wp2_with fail
          refine (in_any _ _ _ _).mono ?_
          rintro e w' ⟨rfl, rfl⟩
          go_wp2_with fail
          refine (in_any _ _ _ _).mono ?_
          rintro e w' ⟨rfl, rfl⟩
          go_wp2
          go_ret
          exact ⟨by simp [cavB, headB, h0, h1, hall], HW.out.trans (HB0.out.mono (by omega))⟩

theorem rcav_any (v : Value) (n : Nat) (hold oil : Int) (F : Nat → Nat → Int) (w : World) (hs : Sl w v n F) :
    Calls Tryz.prog 34 #[.agg #[v, .int .i64 hold, .int .i64 oil]] w fun e w' => e = .returned (.bool (cavB n hold oil F)) ∧ Below w.heap.size w w' := by
  rcases hs with ⟨a, cap, rfl, rfl⟩ | ⟨b, off, cap, rfl, hb, hcap, hmax, hs⟩
  · have hB := fun O => (Below.refl w.heap.size w).alloc (Nat.le_refl _) O
    have HB := Lib.hid hB
    clear hB
    have h1 : within 0 1 10 = false := by decide
    go_enter Tryz.func34, Tryz.ntmps34
    go_wp2
    refine wp_loop_rounds 1 ?_
    rw [rounds_succ]
    go_wp2_with fail
    refine (in_any _ _ _ _).mono ?_
    rintro e w' ⟨rfl, rfl⟩
    go_wp2
    go_ret
    exact ⟨by simp [cavB, headB, h1], HB.out _⟩
  · exact rcav_some b off n cap hold oil F w hs hb (by omega)
end Go.Proofs.W

namespace Go.Proofs.W
open Go.RowKit
def stageB (n : Nat) (wa i o bl : Int) : Bool := within wa 1 1000000 && within i 0 (n - 1) && within o 0 (n - 1) && decide (i ≠ o) && within bl 0 n
set_option maxHeartbeats 1000000 in
theorem stage23_any (a : Addr) (n cap : Nat) (hold oil wa i o bl : Int) (w : World) (hn : 1 ≤ n) (hm : n ≤ 9223372036854775807) :
    Calls Tryz.prog 80 #[.agg #[.slice (some a) n cap, .int .i64 hold, .int .i64 oil], .agg #[.int .i64 wa, .int .i64 i, .int .i64 o, .int .i64 bl]] w fun e w' => e = .returned (.bool (stageB n wa i o bl)) ∧ Below w.heap.size w w' := by
  have hB := fun O O' => ((Below.refl w.heap.size w).alloc (Nat.le_refl _) O).alloc (by simp) O'
  have HB := Lib.hid hB
  clear hB
  cases h0 : within wa 1 1000000 with
  | false =>
    go_enter Tryz.func80, Tryz.ntmps80
    go_wp2_with fail
    refine (within_any _ _ _ _).mono ?_
    rintro e w' ⟨rfl, rfl⟩
    go_wp2
    go_ret
    exact ⟨by simp [stageB, h0], HB.out _ _⟩
  | true =>
    cases h1 : within i 0 (n - 1) with
    | false =>
      go_enter Tryz.func80, Tryz.ntmps80
      go_wp2_with fail
      refine (within_any _ _ _ _).mono ?_
      rintro e w' ⟨rfl, rfl⟩
      go_wp2_with fail
      refine (within_any _ _ _ _).mono ?_
      rintro e w' ⟨rfl, rfl⟩
      go_wp2
      go_ret
      exact ⟨by simp [stageB, h0, h1], HB.out _ _⟩
    | true =>
      cases h2 : within o 0 (n - 1) with
      | false =>
        go_enter Tryz.func80, Tryz.ntmps80
        go_wp2_with fail
        refine (within_any _ _ _ _).mono ?_
        rintro e w' ⟨rfl, rfl⟩
        go_wp2_with fail
        refine (within_any _ _ _ _).mono ?_
        rintro e w' ⟨rfl, rfl⟩
        go_wp2_with fail
        refine (within_any _ _ _ _).mono ?_
        rintro e w' ⟨rfl, rfl⟩
        go_wp2
        go_ret
        exact ⟨by simp [stageB, h0, h1, h2], HB.out _ _⟩
      | true =>
        by_cases h3 : i = o
        · have d3 : (i != o) = false := by simp [h3]
          have d4 : (i == o) = true := by simp [h3]
          have H3 := Lib.hid h3
          clear h3
          go_enter Tryz.func80, Tryz.ntmps80
          go_wp2_with fail
          refine (within_any _ _ _ _).mono ?_
          rintro e w' ⟨rfl, rfl⟩
          go_wp2_with fail
          refine (within_any _ _ _ _).mono ?_
          rintro e w' ⟨rfl, rfl⟩
          go_wp2_with fail
          refine (within_any _ _ _ _).mono ?_
          rintro e w' ⟨rfl, rfl⟩
          go_wp2
          go_ret
          exact ⟨by simp [stageB, h0, h1, h2, H3.out], HB.out _ _⟩
        · have d3 : (i != o) = true := by simp [h3]
          have d4 : (i == o) = false := by simp [h3]
          cases h4 : within bl 0 n with
          | false =>
            go_enter Tryz.func80, Tryz.ntmps80
            go_wp2_with fail
            refine (within_any _ _ _ _).mono ?_
            rintro e w' ⟨rfl, rfl⟩
            go_wp2_with fail
            refine (within_any _ _ _ _).mono ?_
            rintro e w' ⟨rfl, rfl⟩
            go_wp2_with fail
            refine (within_any _ _ _ _).mono ?_
            rintro e w' ⟨rfl, rfl⟩
            go_wp2_with fail
            refine (within_any _ _ _ _).mono ?_
            rintro e w' ⟨rfl, rfl⟩
            go_wp2
            go_ret
            exact ⟨by simp [stageB, h0, h1, h2, h3, h4], HB.out _ _⟩
          | true =>
            go_enter Tryz.func80, Tryz.ntmps80
            go_wp2_with fail
            refine (within_any _ _ _ _).mono ?_
            rintro e w' ⟨rfl, rfl⟩
            go_wp2_with fail
            refine (within_any _ _ _ _).mono ?_
            rintro e w' ⟨rfl, rfl⟩
            go_wp2_with fail
            refine (within_any _ _ _ _).mono ?_
            rintro e w' ⟨rfl, rfl⟩
            go_wp2_with fail
            refine (within_any _ _ _ _).mono ?_
            rintro e w' ⟨rfl, rfl⟩
            go_wp2
            go_ret
            exact ⟨by simp [stageB, h0, h1, h2, h3, h4], HB.out _ _⟩
set_option maxHeartbeats 1000000 in
theorem stage9_any (a : Addr) (n cap : Nat) (hold oil wa i o bl : Int) (w : World) (hn : 1 ≤ n) (hm : n ≤ 9223372036854775807) :
    Calls Tryz.prog 35 #[.agg #[.slice (some a) n cap, .int .i64 hold, .int .i64 oil], .agg #[.int .i64 wa, .int .i64 i, .int .i64 o, .int .i64 bl]] w fun e w' => e = .returned (.bool (stageB n wa i o bl)) ∧ Below w.heap.size w w' := by
  have hB := fun O O' => ((Below.refl w.heap.size w).alloc (Nat.le_refl _) O).alloc (by simp) O'
  have HB := Lib.hid hB
  clear hB
  cases h0 : within wa 1 1000000 with
  | false =>
    go_enter Tryz.func35, Tryz.ntmps35
    go_wp2_with fail
    refine (in_any _ _ _ _).mono ?_
    rintro e w' ⟨rfl, rfl⟩
    go_wp2
    go_ret
    exact ⟨by simp [stageB, h0], HB.out _ _⟩
  | true =>
    cases h1 : within i 0 (n - 1) with
    | false =>
      go_enter Tryz.func35, Tryz.ntmps35
      go_wp2_with fail
      refine (in_any _ _ _ _).mono ?_
      rintro e w' ⟨rfl, rfl⟩
      go_wp2_with fail
      refine (in_any _ _ _ _).mono ?_
      rintro e w' ⟨rfl, rfl⟩
      go_wp2
      go_ret
      exact ⟨by simp [stageB, h0, h1], HB.out _ _⟩
    | true =>
      cases h2 : within o 0 (n - 1) with
      | false =>
        go_enter Tryz.func35, Tryz.ntmps35
        go_wp2_with fail
        refine (in_any _ _ _ _).mono ?_
        rintro e w' ⟨rfl, rfl⟩
        go_wp2_with fail
        refine (in_any _ _ _ _).mono ?_
        rintro e w' ⟨rfl, rfl⟩
        go_wp2_with fail
        refine (in_any _ _ _ _).mono ?_
        rintro e w' ⟨rfl, rfl⟩
        go_wp2
        go_ret
        exact ⟨by simp [stageB, h0, h1, h2], HB.out _ _⟩
      | true =>
        by_cases h3 : i = o
        · have d3 : (i != o) = false := by simp [h3]
          have d4 : (i == o) = true := by simp [h3]
          have H3 := Lib.hid h3
          clear h3
          go_enter Tryz.func35, Tryz.ntmps35
          go_wp2_with fail
          refine (in_any _ _ _ _).mono ?_
          rintro e w' ⟨rfl, rfl⟩
          go_wp2_with fail
          refine (in_any _ _ _ _).mono ?_
          rintro e w' ⟨rfl, rfl⟩
          go_wp2_with fail
          refine (in_any _ _ _ _).mono ?_
          rintro e w' ⟨rfl, rfl⟩
          go_wp2
          go_ret
          exact ⟨by simp [stageB, h0, h1, h2, H3.out], HB.out _ _⟩
        · have d3 : (i != o) = true := by simp [h3]
          have d4 : (i == o) = false := by simp [h3]
          cases h4 : within bl 0 n with
          | false =>
            go_enter Tryz.func35, Tryz.ntmps35
            go_wp2_with fail
            refine (in_any _ _ _ _).mono ?_
            rintro e w' ⟨rfl, rfl⟩
            go_wp2_with fail
            refine (in_any _ _ _ _).mono ?_
            rintro e w' ⟨rfl, rfl⟩
            go_wp2_with fail
            refine (in_any _ _ _ _).mono ?_
            rintro e w' ⟨rfl, rfl⟩
            go_wp2_with fail
            refine (in_any _ _ _ _).mono ?_
            rintro e w' ⟨rfl, rfl⟩
            go_wp2
            go_ret
            exact ⟨by simp [stageB, h0, h1, h2, h3, h4], HB.out _ _⟩
          | true =>
            go_enter Tryz.func35, Tryz.ntmps35
            go_wp2_with fail
            refine (in_any _ _ _ _).mono ?_
            rintro e w' ⟨rfl, rfl⟩
            go_wp2_with fail
            refine (in_any _ _ _ _).mono ?_
            rintro e w' ⟨rfl, rfl⟩
            go_wp2_with fail
            refine (in_any _ _ _ _).mono ?_
            rintro e w' ⟨rfl, rfl⟩
            go_wp2_with fail
            refine (in_any _ _ _ _).mono ?_
            rintro e w' ⟨rfl, rfl⟩
            go_wp2
            go_ret
            exact ⟨by simp [stageB, h0, h1, h2, h3, h4], HB.out _ _⟩
end Go.Proofs.W

namespace Go.Proofs.W
open Go.RowKit
theorem Sl.alloc {w : World} {v : Value} {n : Nat} {F : Nat → Nat → Int} (hs : Sl w v n F) (O : Obj) : Sl (w.alloc O) v n F := by
  rcases hs with h | ⟨b, off, cap, h1, h2, h3, h4, h5⟩
  · exact .inl h
  · exact .inr ⟨b, off, cap, h1, by simp; omega, h3, h4, fun i j hi hj => by rw [World.cell?_of_block (a := ⟨b, off + (i * 7 + j), none⟩) (heap_alloc_old w _ h2)]; exact h5 i j hi hj⟩
theorem Sl.below {w w' : World} {v : Value} {n : Nat} {F : Nat → Nat → Int} (hs : Sl w v n F) (hb : Below w.heap.size w w') : Sl w' v n F := by
  rcases hs with h | ⟨b, off, cap, h1, h2, h3, h4, h5⟩
  · exact .inl h
  · exact .inr ⟨b, off, cap, h1, by have := hb.size; omega, h3, h4, fun i j hi hj => by rw [hb.cell (p := ⟨b, off + (i * 7 + j), none⟩) h2]; exact h5 i j hi hj⟩
theorem short_any (v : Value) (n : Nat) (hold oil : Int) (F : Nat → Nat → Int) (w : World) (hs : Sl w v n F) :
    Calls Tryz.prog 19 #[.agg #[v, .int .i64 hold, .int .i64 oil]] w fun e w' => e = .returned (.bool (decide ((n : Int) ≤ 20))) ∧ Below w.heap.size w w' := by
  rcases hs with ⟨a, cap, rfl, rfl⟩ | ⟨b, off, cap, rfl, hb, hcap, hmax, hs⟩
  · go_enter Tryz.func19, Tryz.ntmps19
    go_wp2
    go_ret
    exact ⟨by simp, (Below.refl _ _).alloc (Nat.le_refl _) _⟩
  · go_enter Tryz.func19, Tryz.ntmps19
    go_wp2
    go_ret
    exact ⟨by simp, (Below.refl _ _).alloc (Nat.le_refl _) _⟩
end Go.Proofs.W

namespace Go.Proofs.W
open Go.RowKit
theorem gcd_step (a b : Nat) : Nat.gcd b (a % b) = Nat.gcd a b := by
  rw [Nat.gcd_comm b (a % b), ← Nat.gcd_rec b a, Nat.gcd_comm b a]
theorem gcd_any : ∀ (m : Nat) (a b : Nat) (w : World), b ≤ m → a ≤ 9223372036854775807 → b ≤ 9223372036854775807 → Calls Tryz.prog 160 #[.int .i64 a, .int .i64 b] w fun e w' => e = .returned (.int .i64 (Nat.gcd a b : Nat)) ∧ w = w'
  | 0, a, b, w, h, ha, hb => by
    obtain rfl : b = 0 := by omega
    go_enter Tryz.func160, Tryz.ntmps160
    go_wp2
    go_ret
    exact ⟨by simp, rfl⟩
  | m + 1, a, b, w, h, ha, hb => by
    by_cases h0 : b = 0
    · subst h0
      go_enter Tryz.func160, Tryz.ntmps160
      go_wp2
      go_ret
      exact ⟨by simp, rfl⟩
    · have hlt : a % b < b := Nat.mod_lt _ (by omega)
      have ih := gcd_any m b (a % b) w (by omega) hb (by omega)
      have IH := Lib.hid ih
      clear ih
      have hpos : (0 : Int) < (b : Int) := by omega
      have hne : ((b : Int) == 0) = false := by simp; omega
      have G := Lib.hid (gcd_step a b)
      clear h0
      go_enter Tryz.func160, Tryz.ntmps160
      go_wp2_with fail
      have e : ((a : Int) % (b : Int)) = ((a % b : Nat) : Int) := by simp
      rw [e]
      clear e
      refine IH.out.mono ?_
      rintro e w' ⟨rfl, rfl⟩
      go_wp2
      go_ret
      exact ⟨by rw [← G.out]; rfl, rfl⟩
theorem divisor_any (a b : Nat) (w : World) (ha : a ≤ 9223372036854775807) (hb : b ≤ 9223372036854775807) : Calls Tryz.prog 159 #[.int .i64 a, .int .i64 b] w fun e w' => e = .returned (.int .i64 (Nat.gcd a b : Nat)) ∧ Below w.heap.size w w' := by
  go_enter Tryz.func159, Tryz.ntmps159
  go_wp2
  go_loopw [0, 1] (fun x y wr => ∃ p q : Nat, p ≤ 9223372036854775807 ∧ q ≤ 9223372036854775807 ∧ x = .int .i64 p ∧ y = .int .i64 q ∧ Nat.gcd p q = Nat.gcd a b ∧ Below w.heap.size w wr) (fun _ y _ => (intOf y).toNat)
  case atStart => exact ⟨a, b, ha, hb, rfl, rfl, rfl, Below.refl _ _⟩
  case round =>
    obtain ⟨p, q, hp, hq, rfl, rfl, hg, hbel⟩ := hrel
    have HG := Lib.hid hg
    clear hg
    by_cases h0 : q = 0
    · subst h0
      go_wp2
      go_ret
      exact ⟨by rw [← HG.out]; simp, hbel⟩
    · have hpos : (0 : Int) < (q : Int) := by omega
      have hlt : p % q < q := Nat.mod_lt _ (by omega)
      have G := Lib.hid (gcd_step p q)
      clear h0
      go_wp2
      go_region
      go_wp2
      go_roundw
      case rel => exact ⟨q, p % q, hq, by omega, rfl, by simp, by rw [G.out, HG.out], hbel.drew⟩
      case measure =>
        have e : ((p : Int) % (q : Int)) = ((p % q : Nat) : Int) := by simp
        simp only [intOf]
        simp
        omega
end Go.Proofs.W

