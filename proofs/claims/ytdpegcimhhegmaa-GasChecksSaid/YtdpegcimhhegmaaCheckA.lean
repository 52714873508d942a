import Derived.Test.YtdpegcimhhegmaaProg
import Derived.WalkKit
import Derived.LoopTactic
import Derived.BigQuiet
import Derived.Deep.QuietTactic
import Derived.Outline
import Derived.Lib.Hide
import Derived.Handy
set_option linter.unusedVariables false
set_option linter.unusedSimpArgs false
set_option linter.unusedSectionVars false
section
/- The greatest common divisor: the specification's recursion, and the loop that reduces a fraction. -/
namespace Go.Ev.Gas
open Go.RowKit Go.Proofs
theorem gcd_step (a b : Nat) : Nat.gcd b (a % b) = Nat.gcd a b := by
  rw [Nat.gcd_comm b (a % b), ← Nat.gcd_rec b a, Nat.gcd_comm b a]
theorem gcd_any : ∀ (m : Nat) (a b : Nat) (w : World), b ≤ m → a ≤ 9223372036854775807 → b ≤ 9223372036854775807 → Calls Try.prog 90 #[.int .i64 a, .int .i64 b] w fun e w' => e = .returned (.int .i64 (Nat.gcd a b : Nat)) ∧ w = w'
  | 0, a, b, w, h, ha, hb => by
    obtain rfl : b = 0 := by omega
    go_enter Try.func90, Try.ntmps90
    go_wp2
    go_ret
    exact ⟨by simp, rfl⟩
  | m + 1, a, b, w, h, ha, hb => by
    by_cases h0 : b = 0
    · subst h0
      go_enter Try.func90, Try.ntmps90
      go_wp2
      go_ret
      exact ⟨by simp, rfl⟩
    · have hlt : a % b < b := Nat.mod_lt _ (by omega)
      have ih := gcd_any m b (a % b) w (by omega) hb (by omega)
      have IH := Lib.hid ih
      clear ih
      have hpos : (0 : Int) < (b : Int) := by omega
      have hne : ((b : Int) == 0) = false := by simp; omega
      have G := Lib.hid (gcd_step a b)
      clear h0
      go_enter Try.func90, Try.ntmps90
      go_wp2_with fail
      have e : ((a : Int) % (b : Int)) = ((a % b : Nat) : Int) := by simp
      rw [e]
      clear e
      refine IH.out.mono ?_
      rintro e w' ⟨rfl, rfl⟩
      go_wp2
      go_ret
      exact ⟨by rw [← G.out]; rfl, rfl⟩
end Go.Ev.Gas
end

section
namespace Go.Ev.Gas
open Go.RowKit Go.Proofs
set_option maxRecDepth 100000
theorem below_drewn {n : Nat} {w w' : World} (h : Below n w w') : ∀ k, Below n w (w'.drewN k)
  | 0 => h
  | k + 1 => (below_drewn h k).drew
theorem results_c {P : Program} {fn : Func} {p : Tmp} {ty : TypeId} (h : fn.results = #[.cell p ty]) (tmps : Array Value) (w : World) (g : Nat) (t : TypeId) (cs : Array Value) (fr : Nat × Nat) (d : TypeDesc)
    (hp : tmps.getD p undef = .pointer (some ⟨g, 0, none⟩)) (hg : w.heap[g]? = some (.cells cs t fr))
    (hu : P.underlying ty = some d) (hd : (match d with | .struct _ | .array _ _ => true | _ => false) = true) (hi : (P.info? ty).map (·.size) = some cs.size) :
    (results fn tmps).run P w = .ok (.agg cs) w := by
  have hp' : tmps[p]?.getD undef = .pointer (some ⟨g, 0, none⟩) := by simpa using hp
  simp [results, h, hp', asAddr, run_loadVar_row w g t ty cs fr d hg hu hd hi, Sem.run_bind, Result.andThen]
theorem reduced_any (a b : Nat) (w : World) (ha : a ≤ 9223372036854775807) (hb : b ≤ 9223372036854775807) (hb0 : 0 < b) :
    Calls Try.prog 99 #[.agg #[.int .i64 a, .int .i64 b]] w fun e w' => e = .returned (.agg #[.int .i64 ((a / Nat.gcd a b : Nat) : Int), .int .i64 ((b / Nat.gcd a b : Nat) : Int)]) ∧ Below w.heap.size w w' := by
  go_enter Try.func99, Try.ntmps99
  go_wp2
  go_region
  go_wp2
  go_loopw [3, 4] (fun x y wr => ∃ p q : Nat, p ≤ 9223372036854775807 ∧ q ≤ 9223372036854775807 ∧ x = .int .i64 p ∧ y = .int .i64 q ∧ Nat.gcd p q = Nat.gcd a b ∧ ∃ k, wr = (((w.alloc (Obj.cells #[Value.int IntKind.i64 a, Value.int IntKind.i64 b] 126)).alloc (Obj.cells #[Value.int IntKind.i64 0, Value.int IntKind.i64 0] 126))).drewN k) (fun _ y _ => (intOf y).toNat)
  case atStart => exact ⟨b, a, hb, ha, rfl, rfl, by rw [Nat.gcd_comm], 1, rfl⟩
  case round =>
    obtain ⟨p, q, hp, hq, rfl, rfl, hg, k, rfl⟩ := hrel
    have HG := Lib.hid hg
    clear hg
    by_cases h0 : q = 0
    · subst h0
      have hp0 : p = Nat.gcd a b := by have := HG.out; simpa using this
      have hpos : (0 : Int) < (p : Int) := by have := Nat.gcd_pos_of_pos_right a hb0; omega
      have E := Lib.hid hp0
      clear hp0 HG
      go_wp2
      have wr : ∀ n : Nat, n ≤ 9223372036854775807 → wrap64 ((n : Int) / (p : Int)) = ((n / p : Nat) : Int) := fun n hn => by
        have : n / p ≤ n := Nat.div_le_self n p
        rw [show ((n : Int) / (p : Int)) = ((n / p : Nat) : Int) by simp]
        generalize n / p = x at *
        simp only [wrap64]; omega
      have WA := Lib.hid (wr a ha)
      have WB := Lib.hid (wr b hb)
      clear wr
      go_region
      go_wp2
      rw [WA.out, WB.out]
      have e0 : (((w.alloc (Obj.cells #[Value.int IntKind.i64 ↑a, Value.int IntKind.i64 ↑b] 126)).alloc (Obj.cells #[Value.int IntKind.i64 0, Value.int IntKind.i64 0] 126)).drewN (k + 1)).heap[w.heap.size + 1]? = some (.cells #[Value.int IntKind.i64 0, Value.int IntKind.i64 0] 126 (0, 0)) := by
        have := heap_alloc_new (w.alloc (Obj.cells #[Value.int IntKind.i64 ↑a, Value.int IntKind.i64 ↑b] 126)) (Obj.cells #[Value.int IntKind.i64 0, Value.int IntKind.i64 0] 126)
        simpa using this
      have e1 := heap_setCell_same _ _ 0 _ 126 (.int .i64 ((a / p : Nat) : Int)) e0
      have e2 := heap_setCell_same _ _ 1 _ 126 (.int .i64 ((b / p : Nat) : Int)) e1
      refine bodyPost_ret (results_c rfl _ _ _ _ _ _ _ rfl e2 Try.underlying126 rfl (by kernel_rfl)) rfl ⟨?_, ?_⟩
      · rw [E.out]; rfl
      · exact (((below_drewn (((Below.refl w.heap.size w).alloc (Nat.le_refl _) _).alloc (by simp) _) _).setCell (by simp) _).setCell (by simp) _)
    · have hpos : (0 : Int) < (q : Int) := by omega
      have hlt : p % q < q := Nat.mod_lt _ (by omega)
      have G := Lib.hid (gcd_step p q)
      clear h0
      go_wp2
      go_region
      go_wp2
      go_roundw
      case rel => exact ⟨q, p % q, hq, by omega, rfl, by simp, by rw [G.out, HG.out], k + 1, rfl⟩
      case measure =>
        have e : ((p : Int) % (q : Int)) = ((p % q : Nat) : Int) := by simp
        simp only [intOf]
        simp
        omega
end Go.Ev.Gas
end

section
namespace Go.Ev.Gas
open Go.RowKit Go.Proofs
set_option maxRecDepth 100000
theorem frac_any (a b : Nat) (w : World) (ha : a ≤ 9223372036854775807) (hb : b ≤ 9223372036854775807) (hb0 : 0 < b) :
    Calls Try.prog 63 #[.int .i64 a, .int .i64 b] w fun e w' => e = .returned (.agg #[.int .i64 ((a / Nat.gcd a b : Nat) : Int), .int .i64 ((b / Nat.gcd a b : Nat) : Int)]) ∧ Below w.heap.size w w' := by
  have hg := Nat.gcd_pos_of_pos_right a hb0
  have G := Lib.hid (fun w => gcd_any b a b w (Nat.le_refl _) ha hb)
  have hp : ∃ p, p = Nat.gcd a b := ⟨_, rfl⟩
  obtain ⟨p, hp⟩ := hp
  have hpos : (0 : Int) < (p : Int) := by omega
  have E := Lib.hid hp
  have wr : ∀ n : Nat, n ≤ 9223372036854775807 → wrap64 ((n : Int) / (p : Int)) = ((n / p : Nat) : Int) := fun n hn => by
    have : n / p ≤ n := Nat.div_le_self n p
    rw [show ((n : Int) / (p : Int)) = ((n / p : Nat) : Int) by simp]
    generalize n / p = x at *
    simp only [wrap64]; omega
  have WA := Lib.hid (wr a ha)
  have WB := Lib.hid (wr b hb)
  clear wr
  clear hp hg
  go_enter Try.func63, Try.ntmps63
  go_wp2_with fail
  refine (G.out _).mono ?_
  rintro e w' ⟨rfl, rfl⟩
  rw [← E.out]
  go_wp2
  go_region
  go_wp2
  rw [WA.out, WB.out]
  have e2 : (w.alloc (Obj.cells #[Value.int IntKind.i64 ((a / p : Nat) : Int), Value.int IntKind.i64 ((b / p : Nat) : Int)] 32)).drew.heap[w.heap.size]? = some (.cells #[Value.int IntKind.i64 ((a / p : Nat) : Int), Value.int IntKind.i64 ((b / p : Nat) : Int)] 32 (0, 0)) := by
    exact heap_alloc_new w (Obj.cells #[Value.int IntKind.i64 ((a / p : Nat) : Int), Value.int IntKind.i64 ((b / p : Nat) : Int)] 32)
  exact bodyPost_ret (results_c rfl _ _ _ _ _ _ _ rfl e2 Try.underlying32 rfl (by kernel_rfl)) rfl ⟨by rw [← E.out], ((Below.refl w.heap.size w).alloc (Nat.le_refl _) _).drew⟩
end Go.Ev.Gas
end

