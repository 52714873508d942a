import Derived.Test.YtdpegcimhhegmaaRefC
import Derived.Test.YtdpegcimhhegmaaMoreA
import Derived.Test.YtdpegcimhhegmaaMoreV
import Derived.Laws.OwnMore
import Derived.Deep.MidRow
set_option linter.unusedVariables false
set_option linter.unusedSimpArgs false
set_option linter.unusedSectionVars false
noncomputable section
set_option maxRecDepth 100000
namespace Go.Ev.Gas
open Go.RowKit Go.Ev.Num Go.Proofs
/-! ### What the code's own checks say -/
theorem r54 : isRes (kT 54 cavA).res (runK P L true [] [] gCav (kT 54 cavA)) = true := by decide +kernel
theorem r55 : isRes (kT 55 stA).res (runK P L true [] [] gSt (kT 55 stA)) = true := by decide +kernel
theorem r67a : isRes (kT 67 inA).res (runK P L true [] [] plain (kT 67 inA)) = true := by decide +kernel
theorem r67b : isRes (kT 67 wiA).res (runK P L true [] [] plain (kT 67 wiA)) = true := by decide +kernel
theorem r67c : isRes (kT 67 reA).res (runK P L true [] [] gRe (kT 67 reA)) = true := by decide +kernel
theorem says54 {z : Nat → Int} (hz : ints z) : (cavP z → Says 54 (cavV z) true) ∧ (¬ cavP z → Says 54 (cavV z) false) :=
  ⟨fun hc => says_of (con_of_run (H := fun _ => True) fbT rfl no_k no_p (fun _ _ => trivial) r54) z (holds_of (G := gCav) trivial (lts_cav hc) trivial trivial) (vr_cav hc),
   fun hc => says_of no54 z hc (raw_c hz)⟩
theorem says55 {z : Nat → Int} (hz : ints z) : (stP z → Says 55 (stV z) true) ∧ (¬ stP z → Says 55 (stV z) false) :=
  ⟨fun hs => says_of (con_of_run (H := fun _ => True) fbT rfl no_k no_p (fun _ _ => trivial) r55) z (holds_of (G := gSt) trivial (by simp only [stP] at hs; exact ⟨hs.1.2.1, hs.2.1.2.1, hs.2.2.1.2.1, hs.2.2.2.2.1, trivial⟩) trivial trivial) (vr_st hs),
   fun hs => says_of no55 z hs (raw_s hz)⟩
theorem says67 {z : Nat → Int} (hz : ints z) : (opP z → Says 67 (opV z) true) ∧ (¬ opP z → Says 67 (opV z) false) := by
  refine ⟨fun ho => ?_, fun ho => says_of no67 z ho (raw_o hz)⟩
  rcases ho with h | h | h
  · exact says_of (con_of_run (H := fun _ => True) fbT rfl no_k no_p (fun _ _ => trivial) r67a) z (plain_holds _) (vr_inj (m := 1000000) h (by simp only [op1] at h; omega) (by simp only [op1] at h; omega))
  · exact says_of (con_of_run (H := fun _ => True) fbT rfl no_k no_p (fun _ _ => trivial) r67b) z (plain_holds _) (vr_wit (m := 2000000) h (by simp only [op2] at h; omega))
  · exact says_of (con_of_run (H := fun _ => True) fbT rfl no_k no_p (fun _ _ => trivial) r67c) z (holds_of (G := gRe) trivial (by simp only [op3] at h; exact ⟨h.2.2.2.2.2.2.1.2.1, h.2.2.2.2.2.2.2.2.1, trivial⟩) trivial trivial) (vr_rst h)

/-! ### The specification's operation, where it cannot be done -/
theorem refno_rest {z : Nat → Int} (hc : cavP z) (hs : stP z) (ho : op3 z) (hw : ¬ z 18 + z 27 ≤ 1000000000) : NoRef z := by
  have hv : VRs (envZ (zR z)) a_RA (#[cavV z, stV z, opV z] : Array Value).toList :=
    three (vr_cav (z := zR z) hc) (vr_st (z := zR z) hs) (vr_rst (z := zR z) ho)
  refine no_of (a := jR z) (gives_of c31_RW rfl rfl rfl (zR z) (holds_RW hc hs ho (show 1000000000 < z 18 + z 27 by omega)) _ hv) rfl ?_
  have hc' := hc; have hs' := hs; have ho' := ho
  simp only [cavP, stP, op3] at hc' hs' ho'
  have q : ∀ (t s : Nat), 0 ≤ z s → z s ≤ 1000 → 2000 ≤ z t → z t ≤ 5000 → 2000 ≤ nr z t s ∧ nr z t s ≤ 5000 := fun t s a b c d => near_in a b (by omega) (by omega) c d
  have q1 := q 15 24 (by omega) (by omega) (by omega) (by omega)
  have q2 := q 15 25 (by omega) (by omega) (by omega) (by omega)
  have q3 := q 16 24 (by omega) (by omega) (by omega) (by omega)
  have q4 := q 16 25 (by omega) (by omega) (by omega) (by omega)
  have a := sx3_in (lo := 0) (hi := 200000000000) (a := nr z 15 24) (b := nr z 15 25) (by omega) (by omega)
  have b := sx4_in (lo := 0) (hi := 200000000000) (a := nr z 16 24) (b := nr z 16 25) (by omega) (by omega)
  intro i
  unfold jR
  split <;> first | exact a | exact b | omega
theorem ref_not {z : Nat → Int} (hc : cavP z) (hs : stP z) (ho : opP z) (h : ¬ can z) : NoRef z := by
  rcases ho with k | k | k
  · exact ref_big hc hs (.inl (by simp only [op1] at k; simp only [op1b]; omega)) h
  · exact ref_big hc hs (.inr (by simp only [op2] at k; simp only [op2b]; omega)) h
  · exact refno_rest hc hs k fun hn => h (.inr (.inr ⟨k.1, hn⟩))

/-! ### A cavern, a state and an operation, apart -/
def zz (c s o : Nat → Int) (m : Nat) : Int := if m < 11 then c m else if m < 19 then s (m - 11) else if m < 28 then o (m - 18) else if m = 28 then o 0 else 0
def oV (o : Nat → Int) : Value := .agg [vi (o 0), vi (o 1), vi (o 2), vi (o 3), vi (o 4), vi (o 5), vi (o 6), vi (o 7), vi (o 8), vi (o 9)].toArray
theorem zz_cav (c s o : Nat → Int) : cavV (zz c s o) = cavV c := rfl
theorem zz_st (c s o : Nat → Int) : stV (zz c s o) = sV s := rfl
theorem zz_op (c s o : Nat → Int) : opV (zz c s o) = oV o := rfl
def opOk (o : Nat → Int) : Prop := opP (zz zeros zeros o)
theorem zz_cavP (c s o : Nat → Int) : cavP (zz c s o) ↔ cavP c := Iff.rfl
theorem zz_stP (c s o : Nat → Int) : stP (zz c s o) ↔ StI s := Iff.rfl
theorem zz_opP (c s o : Nat → Int) : opP (zz c s o) ↔ opOk o := Iff.rfl
theorem zz_ints {c s o : Nat → Int} (hc : ints c) (hs : ints s) (ho : ints o) : ints (zz c s o) := fun m => by
  unfold zz
  split
  · exact hc _
  split
  · exact hs _
  split
  · exact ho _
  split
  · exact ho _
  · omega
/-- Whether an operation can be done at a state, and what is behind it. -/
def canO (c s o : Nat → Int) : Prop := can (zz c s o)
def aftO (c s o : Nat → Int) : Nat → Int := aft (zz c s o)
def gonO (c s o : Nat → Int) : Nat → Int := gon (zz c s o)
theorem aftO_in {c s o : Nat → Int} (hc : cavP c) (hs : StI s) (ho : opOk o) (h : canO c s o) : StI (aftO c s o) ∧ GoI (gonO c s o) :=
  aft_in ((zz_cavP c s o).2 hc) ((zz_stP c s o).2 hs) ((zz_opP c s o).2 ho) h
def Ret (f : Nat) (vs : Array Value) (r : Value) : Prop := ∀ w, Calls P f vs w fun e w' => e = .returned r ∧ Below w.heap.size w w'
theorem ret_of {f : Nat} {vs : Array Value} {r : Value} (h : Gives (Fence.there P) f vs r) : Ret f vs r := fun w => (h 0 w).calls (room_there P)
section
variable {c s o : Nat → Int} (hc : cavP c) (hs : StI s) (ho : opOk o)
include hc hs ho
theorem do68 (h : canO c s o) : Ret 68 #[cavV c, sV s, oV o] (ansV (aftO c s o) (gonO c s o) (.bool true)) :=
  ret_of ((do_all ((zz_cavP c s o).2 hc) ((zz_stP c s o).2 hs) ((zz_opP c s o).2 ho)).1 h).1
theorem no68 (h : ¬ canO c s o) : Ret 68 #[cavV c, sV s, oV o] (ansV zeros zeros (.bool false)) :=
  ret_of ((do_all ((zz_cavP c s o).2 hc) ((zz_stP c s o).2 hs) ((zz_opP c s o).2 ho)).2 h).1
theorem do29 (h : canO c s o) : Ret 29 #[cavV c, sV s, oV o] (ansV (aftO c s o) (gonO c s o) (vi 0)) :=
  ret_of ((do_all ((zz_cavP c s o).2 hc) ((zz_stP c s o).2 hs) ((zz_opP c s o).2 ho)).1 h).2
theorem do31 (h : canO c s o) : Ret 31 #[cavV c, sV s, oV o] (ansV (aftO c s o) (gonO c s o) (.bool true)) :=
  ret_of (ref_can ((zz_cavP c s o).2 hc) ((zz_stP c s o).2 hs) ((zz_opP c s o).2 ho) h)
theorem no31 (h : ¬ canO c s o) : ∃ a, Ret 31 #[cavV c, sV s, oV o] (ansV a zeros (.bool false)) := by
  obtain ⟨a, _, h⟩ := ref_not ((zz_cavP c s o).2 hc) ((zz_stP c s o).2 hs) ((zz_opP c s o).2 ho) h
  exact ⟨a, ret_of h⟩
end
/-! ### The states behind operations -/
def sts (c s : Nat → Int) (O : Nat → Nat → Int) : Nat → Nat → Int
  | 0 => s
  | i + 1 => aftO c (sts c s O i) (O i)
def canI (c s : Nat → Int) (O : Nat → Nat → Int) (i : Nat) : Prop := canO c (sts c s O i) (O i)
theorem sts_in {c s : Nat → Int} {O : Nat → Nat → Int} (hc : cavP c) (hs : StI s) : ∀ k, (∀ i, i < k → opOk (O i) ∧ canI c s O i) → StI (sts c s O k)
  | 0, _ => hs
  | k + 1, h => (aftO_in hc (sts_in hc hs k fun i hi => h i (by omega)) (h k (by omega)).1 (h k (by omega)).2).1
/-- Where the operations stop: the first one that cannot be done, or all are done. -/
def Stop (c s : Nat → Int) (O : Nat → Nat → Int) (n k : Nat) : Prop := k ≤ n ∧ (∀ i, i < k → canI c s O i) ∧ (k < n → ¬ canI c s O k)
open Classical in
theorem stop_is (c s : Nat → Int) (O : Nat → Nat → Int) : ∀ n, ∃ k, Stop c s O n k
  | 0 => ⟨0, Nat.le_refl _, fun i hi => absurd hi (by omega), fun h => absurd h (by omega)⟩
  | n + 1 => by
    obtain ⟨k, h1, h2, h3⟩ := stop_is c s O n
    by_cases hk : k < n
    · exact ⟨k, by omega, h2, fun _ => h3 hk⟩
    · have e : k = n := by omega
      subst e
      by_cases h : canI c s O k
      · exact ⟨k + 1, Nat.le_refl _, fun i hi => by
          by_cases e : i = k
          · subst e; exact h
          · exact h2 i (by omega), fun h => absurd h (by omega)⟩
      · exact ⟨k, by omega, h2, fun _ => h⟩
theorem sts_add (c s : Nat → Int) (O : Nat → Nat → Int) (a : Nat) : ∀ i, sts c s O (a + i) = sts c (sts c s O a) (fun j => O (a + j)) i
  | 0 => rfl
  | i + 1 => by
    show aftO c (sts c s O (a + i)) (O (a + i)) = aftO c (sts c (sts c s O a) _ i) (O (a + i))
    rw [sts_add c s O a i]
end Go.Ev.Gas
end

section
set_option maxRecDepth 100000
namespace Go.Ev.Gas
open Go.RowKit Go.Ev.Num Go.Proofs
/-! ### Lists of structs of ints -/
def SLAt (sz : Nat) (w : World) (b off n : Nat) (F : Nat → Nat → Int) : Prop := ∀ i j, i < n → j < sz → w.cell? ⟨b, off + (i * sz + j), none⟩ = some (vi (F i j))
def SL (sz : Nat) (w : World) (v : Value) (n : Nat) (F : Nat → Nat → Int) : Prop :=
  (∃ (a : Option Addr) (cap : Nat), v = .slice a 0 cap ∧ n = 0) ∨ ∃ b off cap, v = .slice (some ⟨b, off, none⟩) n cap ∧ b < w.heap.size ∧ n ≤ cap ∧ n ≤ 9223372036854775807 ∧ SLAt sz w b off n F
theorem SL.alloc {sz : Nat} {w : World} {v : Value} {m : Nat} {S : Nat → Nat → Int} (hs : SL sz w v m S) (O : Obj) : SL sz (w.alloc O) v m S := by
  rcases hs with h | ⟨b, off, cap, h1, h2, h3, h4, h5⟩
  · exact .inl h
  · exact .inr ⟨b, off, cap, h1, by simp; omega, h3, h4, fun i j hi hj => by rw [World.cell?_of_block (a := ⟨b, off + (i * sz + j), none⟩) (heap_alloc_old w _ h2)]; exact h5 i j hi hj⟩
theorem SL.below {sz : Nat} {w w' : World} {v : Value} {m : Nat} {S : Nat → Nat → Int} (hs : SL sz w v m S) (hb : Below w.heap.size w w') : SL sz w' v m S := by
  rcases hs with h | ⟨b, off, cap, h1, h2, h3, h4, h5⟩
  · exact .inl h
  · exact .inr ⟨b, off, cap, h1, by have := hb.size; omega, h3, h4, fun i j hi hj => by rw [hb.cell (p := ⟨b, off + (i * sz + j), none⟩) h2]; exact h5 i j hi hj⟩
theorem SL.len {sz : Nat} {w : World} {v : Value} {n : Nat} {F : Nat → Nat → Int} (h : SL sz w v n F) : ∃ a cap, v = .slice a n cap := by
  rcases h with ⟨a, cap, h1, h2⟩ | ⟨b, off, cap, h1, _⟩
  · subst h2; exact ⟨a, cap, h1⟩
  · exact ⟨_, cap, h1⟩
theorem SL.congr {sz : Nat} {w : World} {v : Value} {n : Nat} {F G : Nat → Nat → Int} (h : SL sz w v n F) (e : ∀ i j, i < n → F i j = G i j) : SL sz w v n G := by
  rcases h with h | ⟨b, off, cap, h1, h2, h3, h4, h5⟩
  · exact .inl h
  · exact .inr ⟨b, off, cap, h1, h2, h3, h4, fun i j hi hj => by rw [h5 i j hi hj, e i j hi]⟩
/-- The cells of the first elements. -/
def rowOf (sz : Nat) (F : Nat → Nat → Int) : Nat → List Value
  | 0 => []
  | n + 1 => rowOf sz F n ++ (List.range sz).map fun j => vi (F n j)
theorem rowOf_len (sz : Nat) (F : Nat → Nat → Int) : ∀ n, (rowOf sz F n).length = n * sz
  | 0 => by simp [rowOf]
  | n + 1 => by simp [rowOf, rowOf_len sz F n, Nat.succ_mul]
theorem rowOf_get (sz : Nat) (F : Nat → Nat → Int) : ∀ (n i j : Nat), i < n → j < sz → (rowOf sz F n)[i * sz + j]? = some (vi (F i j))
  | 0, i, j, hi, _ => absurd hi (by omega)
  | n + 1, i, j, hi, hj => by
    have hl := rowOf_len sz F n
    unfold rowOf
    by_cases h : i < n
    · have : i * sz + j < n * sz := by
        have := Nat.mul_le_mul_right sz (show i + 1 ≤ n by omega)
        rw [Nat.succ_mul] at this; omega
      rw [List.getElem?_append_left (by omega)]
      exact rowOf_get sz F n i j h hj
    · have e : i = n := by omega
      subst e
      rw [List.getElem?_append_right (by omega), hl, Nat.add_sub_cancel_left]
      simp [hj]
theorem own_sl {sz base e : Nat} {w : World} {v : Value} {n : Nat} {F : Nat → Nat → Int} (h : w.ownsRow base e sz v n (rowOf sz F n)) (hn : n ≤ 9223372036854775807) : SL sz w v n F := by
  have h0 := h
  obtain ⟨_, ⟨rfl, rfl⟩ | ⟨g, cap, cur, rfl, h2, h3, h4, h5, h6, h7⟩⟩ := h
  · exact .inl ⟨none, 0, rfl, rfl⟩
  · by_cases hz : n = 0
    · subst hz; exact .inl ⟨_, _, rfl, rfl⟩
    · refine .inr ⟨g, 0, cap, rfl, ?_, h4, hn, fun i j hi hj => ?_⟩
      · have := Array.getElem?_eq_some_iff.1 h3; exact this.1
      · have hlt : i * sz + j < n * sz := by
          have := Nat.mul_le_mul_right sz (show i + 1 ≤ n by omega)
          rw [Nat.succ_mul] at this; omega
        rw [Nat.zero_add, h0.cellAt _ hlt]
        exact rowOf_get sz F n i j hi hj
end Go.Ev.Gas
end

section
set_option maxRecDepth 100000
namespace Go.Ev.Gas
open Go.RowKit Go.Ev.Num Go.Proofs
/-! ### A row of eight numbers that is written anew -/
def arr8 (a : Nat → Int) : Array Value := #[vi (a 0), vi (a 1), vi (a 2), vi (a 3), vi (a 4), vi (a 5), vi (a 6), vi (a 7)]
def St8 (w : World) (b : Nat) (a : Nat → Int) : Prop := w.heap[b]? = some (.cells (arr8 a) 28 (0, 0))
def set8 (w : World) (b : Nat) (a : Nat → Int) : World :=
  (((((((w.setCell ⟨b, 0, none⟩ (vi (a 0))).setCell ⟨b, 1, none⟩ (vi (a 1))).setCell ⟨b, 2, none⟩ (vi (a 2))).setCell ⟨b, 3, none⟩ (vi (a 3))).setCell ⟨b, 4, none⟩ (vi (a 4))).setCell ⟨b, 5, none⟩ (vi (a 5))).setCell ⟨b, 6, none⟩ (vi (a 6))).setCell ⟨b, 7, none⟩ (vi (a 7))
theorem St8.lt {w : World} {b : Nat} {a : Nat → Int} (h : St8 w b a) : b < w.heap.size := (Array.getElem?_eq_some_iff.1 h).1
theorem St8.cell {w : World} {b : Nat} {a : Nat → Int} (h : St8 w b a) : ∀ j, j < 8 → w.cell? ⟨b, j, none⟩ = some (vi (a j)) := fun j hj => by
  have h' : w.heap[b]? = some (.cells (arr8 a) 28 (0, 0)) := h
  have e : w.cell? ⟨b, j, none⟩ = (arr8 a)[j]? := by simp only [World.cell?, h']; rfl
  rw [e]
  match j, hj with
  | 0, _ | 1, _ | 2, _ | 3, _ | 4, _ | 5, _ | 6, _ | 7, _ => rfl
theorem St8.frz {w : World} {b : Nat} {a : Nat → Int} (h : St8 w b a) : ∀ j, w.frozen? ⟨b, j, none⟩ = false := fun j => by
  have h' : w.heap[b]? = some (.cells (arr8 a) 28 (0, 0)) := h
  simp [World.frozen?, h']
theorem set8_row {w : World} {b : Nat} {a a' : Nat → Int} (h : St8 w b a) : St8 (set8 w b a') b a' := by
  have a0 := heap_setCell_same w b 0 _ 28 (vi (a' 0)) h
  have a1 := heap_setCell_same _ b 1 _ 28 (vi (a' 1)) a0
  have a2 := heap_setCell_same _ b 2 _ 28 (vi (a' 2)) a1
  have a3 := heap_setCell_same _ b 3 _ 28 (vi (a' 3)) a2
  have a4 := heap_setCell_same _ b 4 _ 28 (vi (a' 4)) a3
  have a5 := heap_setCell_same _ b 5 _ 28 (vi (a' 5)) a4
  have a6 := heap_setCell_same _ b 6 _ 28 (vi (a' 6)) a5
  have a7 := heap_setCell_same _ b 7 _ 28 (vi (a' 7)) a6
  have e : ((((((((arr8 a).setIfInBounds 0 (vi (a' 0))).setIfInBounds 1 (vi (a' 1))).setIfInBounds 2 (vi (a' 2))).setIfInBounds 3 (vi (a' 3))).setIfInBounds 4 (vi (a' 4))).setIfInBounds 5 (vi (a' 5))).setIfInBounds 6 (vi (a' 6))).setIfInBounds 7 (vi (a' 7)) = arr8 a' := by simp [arr8]
  have a8 := a7
  rw [e] at a8
  exact a8
theorem set8_old (w : World) (b : Nat) (a : Nat → Int) (k : Nat) (h : k ≠ b) : (set8 w b a).heap[k]? = w.heap[k]? := by
  unfold set8
  rw [Below.heap_setCell _ _ _ _ h, Below.heap_setCell _ _ _ _ h, Below.heap_setCell _ _ _ _ h, Below.heap_setCell _ _ _ _ h, Below.heap_setCell _ _ _ _ h, Below.heap_setCell _ _ _ _ h, Below.heap_setCell _ _ _ _ h, Below.heap_setCell _ _ _ _ h]
theorem set8_below {B : Nat} {w0 w : World} (h : Below B w0 w) {b : Nat} (hb : B ≤ b) (a : Nat → Int) : Below B w0 (set8 w b a) := by
  unfold set8
  exact (((((((h.setCell hb _).setCell hb _).setCell hb _).setCell hb _).setCell hb _).setCell hb _).setCell hb _).setCell hb _
theorem grown_of_below {w w' : World} (h : Below w.heap.size w w') : w.grownBy w' none := ⟨h.os, h.tape, h.output, h.size, fun k hk _ => h.block k hk⟩
theorem own_below {w w' : World} {base e size : Nat} {v : Value} {n : Nat} {xs : List Value} (h : w.ownsRow base e size v n xs) (hb : Below w.heap.size w w') : w'.ownsRow base e size v n xs :=
  h.kept (grown_of_below hb) (by cases v.ownBlock <;> simp)
theorem own_set8 {w : World} {base e size : Nat} {v : Value} {n : Nat} {xs : List Value} (h : w.ownsRow base e size v n xs) {b : Nat} (hb : b < base) (a : Nat → Int) : (set8 w b a).ownsRow base e size v n xs := by
  refine ⟨h.1, ?_⟩
  rcases h.2 with hn | ⟨g, cap, cur, rfl, h1, h2, rest⟩
  · exact .inl hn
  · exact .inr ⟨g, cap, cur, rfl, h1, by rw [set8_old _ _ _ _ (by omega)]; exact h2, rest⟩
theorem St8.below {w w' : World} {b : Nat} {a : Nat → Int} (h : St8 w b a) (hb : Below w.heap.size w w') : St8 w' b a := by
  unfold St8; rw [hb.block b h.lt]; exact h
theorem St8.alloc {w : World} {b : Nat} {a : Nat → Int} (h : St8 w b a) (O : Obj) : St8 (w.alloc O) b a := by
  unfold St8; rw [Below.heap_alloc _ _ _ h.lt]; exact h
theorem St8.grown {w w' : World} {row : Option Nat} {b : Nat} {a : Nat → Int} (h : St8 w b a) (hg : w.grownBy w' row) (hne : some b ≠ row) : St8 w' b a := by
  unfold St8; rw [hg.block b h.lt hne]; exact h
theorem range10 {w : World} {b o : Nat} (O : Nat → Int) (h : ∀ q, q < 10 → w.cell? ⟨b, o + q, none⟩ = some (vi (O q))) : w.rangeAt b o [vi (O 0), vi (O 1), vi (O 2), vi (O 3), vi (O 4), vi (O 5), vi (O 6), vi (O 7), vi (O 8), vi (O 9)] := fun q v hv => by
  match q, hv with
  | 0, hv => cases hv; exact h 0 (by omega)
  | 1, hv => cases hv; exact h 1 (by omega)
  | 2, hv => cases hv; exact h 2 (by omega)
  | 3, hv => cases hv; exact h 3 (by omega)
  | 4, hv => cases hv; exact h 4 (by omega)
  | 5, hv => cases hv; exact h 5 (by omega)
  | 6, hv => cases hv; exact h 6 (by omega)
  | 7, hv => cases hv; exact h 7 (by omega)
  | 8, hv => cases hv; exact h 8 (by omega)
  | 9, hv => cases hv; exact h 9 (by omega)
  | q + 10, hv => simp at hv
theorem range8 {w : World} {b o : Nat} (O : Nat → Int) (h : ∀ q, q < 8 → w.cell? ⟨b, o + q, none⟩ = some (vi (O q))) : w.rangeAt b o [vi (O 0), vi (O 1), vi (O 2), vi (O 3), vi (O 4), vi (O 5), vi (O 6), vi (O 7)] := fun q v hv => by
  match q, hv with
  | 0, hv => cases hv; exact h 0 (by omega)
  | 1, hv => cases hv; exact h 1 (by omega)
  | 2, hv => cases hv; exact h 2 (by omega)
  | 3, hv => cases hv; exact h 3 (by omega)
  | 4, hv => cases hv; exact h 4 (by omega)
  | 5, hv => cases hv; exact h 5 (by omega)
  | 6, hv => cases hv; exact h 6 (by omega)
  | 7, hv => cases hv; exact h 7 (by omega)
  | q + 8, hv => simp at hv
theorem SLAt.range10 {w w' : World} {b off n : Nat} {O : Nat → Nat → Int} (h : SLAt 10 w b off n O) (hw : ∀ o, w'.cell? ⟨b, o, none⟩ = w.cell? ⟨b, o, none⟩) (j : Nat) (hj : j < n) : w'.rangeAt b (off + j * 10) [vi (O j 0), vi (O j 1), vi (O j 2), vi (O j 3), vi (O j 4), vi (O j 5), vi (O j 6), vi (O j 7), vi (O j 8), vi (O j 9)] :=
  Go.Ev.Gas.range10 (O j) fun q hq => by rw [hw, Nat.add_assoc]; exact h j q hj hq
end Go.Ev.Gas
end

section
set_option maxRecDepth 100000
namespace Go.Ev.Gas
open Go.RowKit Go.Ev.Num Go.Proofs
/-- The first operation that is not as defined, or how many they are. -/
def FirstBad (O : Nat → Nat → Int) (n k : Nat) : Prop := k ≤ n ∧ (∀ i, i < k → opOk (O i)) ∧ (k < n → ¬ opOk (O k))
open Classical in
theorem bad_is (O : Nat → Nat → Int) : ∀ n, ∃ k, FirstBad O n k
  | 0 => ⟨0, Nat.le_refl _, fun i hi => absurd hi (by omega), fun h => absurd h (by omega)⟩
  | n + 1 => by
    obtain ⟨k, h1, h2, h3⟩ := bad_is O n
    by_cases hk : k < n
    · exact ⟨k, by omega, h2, fun _ => h3 hk⟩
    · have e : k = n := by omega
      subst e
      by_cases h : opOk (O k)
      · exact ⟨k + 1, Nat.le_refl _, fun i hi => by
          by_cases e : i = k
          · subst e; exact h
          · exact h2 i (by omega), fun h => absurd h (by omega)⟩
      · exact ⟨k, by omega, h2, fun _ => h⟩
theorem op_says30 {o : Nat → Int} (h : ints o) : (opOk o → Says 30 (oV o) true) ∧ (¬ opOk o → Says 30 (oV o) false) :=
  says30 (z := zz zeros zeros o) (zz_ints (fun i => by show _ ≤ (0 : Int) ∧ (0 : Int) ≤ _; omega) (fun i => by show _ ≤ (0 : Int) ∧ (0 : Int) ≤ _; omega) h)
theorem op_says67 {o : Nat → Int} (h : ints o) : (opOk o → Says 67 (oV o) true) ∧ (¬ opOk o → Says 67 (oV o) false) :=
  says67 (z := zz zeros zeros o) (zz_ints (fun i => by show _ ≤ (0 : Int) ∧ (0 : Int) ≤ _; omega) (fun i => by show _ ≤ (0 : Int) ∧ (0 : Int) ≤ _; omega) h)
set_option maxHeartbeats 1000000 in
theorem ops36_some (b off n cap : Nat) (O : Nat → Nat → Int) (k : Nat) (w : World) (hn : n ≤ 9223372036854775807) (hnc : n ≤ cap) (hb : b < w.heap.size) (hS : SLAt 10 w b off n O) (hk : FirstBad O n k) (hO : ∀ i, ints (O i)) (r : Bool) (hr : r = decide (k = n)) :
    Calls Try.prog 36 #[.slice (some ⟨b, off, none⟩) n cap] w fun e w' => e = .returned (.bool r) ∧ Below w.heap.size w w' := by
  obtain ⟨hkn, hyes, hno⟩ := hk
  have HT := Lib.hid (fun i hi => (op_says30 (hO i)).1 (hyes i hi))
  have HF := Lib.hid (fun hlt => (op_says30 (hO k)).2 (hno hlt))
  have HS := Lib.hid hS
  have HR := Lib.hid hr
  clear hyes hno hS hr hO
  simp only [Says, oV] at HT HF
  go_enter Try.func36, Try.ntmps36
  go_wp2
  go_loopw [3] (fun i wr => ∃ j : Nat, j ≤ k ∧ i = .int .i64 j ∧ Below w.heap.size w wr) (fun i _ => n - (intOf i).toNat)
  case atStart => exact ⟨0, Nat.zero_le _, rfl, Below.refl _ _⟩
  case round =>
    obtain ⟨j, hj, rfl, hbel⟩ := hrel
    obtain ⟨hcr, hfr⟩ := bcell hbel
    by_cases hlt : j < n
    · have hrg := HS.out.range10 (w' := wr) (fun o => hbel.cell (p := ⟨b, o, none⟩) hb) j hlt
      have hz := hbel.size
      by_cases hjk : j < k
      · go_wp2_with (refine wpList_load_mid rfl 55 (.tmp 12) rfl b (off + j * 10) rfl _ _ hrg Try.underlying55 rfl (by kernel_rfl) ?_)
        refine (HT.out j hjk _).mono ?_
        rintro e w2 ⟨rfl, hb2⟩
        go_wp2
        go_roundw
        case rel => exact ⟨j + 1, by omega, by go_num, hbel.trans (hb2.mono (by omega))⟩
        case measure => simp [intOf]; omega
      · have e : j = k := by omega
        subst e
        go_wp2_with (refine wpList_load_mid rfl 55 (.tmp 12) rfl b (off + j * 10) rfl _ _ hrg Try.underlying55 rfl (by kernel_rfl) ?_)
        refine (HF.out hlt _).mono ?_
        rintro e w2 ⟨rfl, hb2⟩
        go_wp2
        go_ret
        exact ⟨by rw [HR.out, decide_eq_false (by omega)]; rfl, hbel.trans (hb2.mono (by omega))⟩
    · have e : j = n := by omega
      subst e
      have e : k = j := by omega
      subst e
      go_wp2
      go_ret
      have hr' : r = true := by rw [HR.out]; simp
      exact ⟨by rw [hr']; rfl, hbel⟩
set_option maxHeartbeats 1000000 in
theorem all74_some (b off n cap : Nat) (O : Nat → Nat → Int) (k : Nat) (w : World) (hn : n ≤ 9223372036854775807) (hnc : n ≤ cap) (hb : b < w.heap.size) (hS : SLAt 10 w b off n O) (hk : FirstBad O n k) (hO : ∀ i, ints (O i)) (r : Bool) (hr : r = decide (k = n)) :
    Calls Try.prog 74 #[.slice (some ⟨b, off, none⟩) n cap, .func (.func 67) #[] #[]] w fun e w' => e = .returned (.bool r) ∧ Below w.heap.size w w' := by
  obtain ⟨hkn, hyes, hno⟩ := hk
  have HT := Lib.hid (fun i hi => (op_says67 (hO i)).1 (hyes i hi))
  have HF := Lib.hid (fun hlt => (op_says67 (hO k)).2 (hno hlt))
  have HS := Lib.hid hS
  have HR := Lib.hid hr
  clear hyes hno hS hr hO
  simp only [Says, oV] at HT HF
  go_enter Try.func74, Try.ntmps74
  go_wp2
  go_loopw [9] (fun i wr => ∃ j : Nat, j ≤ k ∧ i = .int .i64 j ∧ Below w.heap.size w wr) (fun i _ => n - (intOf i).toNat)
  case atStart => exact ⟨0, Nat.zero_le _, rfl, Below.refl _ _⟩
  case round =>
    obtain ⟨j, hj, rfl, hbel⟩ := hrel
    obtain ⟨hcr, hfr⟩ := bcell hbel
    by_cases hlt : j < n
    · have hrg := HS.out.range10 (w' := wr) (fun o => hbel.cell (p := ⟨b, o, none⟩) hb) j hlt
      have hz := hbel.size
      by_cases hjk : j < k
      · go_wp2_with (refine wpList_load_mid rfl 55 (.tmp 11) rfl b (off + j * 10) rfl _ _ hrg Try.underlying55 rfl (by kernel_rfl) ?_)
        refine (HT.out j hjk _).mono ?_
        rintro e w2 ⟨rfl, hb2⟩
        go_wp2
        go_roundw
        case rel => exact ⟨j + 1, by omega, by go_num, hbel.trans (((Below.refl _ wr).alloc hz _).trans (hb2.mono (by simp; omega)))⟩
        case measure => simp [intOf]; omega
      · have e : j = k := by omega
        subst e
        go_wp2_with (refine wpList_load_mid rfl 55 (.tmp 11) rfl b (off + j * 10) rfl _ _ hrg Try.underlying55 rfl (by kernel_rfl) ?_)
        refine (HF.out hlt _).mono ?_
        rintro e w2 ⟨rfl, hb2⟩
        go_wp2
        go_ret
        exact ⟨by rw [HR.out, decide_eq_false (by omega)]; rfl, hbel.trans (((Below.refl _ wr).alloc hz _).trans (hb2.mono (by simp; omega)))⟩
    · have e : j = n := by omega
      subst e
      have e : k = j := by omega
      subst e
      go_wp2
      go_ret
      have hr' : r = true := by rw [HR.out]; simp
      exact ⟨by rw [hr']; rfl, hbel⟩
end Go.Ev.Gas
end

